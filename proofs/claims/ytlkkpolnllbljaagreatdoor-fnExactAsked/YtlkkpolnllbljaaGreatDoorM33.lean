/- Blocks by commands, the program: a command that swaps (swappedIn). -/
import Derived.Test.YtlkkpolnllbljaaGreatDoorM32
import Derived.BigQuiet
import Derived.Test.YtlkkpolnllbljaaGreatDoorM22
import Derived.RegionTactic
import Derived.BigRegion
namespace Go.Proofs.YtlkkpolnllbljaaGreatDoor
open Go.ChangeShapes Go.WideShapes Go.ChangeAt Go.RowKit

theorem Sq.set2 {w w1 wx : World} {j : Nat} {v : Value} (h : Sq w w1 wx) : Sq w w1 (wx.setCell ⟨w.heap.size + 1 + 1, j, none⟩ v) := fun a x h1 h2 h3 => (grownSet wx _ j v).cell (h a x h1 h2 h3) (by simpa using h1)

set_option maxRecDepth 20000 in
set_option maxHeartbeats 2000000 in
theorem iswap_no (u v : Value) (xs ys : List Int) (p x y : Int) (w : World) (h : Reads w u xs) (h' : Reads w v ys) (hb : bothOk xs ys = true) (hp : putB ys p y = false) :
    Calls Tryz.prog 253 #[.agg #[u, v], .agg #[.int .i64 p, .int .i64 x, .int .i64 y]] w fun e w' => ∃ a b, e = .returned (.tuple #[.agg #[a, b], AV ⟨1, []⟩]) ∧ OwnD w' w.heap.size a b xs (putI ys p y) ∧ Below w.heap.size w w' := by
  obtain ⟨n1, n8, nl⟩ := vol_len hb
  obtain ⟨w1, hw1⟩ : ∃ w1, w1 = (((w.alloc (.cells #[u, v] 36)).alloc (.cells #[.int .i64 p, .int .i64 x, .int .i64 y] 292)).alloc (.cells #[.slice none 0 0, .slice none 0 0] 36)).alloc (.cells #[.int .i64 0, .string ⟨#[]⟩] 44) := ⟨_, rfl⟩
  have HV : Hid (Vx w w1 u v 292 #[.int .i64 p, .int .i64 x, .int .i64 y] zeD ⟨0, []⟩) := by rw [hw1]; exact Vx.start w u v _ _
  have c1 := iwrittenTo_any u v xs ys p y w1 (h.below HV.out.bl (Nat.le_refl _)) (h'.below HV.out.bl (Nat.le_refl _)) (by omega) (by omega) hb
  rw [hp, show wrA false = ⟨1, []⟩ from rfl] at c1
  unfold AV anA S at c1
  dsimp only at c1
  obtain ⟨zs, hz⟩ : ∃ zs, zs = putI ys p y := ⟨_, rfl⟩
  simp only [← hz] at c1 ⊢
  have HX : Hid (Reads w u xs ∧ Reads w v ys ∧ bothOk xs ys = true) := ⟨h, h', hb⟩
  have m0 : w1.cell? ⟨w.heap.size + 1, 0, none⟩ = some (.int .i64 p) := HV.out.cm.cell 0 rfl
  have m1 : w1.cell? ⟨w.heap.size + 1, 1, none⟩ = some (.int .i64 x) := HV.out.cm.cell 1 rfl
  have m2 : w1.cell? ⟨w.heap.size + 1, 2, none⟩ = some (.int .i64 y) := HV.out.cm.cell 2 rfl
  obtain ⟨uo, uc, rfl⟩ := h.form
  obtain ⟨vo, vc, rfl⟩ := h'.form
  have HZ : Hid (zs = putI ys p y) := hz
  have HP : Hid (putB ys p y = false) := hp
  clear hb h h' hz n1 n8 nl hp
  go_enter Tryz.func253, Tryz.ntmps253
  go_upto_region 1 with fail
  rw [← hw1]
  clear hw1
  go_wp2_with (first | (refine wpList_getS Tryz.isD rfl _ rfl w.heap.size rfl _ rfl HV.out.dk ?_))
  refine c1.mono ?_
  rintro e w2 ⟨a, b, rfl, o2, b2⟩
  obtain ⟨w3, hw3⟩ : ∃ w3, w3 = (w2.alloc (.cells #[.slice none 0 0, .slice none 0 0] 36)).alloc (.cells #[.int .i64 0, .string ⟨#[]⟩] 44) := ⟨_, rfl⟩
  have b3 : Below w2.heap.size w2 w3 := by rw [hw3]; exact ((Below.refl _ _).alloc (Nat.le_refl _) _).alloc (by simp) _
  have hk : Hid (w.heap.size + 4 ≤ w2.heap.size) := Nat.le_trans HV.out.sz b2.size
  have H3 : Hid (Vx w w3 (.slice uo xs.length uc) (.slice vo ys.length vc) 292 #[.int .i64 p, .int .i64 x, .int .i64 y] zeD ⟨0, []⟩) := (HV.out.next b2).next b3
  obtain ⟨ao, ac, rfl⟩ := o2.1.reads.form
  obtain ⟨bo, bc, rfl⟩ := o2.2.1.reads.form
  have O2 : Hid (OwnD w2 (w.heap.size + 4) (.slice ao xs.length ac) (.slice bo zs.length bc) xs zs) := o2.mono' HV.out.sz
  have O3 : Hid (OwnD w3 (w.heap.size + 4) (.slice ao xs.length ac) (.slice bo zs.length bc) xs zs) := OwnD.bel O2.out b3
  have na : Hid (∀ k, w2.heap.size ≤ k → (Value.slice ao xs.length ac).ownBlock ≠ some k ∧ (Value.slice bo zs.length bc).ownBlock ≠ some k) := fun k hk => ⟨fun e => by have := (O2.out.1.lt _ e).2; omega, fun e => by have := (O2.out.2.1.lt _ e).2; omega⟩
  have s3 : Hid (StB w3 w2.heap.size 36 zeD ∧ StB w3 (w2.heap.size + 1) 44 (anA ⟨0, []⟩)) := by
    rw [hw3]
    have q := StB.new (w2.alloc (.cells zeD 36)) 44 (anA ⟨0, []⟩)
    simp only [World.size_alloc] at q
    exact ⟨(StB.new w2 _ zeD).alloc _, q⟩
  clear c1 o2 b2 HV m0 m1 m2 O2 b3
  go_upto_region 2 with (first
    | (rw [← hw3]; refine wpList_putS Tryz.isD rfl _ _ rfl w2.heap.size #[.slice ao xs.length ac, .slice bo zs.length bc] zeD rfl rfl rfl rfl (dkA_one rfl rfl) s3.out.1 ?_; intro w4 s4 g4; clear hw3)
    | (refine wpList_putS Tryz.isA rfl _ _ rfl (w2.heap.size + 1) (anA ⟨1, []⟩) (anA ⟨0, []⟩) rfl rfl rfl rfl (anA_one _) (s3.out.2.kept g4 (by simp)) ?_; intro w5 s5 g5))
  obtain ⟨k6, hk6⟩ : ∃ k6, k6 = w2.heap.size := ⟨_, rfl⟩
  rw [← hk6] at hk s4 g4 s5 g5 na ⊢
  have H5 : Hid (Vx w w5 (.slice uo xs.length uc) (.slice vo ys.length vc) 292 #[.int .i64 p, .int .i64 x, .int .i64 y] zeD ⟨0, []⟩) := (H3.out.grown g4 hk.out).grown g5 (Nat.le_succ_of_le hk.out)
  have S5 : Hid (StB w5 k6 36 #[.slice ao xs.length ac, .slice bo zs.length bc] ∧ StB w5 (k6 + 1) 44 (anA ⟨1, []⟩)) := ⟨s4.kept g5 (by simp), s5⟩
  have O5 : Hid (OwnD w5 (w.heap.size + 4) (.slice ao xs.length ac) (.slice bo zs.length bc) xs zs) := ⟨(O3.out.1.kept g4 (.inr (na.out k6 (Nat.le_refl _)).1)).kept g5 (.inr (na.out (k6 + 1) (Nat.le_succ _)).1), (O3.out.2.1.kept g4 (.inr (na.out k6 (Nat.le_refl _)).2)).kept g5 (.inr (na.out (k6 + 1) (Nat.le_succ _)).2), O3.out.2.2⟩
  clear hk6 s3 s4 s5 g4 g5 na O3 H3
  have t0 : w5.cell? ⟨k6 + 1, 0, none⟩ = some (.int .i64 (⟨1, []⟩ : An).st) := S5.out.2.cell 0 rfl
  have t1 : w5.cell? ⟨k6 + 1, 1, none⟩ = some (.string ⟨#[]⟩) := S5.out.2.cell 1 rfl
  dsimp only at t0
  have d0 : w5.cell? ⟨w.heap.size, 0, none⟩ = some (.slice uo xs.length uc) := H5.out.dk.cell 0 rfl
  have d1 : w5.cell? ⟨w.heap.size, 1, none⟩ = some (.slice vo ys.length vc) := H5.out.dk.cell 1 rfl
  have a0 : w5.cell? ⟨w.heap.size + 1, 0, none⟩ = some (.int .i64 p) := H5.out.cm.cell 0 rfl
  have a1 : w5.cell? ⟨w.heap.size + 1, 1, none⟩ = some (.int .i64 x) := H5.out.cm.cell 1 rfl
  simp only [Act.put]
  go_quiet (fail)
  obtain ⟨w6, hw6⟩ : ∃ w6, w6 = w5.drewN nq := ⟨_, rfl⟩
  rw [← hw6]
  have H6 : Hid (Vx w w6.drew (.slice uo xs.length uc) (.slice vo ys.length vc) 292 #[.int .i64 p, .int .i64 x, .int .i64 y] zeD ⟨0, []⟩ ∧ Vx w w6 (.slice uo xs.length uc) (.slice vo ys.length vc) 292 #[.int .i64 p, .int .i64 x, .int .i64 y] zeD ⟨0, []⟩) := by
    have e : Vx w w6 (.slice uo xs.length uc) (.slice vo ys.length vc) 292 #[.int .i64 p, .int .i64 x, .int .i64 y] zeD ⟨0, []⟩ := by rw [hw6]; exact ⟨H5.out.dk, H5.out.cm, H5.out.rd, H5.out.ra, below_drewN H5.out.bl nq, H5.out.sz⟩
    exact ⟨e.drew, e⟩
  have S6 : Hid (StB w6 k6 36 #[.slice ao xs.length ac, .slice bo zs.length bc] ∧ StB w6 (k6 + 1) 44 (anA ⟨1, []⟩)) := by rw [hw6]; exact S5.out
  have O6 : Hid (OwnD w6.drew (w.heap.size + 4) (.slice ao xs.length ac) (.slice bo zs.length bc) xs zs) := by rw [hw6]; exact O5.out
  clear H5 S5 O5 t0 t1 d0 d1 a0 a1 hw6
  have q0 : ∀ w', Sq w w6 w' → w'.cell? ⟨k6, 0, none⟩ = some (.slice ao xs.length ac) := fun w' b => b _ _ (by have := hk.out; dsimp only; omega) (by have := hk.out; dsimp only; omega) (S6.out.1.cell 0 rfl)
  have q1 : ∀ w', Sq w w6 w' → w'.cell? ⟨k6, 1, none⟩ = some (.slice bo zs.length bc) := fun w' b => b _ _ (by have := hk.out; dsimp only; omega) (by have := hk.out; dsimp only; omega) (S6.out.1.cell 1 rfl)
  have q2 : ∀ w', Sq w w6 w' → w'.cell? ⟨k6 + 1, 0, none⟩ = some (.int .i64 (⟨1, []⟩ : An).st) := fun w' b => b _ _ (by have := hk.out; dsimp only; omega) (by have := hk.out; dsimp only; omega) (S6.out.2.cell 0 rfl)
  have q3 : ∀ w', Sq w w6 w' → w'.cell? ⟨k6 + 1, 1, none⟩ = some (.string ⟨#[]⟩) := fun w' b => b _ _ (by have := hk.out; dsimp only; omega) (by have := hk.out; dsimp only; omega) (S6.out.2.cell 1 rfl)
  dsimp only at q2
  have rd0 : w6.drew.cell? ⟨w.heap.size + 1 + 1, 0, none⟩ = some (.slice none 0 0) := H6.out.1.rd.cell 0 rfl
  have frd0 := H6.out.1.rd.frozen 0
  have rd0' : w6.cell? ⟨w.heap.size + 1 + 1, 0, none⟩ = some (.slice none 0 0) := H6.out.2.rd.cell 0 rfl
  have frd0' := H6.out.2.rd.frozen 0
  have rd1 : w6.drew.cell? ⟨w.heap.size + 1 + 1, 1, none⟩ = some (.slice none 0 0) := H6.out.1.rd.cell 1 rfl
  have frd1 := H6.out.1.rd.frozen 1
  have rd1' : w6.cell? ⟨w.heap.size + 1 + 1, 1, none⟩ = some (.slice none 0 0) := H6.out.2.rd.cell 1 rfl
  have frd1' := H6.out.2.rd.frozen 1
  have ra0 : w6.drew.cell? ⟨w.heap.size + 1 + 1 + 1, 0, none⟩ = some (.int .i64 0) := H6.out.1.ra.cell 0 rfl
  have fra0 := H6.out.1.ra.frozen 0
  have ra0' : w6.cell? ⟨w.heap.size + 1 + 1 + 1, 0, none⟩ = some (.int .i64 0) := H6.out.2.ra.cell 0 rfl
  have fra0' := H6.out.2.ra.frozen 0
  have ra1 : w6.drew.cell? ⟨w.heap.size + 1 + 1 + 1, 1, none⟩ = some (.string ⟨#[]⟩) := H6.out.1.ra.cell 1 rfl
  have fra1 := H6.out.1.ra.frozen 1
  have ra1' : w6.cell? ⟨w.heap.size + 1 + 1 + 1, 1, none⟩ = some (.string ⟨#[]⟩) := H6.out.2.ra.cell 1 rfl
  have fra1' := H6.out.2.ra.frozen 1
  go_upto_region 3 with fail
  go_region_held3 (fun w' => Sq w w6 w') ((repeat' (first | with_reducible assumption | with_reducible exact Sq.refl _ _ | with_reducible refine Sq.al ?_ | with_reducible refine Sq.dr ?_ | with_reducible refine Sq.set2 ?_ | with_reducible refine Sq.set3 ?_ | with_reducible refine Sq.put2 ?_ (by with_reducible assumption) | with_reducible refine Sq.bel ?_ (by with_reducible assumption)))) (fail)
  all_goals
    go_wp2
    have T5 := (H6.out.1.rd.put 0 (.slice ao xs.length ac) rfl).put 1 (.slice bo zs.length bc) (ds := #[.slice ao xs.length ac, .slice bo zs.length bc]) rfl
    have G5 := (grownSet w6.drew (w.heap.size + 1 + 1) 0 (.slice ao xs.length ac)).trans (grownSet _ (w.heap.size + 1 + 1) 1 (.slice bo zs.length bc))
    have T6 := ((H6.out.1.ra.kept G5 (by simp)).put 0 (.int .i64 (⟨1, []⟩ : An).st) rfl).put 1 (S []) (ds := anA ⟨1, []⟩) rfl
    have G6 := (grownSet ((w6.drew.setCell ⟨w.heap.size + 1 + 1, 0, none⟩ (.slice ao xs.length ac)).setCell ⟨w.heap.size + 1 + 1, 1, none⟩ (.slice bo zs.length bc)) (w.heap.size + 1 + 1 + 1) 0 (.int .i64 (⟨1, []⟩ : An).st)).trans (grownSet _ (w.heap.size + 1 + 1 + 1) 1 (S []))
    refine bodyPost_ret (results_DA rfl _ _ (w.heap.size + 1 + 1) (w.heap.size + 1 + 1 + 1) _ _ rfl rfl rfl rfl (T5.kept G6 (by simp)) T6) rfl ?_
    exact ⟨_, _, rfl, H6.out.1.fin O6.out.1 O6.out.2.1 (Nat.le_refl _) O6.out.2.2 G5 G6⟩

set_option maxRecDepth 20000 in
set_option maxHeartbeats 2000000 in
theorem iswap_yes (u v : Value) (xs ys : List Int) (j : Nat) (x y : Int) (w : World) (h : Reads w u xs) (h' : Reads w v ys) (hb : bothOk xs ys = true) (hp : putB ys (j : Int) y = true) (hj : (j : Int) < (ys.length : Int)) (hx : ys.getD j 0 = x) :
    Calls Tryz.prog 253 #[.agg #[u, v], .agg #[.int .i64 (j : Int), .int .i64 x, .int .i64 y]] w fun e w' => ∃ a b, e = .returned (.tuple #[.agg #[a, b], AV ⟨0, []⟩]) ∧ OwnD w' w.heap.size a b xs (putI ys (j : Int) y) ∧ Below w.heap.size w w' := by
  obtain ⟨n1, n8, nl⟩ := vol_len hb
  obtain ⟨w1, hw1⟩ : ∃ w1, w1 = (((w.alloc (.cells #[u, v] 36)).alloc (.cells #[.int .i64 (j : Int), .int .i64 x, .int .i64 y] 292)).alloc (.cells #[.slice none 0 0, .slice none 0 0] 36)).alloc (.cells #[.int .i64 0, .string ⟨#[]⟩] 44) := ⟨_, rfl⟩
  have HV : Hid (Vx w w1 u v 292 #[.int .i64 (j : Int), .int .i64 x, .int .i64 y] zeD ⟨0, []⟩) := by rw [hw1]; exact Vx.start w u v _ _
  have c1 := iwrittenTo_any u v xs ys (j : Int) y w1 (h.below HV.out.bl (Nat.le_refl _)) (h'.below HV.out.bl (Nat.le_refl _)) (by omega) (by omega) hb
  rw [hp, show wrA true = ⟨0, []⟩ from rfl] at c1
  unfold AV anA S at c1
  dsimp only at c1
  obtain ⟨zs, hz⟩ : ∃ zs, zs = putI ys (j : Int) y := ⟨_, rfl⟩
  simp only [← hz] at c1 ⊢
  have HX : Hid (Reads w u xs ∧ Reads w v ys ∧ bothOk xs ys = true) := ⟨h, h', hb⟩
  have m0 : w1.cell? ⟨w.heap.size + 1, 0, none⟩ = some (.int .i64 (j : Int)) := HV.out.cm.cell 0 rfl
  have m1 : w1.cell? ⟨w.heap.size + 1, 1, none⟩ = some (.int .i64 x) := HV.out.cm.cell 1 rfl
  have m2 : w1.cell? ⟨w.heap.size + 1, 2, none⟩ = some (.int .i64 y) := HV.out.cm.cell 2 rfl
  obtain ⟨uo, uc, rfl⟩ := h.form
  obtain ⟨vo, vc, rfl⟩ := h'.form
  obtain ⟨-, -, -, hcv⟩ := reads_cells h'
  obtain ⟨vb, vf, rfl, hc0⟩ := hcv j (by omega)
  have hvb : Hid (vb < w.heap.size) := World.block_lt_of_cell? w _ hc0
  rw [hx] at hc0
  have HC : Hid (w.cell? ⟨vb, vf + j, none⟩ = some (.int .i64 x)) := hc0
  have HZ : Hid (zs = putI ys (j : Int) y) := hz
  have HP : Hid (putB ys (j : Int) y = true) := hp
  clear hx hcv hc0 hb h h' hz n1 n8 nl hp
  go_enter Tryz.func253, Tryz.ntmps253
  go_upto_region 1 with fail
  rw [← hw1]
  clear hw1
  go_wp2_with (first | (refine wpList_getS Tryz.isD rfl _ rfl w.heap.size rfl _ rfl HV.out.dk ?_))
  refine c1.mono ?_
  rintro e w2 ⟨a, b, rfl, o2, b2⟩
  obtain ⟨w3, hw3⟩ : ∃ w3, w3 = (w2.alloc (.cells #[.slice none 0 0, .slice none 0 0] 36)).alloc (.cells #[.int .i64 0, .string ⟨#[]⟩] 44) := ⟨_, rfl⟩
  have b3 : Below w2.heap.size w2 w3 := by rw [hw3]; exact ((Below.refl _ _).alloc (Nat.le_refl _) _).alloc (by simp) _
  have hk : Hid (w.heap.size + 4 ≤ w2.heap.size) := Nat.le_trans HV.out.sz b2.size
  have H3 : Hid (Vx w w3 (.slice uo xs.length uc) (.slice (some ⟨vb, vf, none⟩) ys.length vc) 292 #[.int .i64 (j : Int), .int .i64 x, .int .i64 y] zeD ⟨0, []⟩) := (HV.out.next b2).next b3
  obtain ⟨ao, ac, rfl⟩ := o2.1.reads.form
  obtain ⟨bo, bc, rfl⟩ := o2.2.1.reads.form
  have O2 : Hid (OwnD w2 (w.heap.size + 4) (.slice ao xs.length ac) (.slice bo zs.length bc) xs zs) := o2.mono' HV.out.sz
  have O3 : Hid (OwnD w3 (w.heap.size + 4) (.slice ao xs.length ac) (.slice bo zs.length bc) xs zs) := OwnD.bel O2.out b3
  have na : Hid (∀ k, w2.heap.size ≤ k → (Value.slice ao xs.length ac).ownBlock ≠ some k ∧ (Value.slice bo zs.length bc).ownBlock ≠ some k) := fun k hk => ⟨fun e => by have := (O2.out.1.lt _ e).2; omega, fun e => by have := (O2.out.2.1.lt _ e).2; omega⟩
  have s3 : Hid (StB w3 w2.heap.size 36 zeD ∧ StB w3 (w2.heap.size + 1) 44 (anA ⟨0, []⟩)) := by
    rw [hw3]
    have q := StB.new (w2.alloc (.cells zeD 36)) 44 (anA ⟨0, []⟩)
    simp only [World.size_alloc] at q
    exact ⟨(StB.new w2 _ zeD).alloc _, q⟩
  clear c1 o2 b2 HV m0 m1 m2 O2 b3
  go_upto_region 2 with (first
    | (rw [← hw3]; refine wpList_putS Tryz.isD rfl _ _ rfl w2.heap.size #[.slice ao xs.length ac, .slice bo zs.length bc] zeD rfl rfl rfl rfl (dkA_one rfl rfl) s3.out.1 ?_; intro w4 s4 g4; clear hw3)
    | (refine wpList_putS Tryz.isA rfl _ _ rfl (w2.heap.size + 1) (anA ⟨0, []⟩) (anA ⟨0, []⟩) rfl rfl rfl rfl (anA_one _) (s3.out.2.kept g4 (by simp)) ?_; intro w5 s5 g5))
  obtain ⟨k6, hk6⟩ : ∃ k6, k6 = w2.heap.size := ⟨_, rfl⟩
  rw [← hk6] at hk s4 g4 s5 g5 na ⊢
  have H5 : Hid (Vx w w5 (.slice uo xs.length uc) (.slice (some ⟨vb, vf, none⟩) ys.length vc) 292 #[.int .i64 (j : Int), .int .i64 x, .int .i64 y] zeD ⟨0, []⟩) := (H3.out.grown g4 hk.out).grown g5 (Nat.le_succ_of_le hk.out)
  have S5 : Hid (StB w5 k6 36 #[.slice ao xs.length ac, .slice bo zs.length bc] ∧ StB w5 (k6 + 1) 44 (anA ⟨0, []⟩)) := ⟨s4.kept g5 (by simp), s5⟩
  have O5 : Hid (OwnD w5 (w.heap.size + 4) (.slice ao xs.length ac) (.slice bo zs.length bc) xs zs) := ⟨(O3.out.1.kept g4 (.inr (na.out k6 (Nat.le_refl _)).1)).kept g5 (.inr (na.out (k6 + 1) (Nat.le_succ _)).1), (O3.out.2.1.kept g4 (.inr (na.out k6 (Nat.le_refl _)).2)).kept g5 (.inr (na.out (k6 + 1) (Nat.le_succ _)).2), O3.out.2.2⟩
  clear hk6 s3 s4 s5 g4 g5 na O3 H3
  have t0 : w5.cell? ⟨k6 + 1, 0, none⟩ = some (.int .i64 (⟨0, []⟩ : An).st) := S5.out.2.cell 0 rfl
  have t1 : w5.cell? ⟨k6 + 1, 1, none⟩ = some (.string ⟨#[]⟩) := S5.out.2.cell 1 rfl
  dsimp only at t0
  have d0 : w5.cell? ⟨w.heap.size, 0, none⟩ = some (.slice uo xs.length uc) := H5.out.dk.cell 0 rfl
  have d1 : w5.cell? ⟨w.heap.size, 1, none⟩ = some (.slice (some ⟨vb, vf, none⟩) ys.length vc) := H5.out.dk.cell 1 rfl
  have a0 : w5.cell? ⟨w.heap.size + 1, 0, none⟩ = some (.int .i64 (j : Int)) := H5.out.cm.cell 0 rfl
  have a1 : w5.cell? ⟨w.heap.size + 1, 1, none⟩ = some (.int .i64 x) := H5.out.cm.cell 1 rfl
  simp only [Act.put]
  have zc : w5.cell? ⟨vb, vf + j, none⟩ = some (.int .i64 x) := (H5.out.bl.cell (p := ⟨vb, vf + j, none⟩) hvb.out).trans HC.out
  go_quiet (fail)
  obtain ⟨w6, hw6⟩ : ∃ w6, w6 = w5.drewN nq := ⟨_, rfl⟩
  rw [← hw6]
  have H6 : Hid (Vx w w6.drew (.slice uo xs.length uc) (.slice (some ⟨vb, vf, none⟩) ys.length vc) 292 #[.int .i64 (j : Int), .int .i64 x, .int .i64 y] zeD ⟨0, []⟩ ∧ Vx w w6 (.slice uo xs.length uc) (.slice (some ⟨vb, vf, none⟩) ys.length vc) 292 #[.int .i64 (j : Int), .int .i64 x, .int .i64 y] zeD ⟨0, []⟩) := by
    have e : Vx w w6 (.slice uo xs.length uc) (.slice (some ⟨vb, vf, none⟩) ys.length vc) 292 #[.int .i64 (j : Int), .int .i64 x, .int .i64 y] zeD ⟨0, []⟩ := by rw [hw6]; exact ⟨H5.out.dk, H5.out.cm, H5.out.rd, H5.out.ra, below_drewN H5.out.bl nq, H5.out.sz⟩
    exact ⟨e.drew, e⟩
  have S6 : Hid (StB w6 k6 36 #[.slice ao xs.length ac, .slice bo zs.length bc] ∧ StB w6 (k6 + 1) 44 (anA ⟨0, []⟩)) := by rw [hw6]; exact S5.out
  have O6 : Hid (OwnD w6.drew (w.heap.size + 4) (.slice ao xs.length ac) (.slice bo zs.length bc) xs zs) := by rw [hw6]; exact O5.out
  clear zc H5 S5 O5 t0 t1 d0 d1 a0 a1 hw6
  have q0 : ∀ w', Sq w w6 w' → w'.cell? ⟨k6, 0, none⟩ = some (.slice ao xs.length ac) := fun w' b => b _ _ (by have := hk.out; dsimp only; omega) (by have := hk.out; dsimp only; omega) (S6.out.1.cell 0 rfl)
  have q1 : ∀ w', Sq w w6 w' → w'.cell? ⟨k6, 1, none⟩ = some (.slice bo zs.length bc) := fun w' b => b _ _ (by have := hk.out; dsimp only; omega) (by have := hk.out; dsimp only; omega) (S6.out.1.cell 1 rfl)
  have q2 : ∀ w', Sq w w6 w' → w'.cell? ⟨k6 + 1, 0, none⟩ = some (.int .i64 (⟨0, []⟩ : An).st) := fun w' b => b _ _ (by have := hk.out; dsimp only; omega) (by have := hk.out; dsimp only; omega) (S6.out.2.cell 0 rfl)
  have q3 : ∀ w', Sq w w6 w' → w'.cell? ⟨k6 + 1, 1, none⟩ = some (.string ⟨#[]⟩) := fun w' b => b _ _ (by have := hk.out; dsimp only; omega) (by have := hk.out; dsimp only; omega) (S6.out.2.cell 1 rfl)
  dsimp only at q2
  have rd0 : w6.drew.cell? ⟨w.heap.size + 1 + 1, 0, none⟩ = some (.slice none 0 0) := H6.out.1.rd.cell 0 rfl
  have frd0 := H6.out.1.rd.frozen 0
  have rd0' : w6.cell? ⟨w.heap.size + 1 + 1, 0, none⟩ = some (.slice none 0 0) := H6.out.2.rd.cell 0 rfl
  have frd0' := H6.out.2.rd.frozen 0
  have rd1 : w6.drew.cell? ⟨w.heap.size + 1 + 1, 1, none⟩ = some (.slice none 0 0) := H6.out.1.rd.cell 1 rfl
  have frd1 := H6.out.1.rd.frozen 1
  have rd1' : w6.cell? ⟨w.heap.size + 1 + 1, 1, none⟩ = some (.slice none 0 0) := H6.out.2.rd.cell 1 rfl
  have frd1' := H6.out.2.rd.frozen 1
  have ra0 : w6.drew.cell? ⟨w.heap.size + 1 + 1 + 1, 0, none⟩ = some (.int .i64 0) := H6.out.1.ra.cell 0 rfl
  have fra0 := H6.out.1.ra.frozen 0
  have ra0' : w6.cell? ⟨w.heap.size + 1 + 1 + 1, 0, none⟩ = some (.int .i64 0) := H6.out.2.ra.cell 0 rfl
  have fra0' := H6.out.2.ra.frozen 0
  have ra1 : w6.drew.cell? ⟨w.heap.size + 1 + 1 + 1, 1, none⟩ = some (.string ⟨#[]⟩) := H6.out.1.ra.cell 1 rfl
  have fra1 := H6.out.1.ra.frozen 1
  have ra1' : w6.cell? ⟨w.heap.size + 1 + 1 + 1, 1, none⟩ = some (.string ⟨#[]⟩) := H6.out.2.ra.cell 1 rfl
  have fra1' := H6.out.2.ra.frozen 1
  go_upto_region 3 with fail
  go_region_held3 (fun w' => Sq w w6 w') ((repeat' (first | with_reducible assumption | with_reducible exact Sq.refl _ _ | with_reducible refine Sq.al ?_ | with_reducible refine Sq.dr ?_ | with_reducible refine Sq.set2 ?_ | with_reducible refine Sq.set3 ?_ | with_reducible refine Sq.put2 ?_ (by with_reducible assumption) | with_reducible refine Sq.bel ?_ (by with_reducible assumption)))) (fail)
  all_goals
    go_wp2
    have T5 := (H6.out.1.rd.put 0 (.slice ao xs.length ac) rfl).put 1 (.slice bo zs.length bc) (ds := #[.slice ao xs.length ac, .slice bo zs.length bc]) rfl
    have G5 := (grownSet w6.drew (w.heap.size + 1 + 1) 0 (.slice ao xs.length ac)).trans (grownSet _ (w.heap.size + 1 + 1) 1 (.slice bo zs.length bc))
    have T6 := ((H6.out.1.ra.kept G5 (by simp)).put 0 (.int .i64 (⟨0, []⟩ : An).st) rfl).put 1 (S []) (ds := anA ⟨0, []⟩) rfl
    have G6 := (grownSet ((w6.drew.setCell ⟨w.heap.size + 1 + 1, 0, none⟩ (.slice ao xs.length ac)).setCell ⟨w.heap.size + 1 + 1, 1, none⟩ (.slice bo zs.length bc)) (w.heap.size + 1 + 1 + 1) 0 (.int .i64 (⟨0, []⟩ : An).st)).trans (grownSet _ (w.heap.size + 1 + 1 + 1) 1 (S []))
    refine bodyPost_ret (results_DA rfl _ _ (w.heap.size + 1 + 1) (w.heap.size + 1 + 1 + 1) _ _ rfl rfl rfl rfl (T5.kept G6 (by simp)) T6) rfl ?_
    exact ⟨_, _, rfl, H6.out.1.fin O6.out.1 O6.out.2.1 (Nat.le_refl _) O6.out.2.2 G5 G6⟩

set_option maxRecDepth 20000 in
set_option maxHeartbeats 2000000 in
theorem iswap_unlike (u v : Value) (xs ys : List Int) (j : Nat) (x y : Int) (w : World) (h : Reads w u xs) (h' : Reads w v ys) (hb : bothOk xs ys = true) (hp : putB ys (j : Int) y = true) (hj : (j : Int) < (ys.length : Int)) (hx : ys.getD j 0 ≠ x) (ht : Tab w) :
    Calls Tryz.prog 253 #[.agg #[u, v], .agg #[.int .i64 (j : Int), .int .i64 x, .int .i64 y]] w fun e w' => ∃ a b, e = .returned (.tuple #[.agg #[a, b], AV ⟨2, decI (ys.getD j 0)⟩]) ∧ OwnD w' w.heap.size a b xs ys ∧ Below w.heap.size w w' := by
  obtain ⟨n1, n8, nl⟩ := vol_len hb
  obtain ⟨w1, hw1⟩ : ∃ w1, w1 = (((w.alloc (.cells #[u, v] 36)).alloc (.cells #[.int .i64 (j : Int), .int .i64 x, .int .i64 y] 292)).alloc (.cells #[.slice none 0 0, .slice none 0 0] 36)).alloc (.cells #[.int .i64 0, .string ⟨#[]⟩] 44) := ⟨_, rfl⟩
  have HV : Hid (Vx w w1 u v 292 #[.int .i64 (j : Int), .int .i64 x, .int .i64 y] zeD ⟨0, []⟩) := by rw [hw1]; exact Vx.start w u v _ _
  have c1 := iwrittenTo_any u v xs ys (j : Int) y w1 (h.below HV.out.bl (Nat.le_refl _)) (h'.below HV.out.bl (Nat.le_refl _)) (by omega) (by omega) hb
  rw [hp, show wrA true = ⟨0, []⟩ from rfl] at c1
  unfold AV anA S at c1
  dsimp only at c1
  have hzb := vol_val hb j
  obtain ⟨z, hz1⟩ : ∃ z, z = ys.getD j 0 := ⟨_, rfl⟩
  rw [← hz1] at hx hzb ⊢
  have HL : Hid (1 ≤ xs.length ∧ xs.length ≤ 8 ∧ ys.length = xs.length ∧ 0 ≤ z ∧ z ≤ 9999) := ⟨n1, n8, nl, hzb⟩
  have HT : Hid (Tab w) := ht
  have he1 : (z == x) = false := by simpa using hx
  have he2 : decide (z = x) = false := by simpa using hx
  obtain ⟨zs, hz⟩ : ∃ zs, zs = putI ys (j : Int) y := ⟨_, rfl⟩
  simp only [← hz] at c1
  have HX : Hid (Reads w u xs ∧ Reads w v ys ∧ bothOk xs ys = true) := ⟨h, h', hb⟩
  have m0 : w1.cell? ⟨w.heap.size + 1, 0, none⟩ = some (.int .i64 (j : Int)) := HV.out.cm.cell 0 rfl
  have m1 : w1.cell? ⟨w.heap.size + 1, 1, none⟩ = some (.int .i64 x) := HV.out.cm.cell 1 rfl
  have m2 : w1.cell? ⟨w.heap.size + 1, 2, none⟩ = some (.int .i64 y) := HV.out.cm.cell 2 rfl
  obtain ⟨uo, uc, rfl⟩ := h.form
  obtain ⟨vo, vc, rfl⟩ := h'.form
  obtain ⟨-, -, -, hcv⟩ := reads_cells h'
  obtain ⟨vb, vf, rfl, hc0⟩ := hcv j (by omega)
  have hvb : Hid (vb < w.heap.size) := World.block_lt_of_cell? w _ hc0
  rw [← hz1] at hc0
  have HC : Hid (w.cell? ⟨vb, vf + j, none⟩ = some (.int .i64 z)) := hc0
  have HZ : Hid (zs = putI ys (j : Int) y) := hz
  have HP : Hid (putB ys (j : Int) y = true) := hp
  clear hz1 hzb ht hcv hc0 hb h h' hz n1 n8 nl hp
  go_enter Tryz.func253, Tryz.ntmps253
  go_upto_region 1 with fail
  rw [← hw1]
  clear hw1
  go_wp2_with (first | (refine wpList_getS Tryz.isD rfl _ rfl w.heap.size rfl _ rfl HV.out.dk ?_))
  refine c1.mono ?_
  rintro e w2 ⟨a, b, rfl, o2, b2⟩
  obtain ⟨w3, hw3⟩ : ∃ w3, w3 = (w2.alloc (.cells #[.slice none 0 0, .slice none 0 0] 36)).alloc (.cells #[.int .i64 0, .string ⟨#[]⟩] 44) := ⟨_, rfl⟩
  have b3 : Below w2.heap.size w2 w3 := by rw [hw3]; exact ((Below.refl _ _).alloc (Nat.le_refl _) _).alloc (by simp) _
  have hk : Hid (w.heap.size + 4 ≤ w2.heap.size) := Nat.le_trans HV.out.sz b2.size
  have H3 : Hid (Vx w w3 (.slice uo xs.length uc) (.slice (some ⟨vb, vf, none⟩) ys.length vc) 292 #[.int .i64 (j : Int), .int .i64 x, .int .i64 y] zeD ⟨0, []⟩) := (HV.out.next b2).next b3
  obtain ⟨ao, ac, rfl⟩ := o2.1.reads.form
  obtain ⟨bo, bc, rfl⟩ := o2.2.1.reads.form
  have O2 : Hid (OwnD w2 (w.heap.size + 4) (.slice ao xs.length ac) (.slice bo zs.length bc) xs zs) := o2.mono' HV.out.sz
  have O3 : Hid (OwnD w3 (w.heap.size + 4) (.slice ao xs.length ac) (.slice bo zs.length bc) xs zs) := OwnD.bel O2.out b3
  have na : Hid (∀ k, w2.heap.size ≤ k → (Value.slice ao xs.length ac).ownBlock ≠ some k ∧ (Value.slice bo zs.length bc).ownBlock ≠ some k) := fun k hk => ⟨fun e => by have := (O2.out.1.lt _ e).2; omega, fun e => by have := (O2.out.2.1.lt _ e).2; omega⟩
  have s3 : Hid (StB w3 w2.heap.size 36 zeD ∧ StB w3 (w2.heap.size + 1) 44 (anA ⟨0, []⟩)) := by
    rw [hw3]
    have q := StB.new (w2.alloc (.cells zeD 36)) 44 (anA ⟨0, []⟩)
    simp only [World.size_alloc] at q
    exact ⟨(StB.new w2 _ zeD).alloc _, q⟩
  clear c1 o2 b2 HV m0 m1 m2 O2 b3
  go_upto_region 2 with (first
    | (rw [← hw3]; refine wpList_putS Tryz.isD rfl _ _ rfl w2.heap.size #[.slice ao xs.length ac, .slice bo zs.length bc] zeD rfl rfl rfl rfl (dkA_one rfl rfl) s3.out.1 ?_; intro w4 s4 g4; clear hw3)
    | (refine wpList_putS Tryz.isA rfl _ _ rfl (w2.heap.size + 1) (anA ⟨0, []⟩) (anA ⟨0, []⟩) rfl rfl rfl rfl (anA_one _) (s3.out.2.kept g4 (by simp)) ?_; intro w5 s5 g5))
  obtain ⟨k6, hk6⟩ : ∃ k6, k6 = w2.heap.size := ⟨_, rfl⟩
  rw [← hk6] at hk s4 g4 s5 g5 na ⊢
  have H5 : Hid (Vx w w5 (.slice uo xs.length uc) (.slice (some ⟨vb, vf, none⟩) ys.length vc) 292 #[.int .i64 (j : Int), .int .i64 x, .int .i64 y] zeD ⟨0, []⟩) := (H3.out.grown g4 hk.out).grown g5 (Nat.le_succ_of_le hk.out)
  have S5 : Hid (StB w5 k6 36 #[.slice ao xs.length ac, .slice bo zs.length bc] ∧ StB w5 (k6 + 1) 44 (anA ⟨0, []⟩)) := ⟨s4.kept g5 (by simp), s5⟩
  have O5 : Hid (OwnD w5 (w.heap.size + 4) (.slice ao xs.length ac) (.slice bo zs.length bc) xs zs) := ⟨(O3.out.1.kept g4 (.inr (na.out k6 (Nat.le_refl _)).1)).kept g5 (.inr (na.out (k6 + 1) (Nat.le_succ _)).1), (O3.out.2.1.kept g4 (.inr (na.out k6 (Nat.le_refl _)).2)).kept g5 (.inr (na.out (k6 + 1) (Nat.le_succ _)).2), O3.out.2.2⟩
  clear hk6 s3 s4 s5 g4 g5 na O3 H3
  have t0 : w5.cell? ⟨k6 + 1, 0, none⟩ = some (.int .i64 (⟨0, []⟩ : An).st) := S5.out.2.cell 0 rfl
  have t1 : w5.cell? ⟨k6 + 1, 1, none⟩ = some (.string ⟨#[]⟩) := S5.out.2.cell 1 rfl
  dsimp only at t0
  have d0 : w5.cell? ⟨w.heap.size, 0, none⟩ = some (.slice uo xs.length uc) := H5.out.dk.cell 0 rfl
  have d1 : w5.cell? ⟨w.heap.size, 1, none⟩ = some (.slice (some ⟨vb, vf, none⟩) ys.length vc) := H5.out.dk.cell 1 rfl
  have a0 : w5.cell? ⟨w.heap.size + 1, 0, none⟩ = some (.int .i64 (j : Int)) := H5.out.cm.cell 0 rfl
  have a1 : w5.cell? ⟨w.heap.size + 1, 1, none⟩ = some (.int .i64 x) := H5.out.cm.cell 1 rfl
  simp only [Act.put]
  have zc : w5.cell? ⟨vb, vf + j, none⟩ = some (.int .i64 z) := (H5.out.bl.cell (p := ⟨vb, vf + j, none⟩) hvb.out).trans HC.out
  go_quiet (fail)
  obtain ⟨w6, hw6⟩ : ∃ w6, w6 = w5.drewN nq := ⟨_, rfl⟩
  rw [← hw6]
  have H6 : Hid (Vx w w6.drew (.slice uo xs.length uc) (.slice (some ⟨vb, vf, none⟩) ys.length vc) 292 #[.int .i64 (j : Int), .int .i64 x, .int .i64 y] zeD ⟨0, []⟩ ∧ Vx w w6 (.slice uo xs.length uc) (.slice (some ⟨vb, vf, none⟩) ys.length vc) 292 #[.int .i64 (j : Int), .int .i64 x, .int .i64 y] zeD ⟨0, []⟩) := by
    have e : Vx w w6 (.slice uo xs.length uc) (.slice (some ⟨vb, vf, none⟩) ys.length vc) 292 #[.int .i64 (j : Int), .int .i64 x, .int .i64 y] zeD ⟨0, []⟩ := by rw [hw6]; exact ⟨H5.out.dk, H5.out.cm, H5.out.rd, H5.out.ra, below_drewN H5.out.bl nq, H5.out.sz⟩
    exact ⟨e.drew, e⟩
  have S6 : Hid (StB w6 k6 36 #[.slice ao xs.length ac, .slice bo zs.length bc] ∧ StB w6 (k6 + 1) 44 (anA ⟨0, []⟩)) := by rw [hw6]; exact S5.out
  have O6 : Hid (OwnD w6.drew (w.heap.size + 4) (.slice ao xs.length ac) (.slice bo zs.length bc) xs zs) := by rw [hw6]; exact O5.out
  clear zc H5 S5 O5 t0 t1 d0 d1 a0 a1 hw6
  have FD : Hid (∀ w', Below w6.heap.size w6 w' → Calls Tryz.prog 112 #[.agg #[.slice uo xs.length uc, .slice (some ⟨vb, vf, none⟩) ys.length vc]] w' fun e w'' => ∃ a b, e = .returned (.agg (dkA a b)) ∧ OwnD w'' w'.heap.size a b xs ys ∧ Below w'.heap.size w' w'') := fun w' b => freshDisk_any _ _ xs ys w' ((HX.out.1.below H6.out.2.bl (Nat.le_refl _)).below b (Nat.le_refl _)) ((HX.out.2.1.below H6.out.2.bl (Nat.le_refl _)).below b (Nat.le_refl _)) HL.out.1 (by have := HL.out; omega) (by have := HL.out; omega) (by have := HL.out; omega)
  have CN : Hid (∀ u' w', Reads w' u' [z] → Below w6.heap.size w6 w' → Calls Tryz.prog 28 #[u'] w' fun e w'' => e = .returned (S (decI z)) ∧ Below w'.heap.size w' w'') := fun u' w' hr b => by
    have := ishowN_any u' [z] w' hr (by simp) (by simp) (by have := HL.out; intro x hx; simp at hx; omega) ((HT.out.below H6.out.2.bl).below b)
    rw [ints_one] at this
    exact this
  obtain ⟨d, hd⟩ : ∃ d, d = decI z := ⟨_, rfl⟩
  rw [← hd] at CN
  have HD : Hid (d = decI z) := hd
  have q0 : ∀ w', Sq w w6 w' → w'.cell? ⟨w.heap.size, 0, none⟩ = some (.slice uo xs.length uc) := fun w' b => b _ _ (by simp; try omega) (by simp; try omega) (H6.out.2.dk.cell 0 rfl)
  have q1 : ∀ w', Sq w w6 w' → w'.cell? ⟨w.heap.size, 1, none⟩ = some (.slice (some ⟨vb, vf, none⟩) ys.length vc) := fun w' b => b _ _ (by simp; try omega) (by simp; try omega) (H6.out.2.dk.cell 1 rfl)
  have q2 : ∀ w', Sq w w6 w' → w'.cell? ⟨w.heap.size + 1, 0, none⟩ = some (.int .i64 (j : Int)) := fun w' b => b _ _ (by simp; try omega) (by simp; try omega) (H6.out.2.cm.cell 0 rfl)
  have q3 : ∀ w', Sq w w6 w' → w'.cell? ⟨vb, vf + j, none⟩ = some (.int .i64 z) := fun w' b => b _ _ (by have := hvb.out; dsimp only; omega) (by have := hvb.out; dsimp only; omega) ((H6.out.2.bl.cell (p := ⟨vb, vf + j, none⟩) hvb.out).trans HC.out)
  clear hd O6 S6
  unfold S at CN
  go_upto_region 4 with fail
  go_region_held3 (fun w' => Sq w w6 w') ((repeat' (first | with_reducible assumption | with_reducible exact Sq.refl _ _ | with_reducible refine Sq.al ?_ | with_reducible refine Sq.dr ?_ | with_reducible refine Sq.set2 ?_ | with_reducible refine Sq.set3 ?_ | with_reducible refine Sq.put2 ?_ (by with_reducible assumption) | with_reducible refine Sq.bel ?_ (by with_reducible assumption))))
    (first
      | (go_at_call 112; refine (FD.out _ (by repeat' (first | with_reducible assumption | with_reducible exact Below.refl _ _ | with_reducible refine bel_alloc ?_ | with_reducible refine bel_drew ?_ | with_reducible refine bel_trans ?_ (by with_reducible assumption)))).mono ?_; rintro e w7 ⟨a', b', rfl, o7, b7⟩; obtain ⟨ao', ac', rfl⟩ := o7.1.reads.form; obtain ⟨bo', bc', rfl⟩ := o7.2.1.reads.form; have O7 : Hid (OwnD w7 _ (.slice ao' xs.length ac') (.slice bo' ys.length bc') xs ys) := o7; clear o7)
      | (go_at_call 28; refine (CN.out _ _ (by repeat' (first | (with_reducible refine reads_oneE _ _ (by simp)) | (with_reducible refine Reads.al ?_) | (with_reducible refine Reads.dr ?_) | (with_reducible refine Reads.bel ?_ (by with_reducible assumption)))) (by repeat' (first | with_reducible assumption | with_reducible exact Below.refl _ _ | with_reducible refine bel_alloc ?_ | with_reducible refine bel_drew ?_ | with_reducible refine bel_trans ?_ (by with_reducible assumption)))).mono ?_; rintro e w8 ⟨rfl, b8⟩)
      | ((with_reducible show Oper.upon _ _ _ _ _ (Result.andThen (Sem.run _ (storeCells _ (dkA _ _).toList) _) _)); have H8 : Hid (Vx w w8 (.slice uo xs.length uc) (.slice (some ⟨vb, vf, none⟩) ys.length vc) 292 #[.int .i64 (j : Int), .int .i64 x, .int .i64 y] zeD ⟨0, []⟩ ∧ OwnD w8 (w.heap.size + 4) (.slice ao' xs.length ac') (.slice bo' ys.length bc') xs ys) := ⟨H6.out.2.next (by repeat' (first | with_reducible assumption | with_reducible exact Below.refl _ _ | with_reducible refine bel_alloc ?_ | with_reducible refine bel_drew ?_ | with_reducible refine bel_trans ?_ (by with_reducible assumption))), OwnD.mono' (OwnD.bel O7.out (by repeat' (first | with_reducible assumption | with_reducible exact Below.refl _ _ | with_reducible refine bel_alloc ?_ | with_reducible refine bel_drew ?_ | with_reducible refine bel_trans ?_ (by with_reducible assumption)))) (Nat.le_trans H6.out.2.sz (bel_size (by repeat' (first | with_reducible assumption | with_reducible exact Below.refl _ _ | with_reducible refine bel_alloc ?_ | with_reducible refine bel_drew ?_ | with_reducible refine bel_trans ?_ (by with_reducible assumption)))))⟩; refine upon_putS (w.heap.size + 1 + 1) 36 (dkA (.slice ao' xs.length ac') (.slice bo' ys.length bc')) zeD rfl (dkA_one rfl rfl) H8.out.1.rd ?_; intro w9 s9 g9; have ra := H8.out.1.ra.kept g9 (by simp); have r0 : w9.cell? ⟨w.heap.size + 1 + 1 + 1, 0, none⟩ = some (.int .i64 0) := ra.cell 0 rfl; have r1 : w9.cell? ⟨w.heap.size + 1 + 1 + 1, 1, none⟩ = some (.string ⟨#[]⟩) := ra.cell 1 rfl; have f0 := ra.frozen 0; have f1 := ra.frozen 1))
  all_goals
    go_wp2
    have S7 := (ra.put 0 (.int .i64 2) rfl).put 1 (S d) (ds := anA ⟨2, d⟩) rfl
    have G7 := (grownSet w9 (w.heap.size + 1 + 1 + 1) 0 (.int .i64 2)).trans (grownSet _ (w.heap.size + 1 + 1 + 1) 1 (S d))
    refine bodyPost_ret (results_DA rfl _ _ (w.heap.size + 1 + 1) (w.heap.size + 1 + 1 + 1) _ _ rfl rfl rfl rfl (s9.kept G7 (by simp)) S7) rfl ?_
    rw [← HD.out]
    exact ⟨_, _, rfl, H8.out.1.fin H8.out.2.1 H8.out.2.2.1 (Nat.le_refl _) H8.out.2.2.2 g9 G7⟩
end Go.Proofs.YtlkkpolnllbljaaGreatDoor
/- Whether a command is right, by the program: opOk, limitsOf, CmdOk, Changes. -/
namespace Go.Proofs.YtlkkpolnllbljaaGreatDoor
open Go.ChangeShapes Go.WideShapes Go.ChangeAt Go.RowKit

set_option maxRecDepth 20000 in
set_option maxHeartbeats 400000 in
theorem iop_any (x : Int) (w : World) :
    Calls Tryz.prog 70 #[.int .i64 x] w fun e w' => e = .returned (.bool (inI x 1 12)) ∧ w' = w := by
  by_cases h0 : 1 ≤ x
  · by_cases h1 : x ≤ 12
    · have he : inI x 1 12 = true := by simp [inI, h0, h1]
      rw [he]
      clear he
      go_enter Tryz.func70, Tryz.ntmps70
      go_wp2
      go_ret
      exact ⟨ret_bool (by simp), rfl⟩
    · have he : inI x 1 12 = false := by simp [inI, h1]
      rw [he]
      clear he
      go_enter Tryz.func70, Tryz.ntmps70
      go_wp2
      go_ret
      exact ⟨ret_bool (by simp), rfl⟩
  · have he : inI x 1 12 = false := by simp [inI, h0]
    rw [he]
    clear he
    go_enter Tryz.func70, Tryz.ntmps70
    go_wp2
    go_ret
    exact ⟨ret_bool (by simp), rfl⟩

/- The least and the most of each field, by the Op. -/
def lst (o : Int) : Cm := if o = 7 then ⟨0, 0, 0, 0, 1⟩ else if o = 10 then ⟨0, 0, 0, 1, 1⟩ else Cm.zero
def mst (o : Int) : Cm :=
  if o = 1 then ⟨0, 255, 0, 0, 0⟩ else if o = 4 then ⟨0, 255, 0, 0, 0⟩ else if o = 2 then ⟨0, 255, 65535, 0, 0⟩ else if o = 3 then ⟨0, 255, 65535, 65535, 0⟩
  else if o = 6 then ⟨0, 0, 9999, 0, 0⟩ else if o = 7 then ⟨0, 0, 0, 0, 6⟩ else if o = 10 then ⟨0, 0, 9999, 9999, 6⟩ else Cm.zero
def within (c l m : Cm) : Bool := inI c.o 1 12 && decide (l.p ≤ c.p) && decide (c.p ≤ m.p) && decide (l.a ≤ c.a) && decide (c.a ≤ m.a) && decide (l.b ≤ c.b) && decide (c.b ≤ m.b) && decide (l.k ≤ c.k) && decide (c.k ≤ m.k)
theorem ok_within (c : Cm) : within c (lst c.o) (mst c.o) = c.ok := by
  obtain ⟨o, p, a, b, k⟩ := c
  dsimp only
  by_cases h : inI o 1 12 = true
  · rw [inI_iff] at h
    rw [Bool.eq_iff_iff]
    obtain rfl | rfl | rfl | rfl | rfl | rfl | rfl | rfl | rfl | rfl | rfl | rfl : o = 1 ∨ o = 2 ∨ o = 3 ∨ o = 4 ∨ o = 5 ∨ o = 6 ∨ o = 7 ∨ o = 8 ∨ o = 9 ∨ o = 10 ∨ o = 11 ∨ o = 12 := by omega
    all_goals
      simp [within, lst, mst, Cm.zero, Cm.ok, Cm.told, Cm.fits, inI]
      try omega
  · have h' : inI o 1 12 = false := by simpa using h
    simp [within, Cm.ok, Cm.told, h']

theorem two_cm (w : World) (c d : Cm) : CmB ((w.alloc (.cells (cmA c) 66)).alloc (.cells (cmA d) 66)).drew w.heap.size 66 c ∧ CmB ((w.alloc (.cells (cmA c) 66)).alloc (.cells (cmA d) 66)).drew (w.heap.size + 1) 66 d ∧ Below w.heap.size w ((w.alloc (.cells (cmA c) 66)).alloc (.cells (cmA d) 66)).drew := by
  refine ⟨(CmB.new w _ c).alloc _, ?_, below_drewN (((Below.refl _ _).alloc (Nat.le_refl _) _).alloc (by simp) _) 1⟩
  have := CmB.new (w.alloc (.cells (cmA c) 66)) 66 d
  rw [World.size_alloc] at this
  exact this

set_option maxRecDepth 20000 in
set_option maxHeartbeats 1000000 in
theorem ilim_1 (w : World) :
    Calls Tryz.prog 111 #[.int .i64 1] w fun e w' => e = .returned (.tuple #[CV (lst 1), CV (mst 1)]) ∧ Below w.heap.size w w' := by
  have h := two_cm w (lst 1) (mst 1)
  go_enter Tryz.func111, Tryz.ntmps111
  go_wp2
  go_region
  go_wp2
  exact bodyPost_ret (results_CC rfl _ _ w.heap.size (w.heap.size + 1) (lst 1) (mst 1) rfl rfl h.1 h.2.1) rfl ⟨rfl, h.2.2⟩

set_option maxRecDepth 20000 in
set_option maxHeartbeats 1000000 in
theorem ilim_2 (w : World) :
    Calls Tryz.prog 111 #[.int .i64 2] w fun e w' => e = .returned (.tuple #[CV (lst 2), CV (mst 2)]) ∧ Below w.heap.size w w' := by
  have h := two_cm w (lst 2) (mst 2)
  go_enter Tryz.func111, Tryz.ntmps111
  go_wp2
  go_region
  go_wp2
  exact bodyPost_ret (results_CC rfl _ _ w.heap.size (w.heap.size + 1) (lst 2) (mst 2) rfl rfl h.1 h.2.1) rfl ⟨rfl, h.2.2⟩

set_option maxRecDepth 20000 in
set_option maxHeartbeats 1000000 in
theorem ilim_3 (w : World) :
    Calls Tryz.prog 111 #[.int .i64 3] w fun e w' => e = .returned (.tuple #[CV (lst 3), CV (mst 3)]) ∧ Below w.heap.size w w' := by
  have h := two_cm w (lst 3) (mst 3)
  go_enter Tryz.func111, Tryz.ntmps111
  go_wp2
  go_region
  go_wp2
  exact bodyPost_ret (results_CC rfl _ _ w.heap.size (w.heap.size + 1) (lst 3) (mst 3) rfl rfl h.1 h.2.1) rfl ⟨rfl, h.2.2⟩

set_option maxRecDepth 20000 in
set_option maxHeartbeats 1000000 in
theorem ilim_4 (w : World) :
    Calls Tryz.prog 111 #[.int .i64 4] w fun e w' => e = .returned (.tuple #[CV (lst 4), CV (mst 4)]) ∧ Below w.heap.size w w' := by
  have h := two_cm w (lst 4) (mst 4)
  go_enter Tryz.func111, Tryz.ntmps111
  go_wp2
  go_region
  go_wp2
  exact bodyPost_ret (results_CC rfl _ _ w.heap.size (w.heap.size + 1) (lst 4) (mst 4) rfl rfl h.1 h.2.1) rfl ⟨rfl, h.2.2⟩

set_option maxRecDepth 20000 in
set_option maxHeartbeats 1000000 in
theorem ilim_6 (w : World) :
    Calls Tryz.prog 111 #[.int .i64 6] w fun e w' => e = .returned (.tuple #[CV (lst 6), CV (mst 6)]) ∧ Below w.heap.size w w' := by
  have h := two_cm w (lst 6) (mst 6)
  go_enter Tryz.func111, Tryz.ntmps111
  go_wp2
  go_region
  go_wp2
  exact bodyPost_ret (results_CC rfl _ _ w.heap.size (w.heap.size + 1) (lst 6) (mst 6) rfl rfl h.1 h.2.1) rfl ⟨rfl, h.2.2⟩

set_option maxRecDepth 20000 in
set_option maxHeartbeats 1000000 in
theorem ilim_7 (w : World) :
    Calls Tryz.prog 111 #[.int .i64 7] w fun e w' => e = .returned (.tuple #[CV (lst 7), CV (mst 7)]) ∧ Below w.heap.size w w' := by
  have h := two_cm w (lst 7) (mst 7)
  go_enter Tryz.func111, Tryz.ntmps111
  go_wp2
  go_region
  go_wp2
  exact bodyPost_ret (results_CC rfl _ _ w.heap.size (w.heap.size + 1) (lst 7) (mst 7) rfl rfl h.1 h.2.1) rfl ⟨rfl, h.2.2⟩

set_option maxRecDepth 20000 in
set_option maxHeartbeats 1000000 in
theorem ilim_10 (w : World) :
    Calls Tryz.prog 111 #[.int .i64 10] w fun e w' => e = .returned (.tuple #[CV (lst 10), CV (mst 10)]) ∧ Below w.heap.size w w' := by
  have h := two_cm w (lst 10) (mst 10)
  go_enter Tryz.func111, Tryz.ntmps111
  go_wp2
  go_region
  go_wp2
  exact bodyPost_ret (results_CC rfl _ _ w.heap.size (w.heap.size + 1) (lst 10) (mst 10) rfl rfl h.1 h.2.1) rfl ⟨rfl, h.2.2⟩

set_option maxRecDepth 20000 in
set_option maxHeartbeats 1000000 in
theorem ilim_any (o : Int) (w : World) :
    Calls Tryz.prog 111 #[.int .i64 o] w fun e w' => e = .returned (.tuple #[CV (lst o), CV (mst o)]) ∧ Below w.heap.size w w' := by
  by_cases h1 : o = 1
  · subst h1; exact ilim_1 w
  by_cases h2 : o = 2
  · subst h2; exact ilim_2 w
  by_cases h3 : o = 3
  · subst h3; exact ilim_3 w
  by_cases h4 : o = 4
  · subst h4; exact ilim_4 w
  by_cases h6 : o = 6
  · subst h6; exact ilim_6 w
  by_cases h7 : o = 7
  · subst h7; exact ilim_7 w
  by_cases h10 : o = 10
  · subst h10; exact ilim_10 w
  have h := two_cm w (lst o) (mst o)
  have hl : lst o = ⟨0, 0, 0, 0, 0⟩ := by simp [lst, h7, h10, Cm.zero]
  have hm : mst o = ⟨0, 0, 0, 0, 0⟩ := by simp [mst, h1, h2, h3, h4, h6, h7, h10, Cm.zero]
  rw [hl, hm] at h ⊢
  clear hl hm
  go_enter Tryz.func111, Tryz.ntmps111
  go_wp2
  go_region
  go_wp2
  exact bodyPost_ret (results_CC rfl _ _ w.heap.size (w.heap.size + 1) ⟨0, 0, 0, 0, 0⟩ ⟨0, 0, 0, 0, 0⟩ rfl rfl h.1 h.2.1) rfl ⟨rfl, h.2.2⟩

set_option maxRecDepth 20000 in
set_option maxHeartbeats 4000000 in
theorem icmdok_any (c : Cm) (w : World) :
    Calls Tryz.prog 71 #[CV c] w fun e w' => e = .returned (.bool c.ok) ∧ Below w.heap.size w w' := by
  have c1 := fun wx => ilim_any c.o wx
  have c2 := fun wx => iop_any c.o wx
  have hok := ok_within c
  obtain ⟨L, hL⟩ : ∃ L, L = lst c.o := ⟨_, rfl⟩
  obtain ⟨M, hM⟩ : ∃ M, M = mst c.o := ⟨_, rfl⟩
  simp only [← hL, ← hM] at c1 hok
  rw [← hok]
  have HE : Hid (within c L M = (inI c.o 1 12 && decide (L.p ≤ c.p) && decide (c.p ≤ M.p) && decide (L.a ≤ c.a) && decide (c.a ≤ M.a) && decide (L.b ≤ c.b) && decide (c.b ≤ M.b) && decide (L.k ≤ c.k) && decide (c.k ≤ M.k))) := rfl
  obtain ⟨x, hx⟩ : ∃ x, x = within c L M := ⟨_, rfl⟩
  rw [← hx] at HE ⊢
  obtain ⟨b, hb⟩ : ∃ b, b = inI c.o 1 12 := ⟨_, rfl⟩
  rw [← hb] at HE
  simp only [← hb] at c2
  clear hx hb hL hM hok
  have b0 : Below w.heap.size w (w.alloc (.cells (cmA c) 66)) := (Below.refl _ _).alloc (Nat.le_refl _) _
  have P0 := CmB.new w 66 c
  unfold CV cmA at *
  go_enter Tryz.func71, Tryz.ntmps71
  go_wp2_with fail
  refine (c1 _).mono ?_
  rintro e w1 ⟨rfl, b1⟩
  have P1 : CmB w1 w.heap.size 66 c := CmB.below (c := c) P0 b1
  have B1 := b0.trans (b1.mono b0.size)
  have hsz := P1.lt
  have k0 : w1.cell? ⟨w.heap.size, 0, none⟩ = some (.int .i64 c.o) := P1.cell 0 rfl
  clear b1 b0 P0 c1
  go_wp2_with fail
  obtain ⟨w2, hw2⟩ : ∃ w2, w2 = (w1.alloc (.cells #[.int .i64 L.o, .int .i64 L.p, .int .i64 L.a, .int .i64 L.b, .int .i64 L.k] 66)).alloc (.cells #[.int .i64 M.o, .int .i64 M.p, .int .i64 M.a, .int .i64 M.b, .int .i64 M.k] 66) := ⟨_, rfl⟩
  have P2 : CmB w2 w.heap.size 66 c := by rw [hw2]; exact (P1.alloc _).alloc _
  have L2 : CmB w2 w1.heap.size 66 L := by rw [hw2]; exact (CmB.new w1 _ L).alloc _
  have M2 : CmB w2 (w1.heap.size + 1) 66 M := by rw [hw2]; have := CmB.new (w1.alloc (.cells (cmA L) 66)) 66 M; rwa [World.size_alloc] at this
  have B2 : Below w.heap.size w w2 := by rw [hw2]; exact (B1.alloc B1.size _).alloc (by simp; omega) _
  rw [← hw2]
  clear hw2 P1 B1 k0 hsz
  have p1 : w2.cell? ⟨w.heap.size, 1, none⟩ = some (.int .i64 c.p) := P2.cell 1 rfl
  have p2 : w2.cell? ⟨w.heap.size, 2, none⟩ = some (.int .i64 c.a) := P2.cell 2 rfl
  have p3 : w2.cell? ⟨w.heap.size, 3, none⟩ = some (.int .i64 c.b) := P2.cell 3 rfl
  have p4 : w2.cell? ⟨w.heap.size, 4, none⟩ = some (.int .i64 c.k) := P2.cell 4 rfl
  have l1 : w2.cell? ⟨w1.heap.size, 1, none⟩ = some (.int .i64 L.p) := L2.cell 1 rfl
  have l2 : w2.cell? ⟨w1.heap.size, 2, none⟩ = some (.int .i64 L.a) := L2.cell 2 rfl
  have l3 : w2.cell? ⟨w1.heap.size, 3, none⟩ = some (.int .i64 L.b) := L2.cell 3 rfl
  have l4 : w2.cell? ⟨w1.heap.size, 4, none⟩ = some (.int .i64 L.k) := L2.cell 4 rfl
  have m1 : w2.cell? ⟨(w1.heap.size + 1), 1, none⟩ = some (.int .i64 M.p) := M2.cell 1 rfl
  have m2 : w2.cell? ⟨(w1.heap.size + 1), 2, none⟩ = some (.int .i64 M.a) := M2.cell 2 rfl
  have m3 : w2.cell? ⟨(w1.heap.size + 1), 3, none⟩ = some (.int .i64 M.b) := M2.cell 3 rfl
  have m4 : w2.cell? ⟨(w1.heap.size + 1), 4, none⟩ = some (.int .i64 M.k) := M2.cell 4 rfl
  have p0 : w2.cell? ⟨w.heap.size, 0, none⟩ = some (.int .i64 c.o) := P2.cell 0 rfl
  refine (c2 _).mono ?_
  rintro e w' ⟨rfl, hw'⟩; subst w'
  clear c2 P2 L2 M2
  cases b with
  | false =>
    go_wp2
    go_ret
    exact ⟨ret_bool (by rw [HE.out]; simp), B2⟩
  | true =>
    by_cases h0 : L.p ≤ c.p
    case neg =>
      have HN : Hid (x = false) := by rw [Hid, HE.out]; simp [h0]
      go_wp2
      go_ret
      exact ⟨ret_bool (by rw [HN.out]), B2⟩
    by_cases h1 : c.p ≤ M.p
    case neg =>
      have HN : Hid (x = false) := by rw [Hid, HE.out]; simp [h1]
      go_wp2
      go_ret
      exact ⟨ret_bool (by rw [HN.out]), B2⟩
    by_cases h2 : L.a ≤ c.a
    case neg =>
      have HN : Hid (x = false) := by rw [Hid, HE.out]; simp [h2]
      go_wp2
      go_ret
      exact ⟨ret_bool (by rw [HN.out]), B2⟩
    by_cases h3 : c.a ≤ M.a
    case neg =>
      have HN : Hid (x = false) := by rw [Hid, HE.out]; simp [h3]
      go_wp2
      go_ret
      exact ⟨ret_bool (by rw [HN.out]), B2⟩
    by_cases h4 : L.b ≤ c.b
    case neg =>
      have HN : Hid (x = false) := by rw [Hid, HE.out]; simp [h4]
      go_wp2
      go_ret
      exact ⟨ret_bool (by rw [HN.out]), B2⟩
    by_cases h5 : c.b ≤ M.b
    case neg =>
      have HN : Hid (x = false) := by rw [Hid, HE.out]; simp [h5]
      go_wp2
      go_ret
      exact ⟨ret_bool (by rw [HN.out]), B2⟩
    by_cases h6 : L.k ≤ c.k
    case neg =>
      have HN : Hid (x = false) := by rw [Hid, HE.out]; simp [h6]
      go_wp2
      go_ret
      exact ⟨ret_bool (by rw [HN.out]), B2⟩
    by_cases h7 : c.k ≤ M.k
    case neg =>
      have HN : Hid (x = false) := by rw [Hid, HE.out]; simp [h7]
      go_wp2
      go_ret
      exact ⟨ret_bool (by rw [HN.out]; simp; omega), B2⟩
    have HY : Hid (x = true) := by rw [Hid, HE.out]; simp [h0, h1, h2, h3, h4, h5, h6, h7]
    go_wp2
    go_ret
    exact ⟨ret_bool (by rw [HY.out]), B2⟩

set_option maxRecDepth 20000 in
set_option maxHeartbeats 1000000 in
theorem ichg_any (c : Cm) (w : World) :
    Calls Tryz.prog 79 #[CV c] w fun e w' => e = .returned (.bool c.chg) ∧ Below w.heap.size w w' := by
  have c1 := fun wx => icmdok_any c wx
  have b0 : Below w.heap.size w (w.alloc (.cells (cmA c) 66)) := (Below.refl _ _).alloc (Nat.le_refl _) _
  have P0 := CmB.new w 66 c
  have HE : Hid (c.chg = (c.ok && inI c.o 2 4)) := rfl
  obtain ⟨x, hx⟩ : ∃ x, x = c.chg := ⟨_, rfl⟩
  rw [← hx] at HE ⊢
  obtain ⟨b, hb⟩ : ∃ b, b = c.ok := ⟨_, rfl⟩
  rw [← hb] at HE
  simp only [← hb] at c1
  clear hx hb
  unfold CV cmA at *
  go_enter Tryz.func79, Tryz.ntmps79
  go_wp2_with fail
  refine (c1 _).mono ?_
  rintro e w1 ⟨rfl, b1⟩
  have P1 : CmB w1 w.heap.size 66 c := CmB.below (c := c) P0 b1
  have B1 := b0.trans (b1.mono b0.size)
  have k0 : w1.cell? ⟨w.heap.size, 0, none⟩ = some (.int .i64 c.o) := P1.cell 0 rfl
  clear b1 b0 P0 c1
  cases b with
  | false =>
    go_wp2
    go_ret
    exact ⟨ret_bool (by rw [HE.out]; rfl), B1⟩
  | true =>
    by_cases h2 : c.o = 2
    · go_wp2
      go_ret
      exact ⟨ret_bool (by rw [HE.out, h2]; rfl), B1⟩
    · by_cases h3 : c.o = 3
      · go_wp2
        go_ret
        exact ⟨ret_bool (by rw [HE.out, h3]; rfl), B1⟩
      · by_cases h4 : c.o = 4
        · go_wp2
          go_ret
          exact ⟨ret_bool (by rw [HE.out, h4]; rfl), B1⟩
        · have HN : Hid (inI c.o 2 4 = false) := by simp [Hid, inI]; omega
          go_wp2
          go_ret
          exact ⟨ret_bool (by rw [HE.out, HN.out]; simp [h2, h3, h4]), B1⟩
end Go.Proofs.YtlkkpolnllbljaaGreatDoor
/- Blocks by commands, the program: which shape a command has (askedOf), and the type switch over the shapes (didAsked). -/
namespace Go.Proofs.YtlkkpolnllbljaaGreatDoor
open Go.ChangeShapes Go.WideShapes Go.ChangeAt Go.RowKit

theorem Tryz.asRR (v : Value) (w : World) : (Instr.typeAssert (.iface 286 v) 20 286 true).run Tryz.prog w = .ok (.tuple #[v, .bool true]) w := by kernel_rfl
theorem Tryz.asWR (v : Value) (w : World) : (Instr.typeAssert (.iface 289 v) 20 286 true).run Tryz.prog w = .ok (.tuple #[.agg #[.int .i64 0], .bool false]) w := by kernel_rfl
theorem Tryz.asWW (v : Value) (w : World) : (Instr.typeAssert (.iface 289 v) 20 289 true).run Tryz.prog w = .ok (.tuple #[v, .bool true]) w := by kernel_rfl
theorem Tryz.asSR (v : Value) (w : World) : (Instr.typeAssert (.iface 292 v) 20 286 true).run Tryz.prog w = .ok (.tuple #[.agg #[.int .i64 0], .bool false]) w := by kernel_rfl
theorem Tryz.asSW (v : Value) (w : World) : (Instr.typeAssert (.iface 292 v) 20 289 true).run Tryz.prog w = .ok (.tuple #[.agg #[.int .i64 0, .int .i64 0], .bool false]) w := by kernel_rfl
theorem Tryz.asSS (v : Value) (w : World) : (Instr.typeAssert (.iface 292 v) 20 292 true).run Tryz.prog w = .ok (.tuple #[v, .bool true]) w := by kernel_rfl
theorem Tryz.asYR (v : Value) (w : World) : (Instr.typeAssert (.iface 295 v) 20 286 true).run Tryz.prog w = .ok (.tuple #[.agg #[.int .i64 0], .bool false]) w := by kernel_rfl
theorem Tryz.asYW (v : Value) (w : World) : (Instr.typeAssert (.iface 295 v) 20 289 true).run Tryz.prog w = .ok (.tuple #[.agg #[.int .i64 0, .int .i64 0], .bool false]) w := by kernel_rfl
theorem Tryz.asYS (v : Value) (w : World) : (Instr.typeAssert (.iface 295 v) 20 292 true).run Tryz.prog w = .ok (.tuple #[.agg #[.int .i64 0, .int .i64 0, .int .i64 0], .bool false]) w := by kernel_rfl
theorem Tryz.asYY (v : Value) (w : World) : (Instr.typeAssert (.iface 295 v) 20 295 true).run Tryz.prog w = .ok (.tuple #[v, .bool true]) w := by kernel_rfl
theorem Tryz.asNR (w : World) : (Instr.typeAssert .nilIface 20 286 true).run Tryz.prog w = .ok (.tuple #[.agg #[.int .i64 0], .bool false]) w := by kernel_rfl
theorem Tryz.asNW (w : World) : (Instr.typeAssert .nilIface 20 289 true).run Tryz.prog w = .ok (.tuple #[.agg #[.int .i64 0, .int .i64 0], .bool false]) w := by kernel_rfl
theorem Tryz.asNS (w : World) : (Instr.typeAssert .nilIface 20 292 true).run Tryz.prog w = .ok (.tuple #[.agg #[.int .i64 0, .int .i64 0, .int .i64 0], .bool false]) w := by kernel_rfl
theorem Tryz.asNY (w : World) : (Instr.typeAssert .nilIface 20 295 true).run Tryz.prog w = .ok (.tuple #[.agg #[], .bool false]) w := by kernel_rfl

def askV (c : Cm) : Value :=
  if c.ok then
    if c.o = 1 then .iface 286 (.agg #[.int .i64 c.p])
    else if c.o = 2 then .iface 289 (.agg #[.int .i64 c.p, .int .i64 c.a])
    else if c.o = 3 then .iface 292 (.agg #[.int .i64 c.p, .int .i64 c.a, .int .i64 c.b])
    else if c.o = 4 then .iface 289 (.agg #[.int .i64 c.p, .int .i64 0])
    else if c.o = 5 then .iface 295 (.agg #[])
    else .nilIface
  else .nilIface

set_option maxRecDepth 20000 in
set_option maxHeartbeats 1000000 in
theorem iasked_any (c : Cm) (w : World) :
    Calls Tryz.prog 234 #[CV c] w fun e w' => e = .returned (askV c) ∧ Below w.heap.size w w' := by
  have c1 := fun wx => icmdok_any c wx
  have b0 : Below w.heap.size w (w.alloc (.cells (cmA c) 66)) := (Below.refl _ _).alloc (Nat.le_refl _) _
  have P0 := CmB.new w 66 c
  obtain ⟨b, hb⟩ : ∃ b, b = c.ok := ⟨_, rfl⟩
  have HE : Hid (c.ok = b) := hb.symm
  simp only [← hb] at c1
  clear hb
  obtain ⟨V, hV⟩ : ∃ V, V = askV c := ⟨_, rfl⟩
  rw [← hV]
  have HV : Hid (V = askV c) := hV
  clear hV
  unfold CV cmA at *
  go_enter Tryz.func234, Tryz.ntmps234
  go_wp2_with fail
  refine (c1 _).mono ?_
  rintro e w1 ⟨rfl, b1⟩
  have P1 : CmB w1 w.heap.size 66 c := CmB.below (c := c) P0 b1
  have B1 := b0.trans (b1.mono b0.size)
  have k0 : w1.cell? ⟨w.heap.size, 0, none⟩ = some (.int .i64 c.o) := P1.cell 0 rfl
  have k1 : w1.cell? ⟨w.heap.size, 1, none⟩ = some (.int .i64 c.p) := P1.cell 1 rfl
  have k2 : w1.cell? ⟨w.heap.size, 2, none⟩ = some (.int .i64 c.a) := P1.cell 2 rfl
  have k3 : w1.cell? ⟨w.heap.size, 3, none⟩ = some (.int .i64 c.b) := P1.cell 3 rfl
  clear b1 b0 P0 c1
  cases b with
  | false =>
    go_wp2
    go_ret
    exact ⟨by rw [HV.out, askV, HE.out]; rfl, B1⟩
  | true =>
    obtain ⟨o, p, a, b, k⟩ := c
    dsimp only at *
    by_cases h1 : o = 1
    · subst h1
      go_wp2
      go_ret
      exact ⟨by rw [HV.out, askV, HE.out]; rfl, B1⟩
    · by_cases h2 : o = 2
      · subst h2
        go_wp2
        go_ret
        exact ⟨by rw [HV.out, askV, HE.out]; rfl, B1⟩
      · by_cases h3 : o = 3
        · subst h3
          go_wp2
          go_ret
          exact ⟨by rw [HV.out, askV, HE.out]; rfl, B1⟩
        · by_cases h4 : o = 4
          · subst h4
            go_wp2
            go_ret
            exact ⟨by rw [HV.out, askV, HE.out]; rfl, B1⟩
          · by_cases h5 : o = 5
            · subst h5
              go_wp2
              go_ret
              exact ⟨by rw [HV.out, askV, HE.out]; rfl, B1⟩
            · go_wp2
              go_ret
              exact ⟨by rw [HV.out, askV, HE.out]; simp [h1, h2, h3, h4, h5], B1⟩
end Go.Proofs.YtlkkpolnllbljaaGreatDoor
