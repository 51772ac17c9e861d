/- Blocks by commands, the program: what a command of blocks reads (readFrom). -/
import Derived.Test.YtnnmcjgmnjokiaaDoorIVolW
import Derived.Test.YtnnmcjgmnjokiaaDoorIDisk
import Derived.Test.YtnnmcjgmnjokiaaDoorIJoins
import Derived.Test.YtnnmcjgmnjokiaaDoorVolSta
namespace Go.Proofs.YtnnmcjgmnjokiaaDoor
open Go.ChangeShapes Go.WideShapes Go.ChangeAt Go.RowKit

def rdA (ys : List Int) (p : Int) : An := if (ys.length : Int) ≤ p then ⟨1, []⟩ else ⟨0, decI (ys.getD p.toNat 0)⟩
theorem ints_one (x : Int) : intsB [x] = decI x := by simp [intsB]

set_option maxRecDepth 20000 in
set_option maxHeartbeats 2000000 in
theorem ireadFrom_far (u v : Value) (xs ys : List Int) (p : Int) (w : World) (h : Reads w u xs) (h' : Reads w v ys) (hb : bothOk xs ys = true) (hp : (ys.length : Int) ≤ p) :
    Calls Tryd.prog 56 #[.agg #[u, v], .agg #[.int .i64 p]] w fun e w' => ∃ a b, e = .returned (.tuple #[.agg #[a, b], AV ⟨1, []⟩]) ∧ OwnD w' w.heap.size a b xs ys ∧ Below w.heap.size w w' := by
  obtain ⟨n1, n8, nl⟩ := vol_len hb
  obtain ⟨w1, hw1⟩ : ∃ w1, w1 = (((w.alloc (.cells #[u, v] 26)).alloc (.cells #[.int .i64 p] 75)).alloc (.cells #[.slice none 0 0, .slice none 0 0] 26)).alloc (.cells #[.int .i64 0, .string ⟨#[]⟩] 32) := ⟨_, rfl⟩
  have HV : Hid (Bx w w1 u v 75 #[.int .i64 p] zeD ⟨0, []⟩) := by rw [hw1]; exact Bx.start w u v _ _
  have c1 := freshDisk_any u v xs ys w1 (h.below HV.out.bl (Nat.le_refl _)) (h'.below HV.out.bl (Nat.le_refl _)) n1 (by omega) (by omega) (by omega)
  obtain ⟨uo, uc, rfl⟩ := h.form
  obtain ⟨vo, vc, rfl⟩ := h'.form
  have m0 : w1.cell? ⟨w.heap.size + 1, 0, none⟩ = some (.int .i64 p) := HV.out.cm.cell 0 rfl
  have m1 : w1.cell? ⟨w.heap.size, 1, none⟩ = some (.slice vo ys.length vc) := HV.out.dk.cell 1 rfl
  clear hb h h' n1 n8 nl
  go_enter Tryd.func56, Tryd.ntmps56
  go_upto_region 1 with fail
  rw [← hw1]
  clear hw1
  go_wp2_with (first | (refine wpList_getS Tryd.isD rfl _ rfl w.heap.size rfl _ rfl HV.out.dk ?_))
  refine c1.mono ?_
  rintro e w2 ⟨a, b, rfl, o2, b2⟩
  have H2 : Hid (Bx w w2 (.slice uo xs.length uc) (.slice vo ys.length vc) 75 #[.int .i64 p] zeD ⟨0, []⟩) := HV.out.next b2
  obtain ⟨ao, ac, rfl⟩ := o2.1.reads.form
  obtain ⟨bo, bc, rfl⟩ := o2.2.1.reads.form
  have O2 : Hid (Own w2 (w.heap.size + 4) (.slice ao xs.length ac) xs ∧ Own w2 (w.heap.size + 4) (.slice bo ys.length bc) ys ∧ apart (.slice ao xs.length ac) (.slice bo ys.length bc)) := ⟨o2.1.mono HV.out.sz, o2.2.1.mono HV.out.sz, o2.2.2⟩
  clear c1 o2 b2 HV m0 m1
  go_wp2_with (first
    | (refine wpList_putS Tryd.isD rfl _ _ rfl (w.heap.size + 1 + 1) #[.slice ao xs.length ac, .slice bo ys.length bc] zeD rfl rfl rfl rfl (dkA_one rfl rfl) H2.out.rd ?_; intro w5 s5 g5)
    | (refine wpList_putS Tryd.isA rfl _ _ rfl (w.heap.size + 1 + 1 + 1) (anA ⟨1, []⟩) (anA ⟨0, []⟩) rfl rfl rfl rfl (anA_one _) (H2.out.ra.kept g5 (by simp)) ?_; intro w6 s6 g6))
  refine bodyPost_ret (results_DA rfl _ _ (w.heap.size + 1 + 1) (w.heap.size + 1 + 1 + 1) _ _ rfl rfl rfl rfl (s5.kept g6 (by simp)) s6) rfl ?_
  exact ⟨_, _, rfl, H2.out.fin O2.out.1 O2.out.2.1 (Nat.le_refl _) O2.out.2.2 g5 g6⟩

theorem reads_oneE (w : World) (z : Int) {g : Nat} (h : g = w.heap.size) : Reads (w.alloc (.cells #[.int .i64 z] 2)) (.slice (some ⟨g, 0, none⟩) 1 1) [z] := by
  subst h
  have h := World.ownsRow_lit (base := w.heap.size) (e := 2) (size := 1) w #[.int .i64 z] 1 (Nat.le_refl _) (by decide) rfl
  exact Own.reads (base := w.heap.size) (by unfold Own; simpa using h)
theorem Reads.al {w : World} {o : Obj} {v : Value} {xs : List Int} (h : Reads w v xs) : Reads (w.alloc o) v xs := h.below (belowAlloc w o) (Nat.le_refl _)
theorem Reads.dr {w : World} {v : Value} {xs : List Int} (h : Reads w v xs) : Reads w.drew v xs := h
theorem Reads.bel {w w' : World} {v : Value} {xs : List Int} (h : Reads w v xs) (b : Below w.heap.size w w') : Reads w' v xs := h.below b (Nat.le_refl _)

/- What a region leaves that stores into the two results alone. -/
def Sq (w w1 w' : World) : Prop := ∀ a x, a.block ≠ w.heap.size + 1 + 1 → a.block ≠ w.heap.size + 1 + 1 + 1 → w1.cell? a = some x → w'.cell? a = some x
theorem Sq.refl (w w1 : World) : Sq w w1 w1 := fun _ _ _ _ h => h
theorem Sq.dr {w w1 wx : World} (h : Sq w w1 wx) : Sq w w1 wx.drew := h
theorem Sq.bel {w w1 wx wy : World} (h : Sq w w1 wx) (b : Below wx.heap.size wx wy) : Sq w w1 wy := fun a x h1 h2 h3 => later_cell (h a x h1 h2 h3) b
theorem Sq.al {w w1 wx : World} {o : Obj} (h : Sq w w1 wx) : Sq w w1 (wx.alloc o) := h.bel (belowAlloc wx o)
theorem Sq.put2 {w w1 wx wy : World} (h : Sq w w1 wx) (g : wx.grownBy wy (some (w.heap.size + 1 + 1))) : Sq w w1 wy := fun a x h1 h2 h3 => g.cell (h a x h1 h2 h3) (by simpa using h1)
theorem Sq.set3 {w w1 wx : World} {j : Nat} {v : Value} (h : Sq w w1 wx) : Sq w w1 (wx.setCell ⟨w.heap.size + 1 + 1 + 1, j, none⟩ v) := fun a x h1 h2 h3 => (grownSet wx _ j v).cell (h a x h1 h2 h3) (by simpa using h2)

set_option maxRecDepth 20000 in
set_option maxHeartbeats 2000000 in
theorem ireadFrom_near (u v : Value) (xs ys : List Int) (j : Nat) (w : World) (h : Reads w u xs) (h' : Reads w v ys) (hb : bothOk xs ys = true) (hj : (j : Int) < (ys.length : Int)) (ht : Tab w) :
    Calls Tryd.prog 56 #[.agg #[u, v], .agg #[.int .i64 (j : Int)]] w fun e w' => ∃ a b, e = .returned (.tuple #[.agg #[a, b], AV ⟨0, decI (ys.getD j 0)⟩]) ∧ OwnD w' w.heap.size a b xs ys ∧ Below w.heap.size w w' := by
  obtain ⟨n1, n8, nl⟩ := vol_len hb
  have hzb := vol_val hb j
  obtain ⟨w1, hw1⟩ : ∃ w1, w1 = (((w.alloc (.cells #[u, v] 26)).alloc (.cells #[.int .i64 (j : Int)] 75)).alloc (.cells #[.slice none 0 0, .slice none 0 0] 26)).alloc (.cells #[.int .i64 0, .string ⟨#[]⟩] 32) := ⟨_, rfl⟩
  have HV : Hid (Bx w w1 u v 75 #[.int .i64 (j : Int)] zeD ⟨0, []⟩) := by rw [hw1]; exact Bx.start w u v _ _
  have FD : Hid (∀ w', Below w1.heap.size w1 w' → Calls Tryd.prog 60 #[.agg #[u, v]] w' fun e w'' => ∃ a b, e = .returned (.agg (dkA a b)) ∧ OwnD w'' w'.heap.size a b xs ys ∧ Below w'.heap.size w' w'') := fun w' b => freshDisk_any u v xs ys w' ((h.below HV.out.bl (Nat.le_refl _)).below b (Nat.le_refl _)) ((h'.below HV.out.bl (Nat.le_refl _)).below b (Nat.le_refl _)) n1 (by omega) (by omega) (by omega)
  obtain ⟨uo, uc, rfl⟩ := h.form
  obtain ⟨vo, vc, rfl⟩ := h'.form
  obtain ⟨-, hm1, hm2, hcv⟩ := reads_cells h'
  obtain ⟨vb, vf, rfl, hc0⟩ := hcv j (by omega)
  obtain ⟨z, hz⟩ : ∃ z, z = ys.getD j 0 := ⟨_, rfl⟩
  rw [← hz] at hc0 hzb ⊢
  have CN : Hid (∀ u' w', Reads w' u' [z] → Below w1.heap.size w1 w' → Calls Tryd.prog 72 #[u'] w' fun e w'' => e = .returned (S (decI z)) ∧ Below w'.heap.size w' w'') := fun u' w' hr b => by
    have := ishowN_any u' [z] w' hr (by simp) (by simp) (by intro x hx; simp at hx; omega) ((ht.below HV.out.bl).below b)
    rw [ints_one] at this
    exact this
  obtain ⟨d, hd⟩ : ∃ d, d = decI z := ⟨_, rfl⟩
  rw [← hd] at CN ⊢
  have hvb : Hid (vb < w.heap.size) := World.block_lt_of_cell? w _ hc0
  have q0 : ∀ w', Sq w w1 w' → w'.cell? ⟨w.heap.size, 0, none⟩ = some (.slice uo xs.length uc) := fun w' b => b _ _ (by simp; try omega) (by simp; try omega) (HV.out.dk.cell 0 rfl)
  have q1 : ∀ w', Sq w w1 w' → w'.cell? ⟨w.heap.size, 1, none⟩ = some (.slice (some ⟨vb, vf, none⟩) ys.length vc) := fun w' b => b _ _ (by simp; try omega) (by simp; try omega) (HV.out.dk.cell 1 rfl)
  have q2 : ∀ w', Sq w w1 w' → w'.cell? ⟨w.heap.size + 1, 0, none⟩ = some (.int .i64 (j : Int)) := fun w' b => b _ _ (by simp; try omega) (by simp; try omega) (HV.out.cm.cell 0 rfl)
  have q3 : ∀ w', Sq w w1 w' → w'.cell? ⟨vb, vf + j, none⟩ = some (.int .i64 z) := fun w' b => b _ _ (by have := hvb.out; dsimp only; omega) (by have := hvb.out; dsimp only; omega) ((HV.out.bl.cell (p := ⟨vb, vf + j, none⟩) hvb.out).trans hc0)
  have m0 : w1.cell? ⟨w.heap.size + 1, 0, none⟩ = some (.int .i64 (j : Int)) := q2 w1 (Sq.refl _ _)
  have m1 : w1.cell? ⟨w.heap.size, 1, none⟩ = some (.slice (some ⟨vb, vf, none⟩) ys.length vc) := q1 w1 (Sq.refl _ _)
  clear hb h h' n1 n8 nl hz hd hcv hc0 ht hzb
  unfold S at CN
  go_enter Tryd.func56, Tryd.ntmps56
  go_upto_region 1 with fail
  rw [← hw1]
  clear hw1
  go_upto_region 3 with fail
  clear m0 m1
  go_region_held3 (fun w' => Sq w w1 w') ((repeat' (first | with_reducible assumption | with_reducible exact Sq.refl _ _ | with_reducible refine Sq.al ?_ | with_reducible refine Sq.dr ?_ | with_reducible refine Sq.set3 ?_ | with_reducible refine Sq.put2 ?_ (by with_reducible assumption) | with_reducible refine Sq.bel ?_ (by with_reducible assumption))))
    (first
      | (go_at_call 60; refine (FD.out _ (by repeat' (first | with_reducible assumption | with_reducible exact Below.refl _ _ | with_reducible refine bel_alloc ?_ | with_reducible refine bel_drew ?_ | with_reducible refine bel_trans ?_ (by with_reducible assumption)))).mono ?_; rintro e w3 ⟨a, b, rfl, o3, b3⟩; obtain ⟨ao, ac, rfl⟩ := o3.1.reads.form; obtain ⟨bo, bc, rfl⟩ := o3.2.1.reads.form; have O3 : Hid (OwnD w3 _ (.slice ao xs.length ac) (.slice bo ys.length bc) xs ys) := o3; clear o3)
      | (go_at_call 72; refine (CN.out _ _ (by repeat' (first | (with_reducible refine reads_oneE _ _ (by simp)) | (with_reducible refine Reads.al ?_) | (with_reducible refine Reads.dr ?_) | (with_reducible refine Reads.bel ?_ (by with_reducible assumption)))) (by repeat' (first | with_reducible assumption | with_reducible exact Below.refl _ _ | with_reducible refine bel_alloc ?_ | with_reducible refine bel_drew ?_ | with_reducible refine bel_trans ?_ (by with_reducible assumption)))).mono ?_; rintro e w4 ⟨rfl, b4⟩)
      | ((with_reducible show Oper.upon _ _ _ _ _ (Result.andThen (Sem.run _ (storeCells _ (dkA _ _).toList) _) _)); have H5 : Hid (Bx w w4 (.slice uo xs.length uc) (.slice (some ⟨vb, vf, none⟩) ys.length vc) 75 #[.int .i64 (j : Int)] zeD ⟨0, []⟩ ∧ OwnD w4 (w.heap.size + 4) (.slice ao xs.length ac) (.slice bo ys.length bc) xs ys) := ⟨HV.out.next (by repeat' (first | with_reducible assumption | with_reducible exact Below.refl _ _ | with_reducible refine bel_alloc ?_ | with_reducible refine bel_drew ?_ | with_reducible refine bel_trans ?_ (by with_reducible assumption))), OwnD.mono' (OwnD.bel O3.out (by repeat' (first | with_reducible assumption | with_reducible exact Below.refl _ _ | with_reducible refine bel_alloc ?_ | with_reducible refine bel_drew ?_ | with_reducible refine bel_trans ?_ (by with_reducible assumption)))) (Nat.le_trans HV.out.sz (bel_size (by repeat' (first | with_reducible assumption | with_reducible exact Below.refl _ _ | with_reducible refine bel_alloc ?_ | with_reducible refine bel_drew ?_ | with_reducible refine bel_trans ?_ (by with_reducible assumption)))))⟩; refine upon_putS (w.heap.size + 1 + 1) 26 (dkA (.slice ao xs.length ac) (.slice bo ys.length bc)) zeD rfl (dkA_one rfl rfl) H5.out.1.rd ?_; intro w6 s6 g6; have ra := H5.out.1.ra.kept g6 (by simp); have r0 : w6.cell? ⟨w.heap.size + 1 + 1 + 1, 0, none⟩ = some (.int .i64 0) := ra.cell 0 rfl; have r1 : w6.cell? ⟨w.heap.size + 1 + 1 + 1, 1, none⟩ = some (.string ⟨#[]⟩) := ra.cell 1 rfl; have f0 := ra.frozen 0; have f1 := ra.frozen 1))
  all_goals
    go_wp2
    have S7 := (ra.put 0 (.int .i64 0) rfl).put 1 (S d) (ds := anA ⟨0, d⟩) rfl
    have G7 := (grownSet w6 (w.heap.size + 1 + 1 + 1) 0 (.int .i64 0)).trans (grownSet _ (w.heap.size + 1 + 1 + 1) 1 (S d))
    refine bodyPost_ret (results_DA rfl _ _ (w.heap.size + 1 + 1) (w.heap.size + 1 + 1 + 1) _ _ rfl rfl rfl rfl (s6.kept G7 (by simp)) S7) rfl ?_
    exact ⟨_, _, rfl, H5.out.1.fin H5.out.2.1 H5.out.2.2.1 (Nat.le_refl _) H5.out.2.2.2 g6 G7⟩
end Go.Proofs.YtnnmcjgmnjokiaaDoor
