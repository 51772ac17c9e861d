/- The model's store, on: l12Copy. -/
import Derived.Test.YtpdggofaobmnlaaM16
import Derived.Test.YtpdggofaobmnlaaM15
namespace Go.Proofs.Ytpdggofaobmnlaa
open Go.ChangeShapes Go.WideShapes Go.ChangeAt Go.RowKit

/- The six cells of a store put one by one. -/
def put6 (w : World) (g : Nat) (a b k : Value) (h : Hd) : World :=
  (((((w.setCell ⟨g, 0, none⟩ a).setCell ⟨g, 1, none⟩ b).setCell ⟨g, 2, none⟩ k).setCell ⟨g, 3, none⟩ (.int .i64 h.kd)).setCell ⟨g, 4, none⟩ (.int .i64 h.ho)).setCell ⟨g, 5, none⟩ (.int .i64 h.tu)
theorem put6_st {w : World} {g : Nat} {t : TypeId} {c0 c1 c2 c3 c4 c5 : Value} (a b k : Value) (h : Hd) (s : StB w g t #[c0, c1, c2, c3, c4, c5]) : StB (put6 w g a b k h) g t (srA a b k h) :=
  (((((s.put 0 _ rfl).put 1 _ rfl).put 2 _ rfl).put 3 _ rfl).put 4 _ rfl).put 5 _ rfl
theorem put6_grown (w : World) (g : Nat) (a b k : Value) (h : Hd) : w.grownBy (put6 w g a b k h) (some g) :=
  (((((grownSet _ _ _ _).trans (grownSet _ _ _ _)).trans (grownSet _ _ _ _)).trans (grownSet _ _ _ _)).trans (grownSet _ _ _ _)).trans (grownSet _ _ _ _)

set_option maxRecDepth 20000 in
set_option maxHeartbeats 2000000 in
theorem s12copy_any (u v q : Value) (xs ys : List Int) (h : Hd) (w : World) (hu : Reads w u xs) (hv : Reads w v ys) (hq : Reads w q h.ks) (gx : xs.length ≤ 1099511627776) (gy : ys.length ≤ 1099511627776) (gk : h.ks.length ≤ 1099511627776) :
    Calls Try.prog 35 #[SRV u v q h] w fun e w' => ∃ a b k, e = .returned (SRV a b k h) ∧ OwnR w' w.heap.size a b k xs ys h.ks ∧ Below w.heap.size w w' := by
  obtain ⟨w1, hw1⟩ : ∃ w1, w1 = (w.alloc (.cells (srA u v q h) 30)).alloc (.cells zeR 30) := ⟨_, rfl⟩
  have b1 : Below w.heap.size w w1 := by rw [hw1]; exact ((Below.refl _ _).alloc (Nat.le_refl _) _).alloc (by simp) _
  have S1 : Hid (StB w1 w.heap.size 30 (srA u v q h) ∧ StB w1 (w.heap.size + 1) 30 zeR ∧ Below w.heap.size w w1 ∧ w.heap.size + 2 ≤ w1.heap.size) := by
    have a2 := StB.new (w.alloc (.cells (srA u v q h) 30)) 30 zeR
    simp only [World.size_alloc] at a2
    exact ⟨by rw [hw1]; exact (StB.new w _ _).alloc _, by rw [hw1]; exact a2, b1, by rw [hw1]; simp⟩
  have C1 : Hid (∀ wx, Below w1.heap.size w1 wx → Calls Try.prog 47 #[.agg #[u, v]] wx fun e w' => ∃ a b, e = .returned (.agg #[a, b]) ∧ OwnD w' wx.heap.size a b xs ys ∧ Below wx.heap.size wx w') := fun wx e => l3Copy_any u v xs ys wx ((hu.below b1 (Nat.le_refl _)).below e (Nat.le_refl _)) ((hv.below b1 (Nat.le_refl _)).below e (Nat.le_refl _)) gx gy
  have C2 : Hid (∀ wx, Below w1.heap.size w1 wx → Calls Try.prog 70 #[HV q h] wx fun e w' => ∃ u, e = .returned (HV u h) ∧ Own w' wx.heap.size u h.ks ∧ Below wx.heap.size wx w') := fun wx e => s8copy_any q h wx ((hq.below b1 (Nat.le_refl _)).below e (Nat.le_refl _)) gk
  obtain ⟨uo, uc, rfl⟩ := reads_form hu
  obtain ⟨vo, vc, rfl⟩ := reads_form hv
  obtain ⟨qo, qc, rfl⟩ := reads_form hq
  clear b1 hu hv hq gx gy gk
  have q0 : ∀ w', Sp (w.heap.size + 1) w1 w' → w'.cell? ⟨w.heap.size, 0, none⟩ = some (.slice uo xs.length uc) := fun w' b => b _ _ (by simp) (S1.out.1.cell 0 rfl)
  have q1 : ∀ w', Sp (w.heap.size + 1) w1 w' → w'.cell? ⟨w.heap.size, 1, none⟩ = some (.slice vo ys.length vc) := fun w' b => b _ _ (by simp) (S1.out.1.cell 1 rfl)
  have q2 : ∀ w', Sp (w.heap.size + 1) w1 w' → w'.cell? ⟨w.heap.size, 2, none⟩ = some (.slice qo h.ks.length qc) := fun w' b => b _ _ (by simp) (S1.out.1.cell 2 rfl)
  have q3 : ∀ w', Sp (w.heap.size + 1) w1 w' → w'.cell? ⟨w.heap.size, 3, none⟩ = some (.int .i64 h.kd) := fun w' b => b _ _ (by simp) (S1.out.1.cell 3 rfl)
  have q4 : ∀ w', Sp (w.heap.size + 1) w1 w' → w'.cell? ⟨w.heap.size, 4, none⟩ = some (.int .i64 h.ho) := fun w' b => b _ _ (by simp) (S1.out.1.cell 4 rfl)
  have q5 : ∀ w', Sp (w.heap.size + 1) w1 w' → w'.cell? ⟨w.heap.size, 5, none⟩ = some (.int .i64 h.tu) := fun w' b => b _ _ (by simp) (S1.out.1.cell 5 rfl)
  unfold SRV
  conv in srA => unfold srA
  unfold HV hdA at C2
  unfold srA zeR at hw1
  go_enter Try.func35, Try.ntmps35
  go_upto_region 1 with fail
  rw [← hw1]
  clear hw1
  go_region_held3 (fun w' => Sp (w.heap.size + 1) w1 w') ((repeat' (first | with_reducible assumption | with_reducible exact Sp.refl _ _ | with_reducible refine Sp.al ?_ | with_reducible refine Sp.dr ?_ | with_reducible refine Sp.set ?_ | with_reducible refine Sp.put ?_ (by with_reducible assumption) | with_reducible refine Sp.bel ?_ (by with_reducible assumption))))
    (first
      | (go_at_call 47; refine (C1.out _ (by repeat' (first | with_reducible assumption | with_reducible exact Below.refl _ _ | with_reducible refine bel_alloc ?_ | with_reducible refine bel_drew ?_ | with_reducible refine bel_trans ?_ (by with_reducible assumption)))).mono ?_; rintro e w3 ⟨a, b, rfl, o3, b3⟩; obtain ⟨ao, ac, rfl⟩ := o3.1.reads.form; obtain ⟨bo, bc, rfl⟩ := o3.2.1.reads.form; have O3 : Hid (OwnD w3 _ (.slice ao xs.length ac) (.slice bo ys.length bc) xs ys) := o3; clear o3)
      | (go_at_call 70; refine (C2.out _ (by repeat' (first | with_reducible assumption | with_reducible exact Below.refl _ _ | with_reducible refine bel_alloc ?_ | with_reducible refine bel_drew ?_ | with_reducible refine bel_trans ?_ (by with_reducible assumption)))).mono ?_; rintro e w4 ⟨z, rfl, o4, b4⟩; have hap : Hid (apart (.slice ao xs.length ac) z ∧ apart (.slice bo ys.length bc) z) := ⟨apart_of O3.out.1 o4 (bl_size (by repeat' (first | with_reducible assumption | with_reducible exact Below.refl _ _ | with_reducible refine bel_alloc ?_ | with_reducible refine bel_drew ?_ | with_reducible refine bel_trans ?_ (by with_reducible assumption)))), apart_of O3.out.2.1 o4 (bl_size (by repeat' (first | with_reducible assumption | with_reducible exact Below.refl _ _ | with_reducible refine bel_alloc ?_ | with_reducible refine bel_drew ?_ | with_reducible refine bel_trans ?_ (by with_reducible assumption))))⟩; obtain ⟨zo, zc, rfl⟩ := o4.reads.form; have B4 : Hid (Below w1.heap.size w1 w4) := (show Below w1.heap.size w1 w4 from (by repeat' (first | with_reducible assumption | with_reducible exact Below.refl _ _ | with_reducible refine bel_alloc ?_ | with_reducible refine bel_drew ?_ | with_reducible refine bel_trans ?_ (by with_reducible assumption)))); have O4 : Hid (OwnR w4 (w.heap.size + 2) (.slice ao xs.length ac) (.slice bo ys.length bc) (.slice zo h.ks.length zc) xs ys h.ks) := ⟨⟨(O3.out.1.mono (Nat.le_trans S1.out.2.2.2 (bl_size (by repeat' (first | with_reducible assumption | with_reducible exact Below.refl _ _ | with_reducible refine bel_alloc ?_ | with_reducible refine bel_drew ?_ | with_reducible refine bel_trans ?_ (by with_reducible assumption)))))).below (by repeat' (first | with_reducible assumption | with_reducible exact Below.refl _ _ | with_reducible refine bel_alloc ?_ | with_reducible refine bel_drew ?_ | with_reducible refine bel_trans ?_ (by with_reducible assumption))), (O3.out.2.1.mono (Nat.le_trans S1.out.2.2.2 (bl_size (by repeat' (first | with_reducible assumption | with_reducible exact Below.refl _ _ | with_reducible refine bel_alloc ?_ | with_reducible refine bel_drew ?_ | with_reducible refine bel_trans ?_ (by with_reducible assumption)))))).below (by repeat' (first | with_reducible assumption | with_reducible exact Below.refl _ _ | with_reducible refine bel_alloc ?_ | with_reducible refine bel_drew ?_ | with_reducible refine bel_trans ?_ (by with_reducible assumption))), O3.out.2.2⟩, o4.mono (Nat.le_trans S1.out.2.2.2 (bl_size (by repeat' (first | with_reducible assumption | with_reducible exact Below.refl _ _ | with_reducible refine bel_alloc ?_ | with_reducible refine bel_drew ?_ | with_reducible refine bel_trans ?_ (by with_reducible assumption))))), hap.out⟩; have R4 := S1.out.2.1.below B4.out; have r0 : w4.cell? ⟨w.heap.size + 1, 0, none⟩ = some (.slice none 0 0) := R4.cell 0 rfl; have r1 : w4.cell? ⟨w.heap.size + 1, 1, none⟩ = some (.slice none 0 0) := R4.cell 1 rfl; have r2 : w4.cell? ⟨w.heap.size + 1, 2, none⟩ = some (.slice none 0 0) := R4.cell 2 rfl; have r3 : w4.cell? ⟨w.heap.size + 1, 3, none⟩ = some (.int .i64 0) := R4.cell 3 rfl; have r4 : w4.cell? ⟨w.heap.size + 1, 4, none⟩ = some (.int .i64 0) := R4.cell 4 rfl; have r5 : w4.cell? ⟨w.heap.size + 1, 5, none⟩ = some (.int .i64 0) := R4.cell 5 rfl; have f0 := R4.frozen 0; have f1 := R4.frozen 1; have f2 := R4.frozen 2; have f3 := R4.frozen 3; have f4 := R4.frozen 4; have f5 := R4.frozen 5; clear o4))
  all_goals
    go_wp2
    have R4 : StB w4 (w.heap.size + 1) 30 _ := S1.out.2.1.below B4.out
    have G6 := put6_grown w4 (w.heap.size + 1) (.slice ao xs.length ac) (.slice bo ys.length bc) (.slice zo h.ks.length zc) h
    refine bodyPost_ret (results_S Try.isR rfl _ _ (w.heap.size + 1) (srA (.slice ao xs.length ac) (.slice bo ys.length bc) (.slice zo h.ks.length zc) h) rfl rfl (put6_st (.slice ao xs.length ac) (.slice bo ys.length bc) (.slice zo h.ks.length zc) h R4)) rfl ?_
    have B5 := S1.out.2.2.1.trans (B4.out.mono S1.out.2.2.1.size)
    exact ⟨_, _, _, rfl, (O4.out.keptLt G6 (by omega)).mono (by omega), B5.grown G6 B5.size (fun k e => by cases e; omega)⟩
end Go.Proofs.Ytpdggofaobmnlaa
/- Structs answered together; a block that others leave as it is. -/
namespace Go.Proofs.Ytpdggofaobmnlaa
open Go.ChangeShapes Go.WideShapes Go.ChangeAt Go.RowKit

theorem StB.set {w : World} {g k j : Nat} {t : TypeId} {cs : Array Value} {v : Value} (h : StB w g t cs) (ne : g ≠ k) : StB (w.setCell ⟨k, j, none⟩ v) g t cs := h.other _ _ ne
theorem StB.keptN {w w' : World} {g k : Nat} {t : TypeId} {cs : Array Value} (h : StB w g t cs) (b : w.grownBy w' (some k)) (ne : g ≠ k) : StB w' g t cs := h.kept b (by simpa using ne)

/- The five cells of a command put one by one. -/
def put5 (w : World) (g : Nat) (r : Cm) : World :=
  ((((w.setCell ⟨g, 0, none⟩ (.int .i64 r.o)).setCell ⟨g, 1, none⟩ (.int .i64 r.p)).setCell ⟨g, 2, none⟩ (.int .i64 r.a)).setCell ⟨g, 3, none⟩ (.int .i64 r.b)).setCell ⟨g, 4, none⟩ (.int .i64 r.k)
theorem put5_st {w : World} {g : Nat} {t : TypeId} {c0 c1 c2 c3 c4 : Value} (r : Cm) (s : StB w g t #[c0, c1, c2, c3, c4]) : StB (put5 w g r) g t (cmA r) :=
  ((((s.put 0 _ rfl).put 1 _ rfl).put 2 _ rfl).put 3 _ rfl).put 4 _ rfl
theorem put5_grown (w : World) (g : Nat) (r : Cm) : w.grownBy (put5 w g r) (some g) :=
  ((((grownSet _ _ _ _).trans (grownSet _ _ _ _)).trans (grownSet _ _ _ _)).trans (grownSet _ _ _ _)).trans (grownSet _ _ _ _)
/- Block g's cells are as they were. -/
def Sg (g : Nat) (w1 w' : World) : Prop := ∀ j x, w1.cell? ⟨g, j, none⟩ = some x → w'.cell? ⟨g, j, none⟩ = some x
theorem Sg.refl (g : Nat) (w1 : World) : Sg g w1 w1 := fun _ _ h => h
theorem Sg.dr {g : Nat} {w1 wx : World} (h : Sg g w1 wx) : Sg g w1 wx.drew := h
theorem Sg.put {g k : Nat} {w1 wx wy : World} (h : Sg g w1 wx) (e : wx.grownBy wy (some k)) (ne : g ≠ k) : Sg g w1 wy := fun j x h1 => e.cell (h j x h1) (by simpa using ne)
theorem Sg.set {g k i : Nat} {w1 wx : World} {v : Value} (h : Sg g w1 wx) (ne : g ≠ k) : Sg g w1 (wx.setCell ⟨k, i, none⟩ v) := h.put (grownSet wx k i v) ne
theorem Sg.of {g : Nat} {w1 wx : World} {t : TypeId} {cs : Array Value} (h : StB w1 g t cs) (h' : StB wx g t cs) : Sg g w1 wx := fun j x e => by
  rw [cell_of_row w1 g j _ _ _ h] at e
  rw [cell_of_row wx g j _ _ _ h', e]

theorem results_SS {fn : Func} {p q : Tmp} (h : fn.results = #[.cell p 30, .cell q 30]) (tmps : Array Value) (w : World) (g k : Nat) (cs ds : Array Value) (hc : cs.size = 6) (hd : ds.size = 6)
    (hp : tmps.getD p undef = .pointer (some ⟨g, 0, none⟩)) (hq : tmps.getD q undef = .pointer (some ⟨k, 0, none⟩)) (h1 : StB w g 30 cs) (h2 : StB w k 30 ds) : (results fn tmps).run Try.prog w = .ok (.tuple #[.agg cs, .agg ds]) w := by
  have l1 := load_S Try.isR w g cs hc h1
  have l2 := load_S Try.isR w k ds hd h2
  have hp' : tmps[p]?.getD undef = .pointer (some ⟨g, 0, none⟩) := by simpa using hp
  have hq' : tmps[q]?.getD undef = .pointer (some ⟨k, 0, none⟩) := by simpa using hq
  simp [results, h, hp', hq', asAddr, l1, l2]
end Go.Proofs.Ytpdggofaobmnlaa
/- What the model draws for a store and a set, and for two stores: DrawPower, DrawAlike. -/
namespace Go.Proofs.Ytpdggofaobmnlaa
open Go.ChangeShapes Go.WideShapes Go.ChangeAt Go.RowKit

set_option maxRecDepth 20000 in
set_option maxHeartbeats 4000000 in
theorem drawPower_any (B : Nat) (v : Value) (w : World) (h0 : CodeOk w B v) (hB : B ≤ w.heap.size) :
    Calls Try.prog 9 #[v] w fun e w' => ∃ a b k xs ys h i, e = .returned (.tuple #[SRV a b k h, .int .i64 i]) ∧ xs.length ≤ 65 ∧ ys.length ≤ 65 ∧ h.ks.length ≤ 4 ∧ Reads w' a xs ∧ Reads w' b ys ∧ Reads w' k h.ks ∧ Below w.heap.size w w' := by
  obtain ⟨w1, hw1⟩ : ∃ w1, w1 = w.alloc (.cells #[.slice none 0 0, .slice none 0 0, .slice none 0 0, .int .i64 0, .int .i64 0, .int .i64 0] 30) := ⟨_, rfl⟩
  have hs1 := (Sta.start w).box 30 #[.slice none 0 0, .slice none 0 0, .slice none 0 0, .int .i64 0, .int .i64 0, .int .i64 0]
  rw [← hw1] at hs1
  have HS : Hid (Sta w w1 (Blk w.heap.size 30 #[.slice none 0 0, .slice none 0 0, .slice none 0 0, .int .i64 0, .int .i64 0, .int .i64 0] :: [])) := hs1
  clear hs1
  have HC : Hid (CodeOk w B v) := h0
  clear h0
  go_enter Try.func9, Try.ntmps9
  go_wp2_with fail
  rw [← hw1]
  clear hw1
  refine (new_code B v _ (HC.out.below (HS.out.below.mono hB)) (Nat.le_trans hB HS.out.below.size)).mono ?_
  rintro e w2 ⟨c, rfl, hc, C2, G2⟩
  replace HS : Hid (Sta w w2 (CurI B c :: Blk w.heap.size 30 #[.slice none 0 0, .slice none 0 0, .slice none 0 0, .int .i64 0, .int .i64 0, .int .i64 0] :: [])) := HS.out.newCur hB hc C2 G2
  clear C2 G2 hc HC
  go_wp2_with fail
  refine (l12Draw_any HS.out).mono ?_
  rintro e w3 ⟨a, b, q, off, n, cap, xs, ys, h, rfl, hx, hy, hk, S3⟩
  replace HS : Hid (Sta w w3 _) := S3
  clear S3
  obtain ⟨ao, ac, rfl⟩ := (HS.out.readsU 1 rfl).form
  obtain ⟨bo, bc, rfl⟩ := (HS.out.readsV 1 rfl).form
  unfold SRV srA
  obtain ⟨w4, hw4⟩ : ∃ w4, w4 = w3.alloc (.cells #[.slice ao xs.length ac, .slice bo ys.length bc, .slice (some ⟨q, off, none⟩) n cap, .int .i64 h.kd, .int .i64 h.ho, .int .i64 h.tu] 30) := ⟨_, rfl⟩
  replace HS := HS.out.box 30 #[.slice ao xs.length ac, .slice bo ys.length bc, .slice (some ⟨q, off, none⟩) n cap, .int .i64 h.kd, .int .i64 h.ho, .int .i64 h.tu]
  rw [← hw4] at HS
  replace HS : Hid (Sta w w4 _) := HS
  go_upto_region 3 with fail
  rw [← hw4]
  clear hw4
  obtain ⟨gd, hgd⟩ : ∃ gd, gd = w3.heap.size := ⟨_, rfl⟩
  have hn0 : gd ≠ w.heap.size := by
    have h3 := HS.out.apart.1 (Blk w.heap.size 30 #[.slice none 0 0, .slice none 0 0, .slice none 0 0, .int .i64 0, .int .i64 0, .int .i64 0]) (by simp) w3.heap.size (by simp [Blk])
    rw [hgd]
    intro e
    exact h3 (by simp [Blk, e])
  have hn1 := hn0
  rw [← hgd] at HS ⊢
  clear hgd
  have Z0 : Hid (StB w4 gd 30 #[.slice ao xs.length ac, .slice bo ys.length bc, .slice (some ⟨q, off, none⟩) n cap, .int .i64 h.kd, .int .i64 h.ho, .int .i64 h.tu]) := HS.out.get 0 rfl
  have qq0 : ∀ w', Sg gd w4 w' → w'.cell? ⟨gd, 0, none⟩ = some (.slice ao xs.length ac) := fun w' e => e _ _ (Z0.out.cell 0 rfl)
  have qq1 : ∀ w', Sg gd w4 w' → w'.cell? ⟨gd, 1, none⟩ = some (.slice bo ys.length bc) := fun w' e => e _ _ (Z0.out.cell 1 rfl)
  have qq2 : ∀ w', Sg gd w4 w' → w'.cell? ⟨gd, 2, none⟩ = some (.slice (some ⟨q, off, none⟩) n cap) := fun w' e => e _ _ (Z0.out.cell 2 rfl)
  have qq3 : ∀ w', Sg gd w4 w' → w'.cell? ⟨gd, 3, none⟩ = some (.int .i64 h.kd) := fun w' e => e _ _ (Z0.out.cell 3 rfl)
  have qq4 : ∀ w', Sg gd w4 w' → w'.cell? ⟨gd, 4, none⟩ = some (.int .i64 h.ho) := fun w' e => e _ _ (Z0.out.cell 4 rfl)
  have qq5 : ∀ w', Sg gd w4 w' → w'.cell? ⟨gd, 5, none⟩ = some (.int .i64 h.tu) := fun w' e => e _ _ (Z0.out.cell 5 rfl)
  have HD : Hid (Sta w w4.drew _) := HS.out.drew1
  go_region_held3 (fun w' => Sg gd w4 w') ((repeat' (first | with_reducible assumption | with_reducible exact Sg.refl _ _ | with_reducible refine Sg.dr ?_ | with_reducible refine Sg.set ?_ hn0 | with_reducible refine Sg.set ?_ hn1 | with_reducible refine Sg.put ?_ (by with_reducible assumption) hn1 | with_reducible refine Sg.put ?_ (by with_reducible assumption) hn0)))
    (first
      | (go_at_call 31; refine (drawSet_any B c _ (HD.out.get 3 rfl)).mono ?_; rintro e w6 ⟨r, rfl, C6, G6⟩; have H6 : Hid (Sta w w6 _) := HD.out.cur 3 rfl C6 G6; have Y6 : Sg gd w4 w6 := Sg.of Z0.out (H6.out.get 0 rfl); clear C6 G6; have r0 : w6.cell? ⟨w.heap.size, 0, none⟩ = some (.slice none 0 0) := Blk.cell (H6.out.get 4 rfl) 0 rfl; have f0 : w6.frozen? ⟨w.heap.size, 0, none⟩ = false := StB.frozen (H6.out.get 4 rfl) 0; have r1 : w6.cell? ⟨w.heap.size, 1, none⟩ = some (.slice none 0 0) := Blk.cell (H6.out.get 4 rfl) 1 rfl; have f1 : w6.frozen? ⟨w.heap.size, 1, none⟩ = false := StB.frozen (H6.out.get 4 rfl) 1; have r2 : w6.cell? ⟨w.heap.size, 2, none⟩ = some (.slice none 0 0) := Blk.cell (H6.out.get 4 rfl) 2 rfl; have f2 : w6.frozen? ⟨w.heap.size, 2, none⟩ = false := StB.frozen (H6.out.get 4 rfl) 2; have r3 : w6.cell? ⟨w.heap.size, 3, none⟩ = some (.int .i64 0) := Blk.cell (H6.out.get 4 rfl) 3 rfl; have f3 : w6.frozen? ⟨w.heap.size, 3, none⟩ = false := StB.frozen (H6.out.get 4 rfl) 3; have r4 : w6.cell? ⟨w.heap.size, 4, none⟩ = some (.int .i64 0) := Blk.cell (H6.out.get 4 rfl) 4 rfl; have f4 : w6.frozen? ⟨w.heap.size, 4, none⟩ = false := StB.frozen (H6.out.get 4 rfl) 4; have r5 : w6.cell? ⟨w.heap.size, 5, none⟩ = some (.int .i64 0) := Blk.cell (H6.out.get 4 rfl) 5 rfl; have f5 : w6.frozen? ⟨w.heap.size, 5, none⟩ = false := StB.frozen (H6.out.get 4 rfl) 5))
  all_goals
    go_wp2
    have q6 : StB w6 w.heap.size 30 #[.slice none 0 0, .slice none 0 0, .slice none 0 0, .int .i64 0, .int .i64 0, .int .i64 0] := H6.out.get 4 rfl
    have S6 := put6_st (.slice ao xs.length ac) (.slice bo ys.length bc) (.slice (some ⟨q, off, none⟩) n cap) h q6
    have G6 := put6_grown w6 w.heap.size (.slice ao xs.length ac) (.slice bo ys.length bc) (.slice (some ⟨q, off, none⟩) n cap) h
    have H7 := H6.out.turn 4 rfl (Turned.of_grown G6) (Blk w.heap.size 30 (srA (.slice ao xs.length ac) (.slice bo ys.length bc) (.slice (some ⟨q, off, none⟩) n cap) h)) rfl S6
    refine bodyPost_ret (results_S2 Try.isR rfl _ _ w.heap.size (srA (.slice ao xs.length ac) (.slice bo ys.length bc) (.slice (some ⟨q, off, none⟩) n cap) h) _ rfl rfl rfl S6) rfl ?_
    exact ⟨_, _, _, xs, ys, h, _, rfl, hx, hy, hk, H7.readsU 2 rfl, H7.readsV 2 rfl, H7.get 1 rfl, H7.below⟩
end Go.Proofs.Ytpdggofaobmnlaa
