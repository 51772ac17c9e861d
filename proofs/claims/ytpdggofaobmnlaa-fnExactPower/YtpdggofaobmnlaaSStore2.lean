/- The model's store, on: l12Copy. -/
import Derived.Test.YtpdggofaobmnlaaM13
import Derived.Test.YtpdggofaobmnlaaM18
namespace Go.Proofs.Ytpdggofaobmnlaa
open Go.ChangeShapes Go.WideShapes Go.ChangeAt Go.RowKit

/- The six cells of a store put one by one. -/
def put6 (w : World) (g : Nat) (a b k : Value) (h : Hd) : World :=
  (((((w.setCell ⟨g, 0, none⟩ a).setCell ⟨g, 1, none⟩ b).setCell ⟨g, 2, none⟩ k).setCell ⟨g, 3, none⟩ (.int .i64 h.kd)).setCell ⟨g, 4, none⟩ (.int .i64 h.ho)).setCell ⟨g, 5, none⟩ (.int .i64 h.tu)
theorem put6_st {w : World} {g : Nat} {t : TypeId} {c0 c1 c2 c3 c4 c5 : Value} (a b k : Value) (h : Hd) (s : StB w g t #[c0, c1, c2, c3, c4, c5]) : StB (put6 w g a b k h) g t (srA a b k h) :=
  (((((s.put 0 _ rfl).put 1 _ rfl).put 2 _ rfl).put 3 _ rfl).put 4 _ rfl).put 5 _ rfl
theorem put6_grown (w : World) (g : Nat) (a b k : Value) (h : Hd) : w.grownBy (put6 w g a b k h) (some g) :=
  (((((grownSet _ _ _ _).trans (grownSet _ _ _ _)).trans (grownSet _ _ _ _)).trans (grownSet _ _ _ _)).trans (grownSet _ _ _ _)).trans (grownSet _ _ _ _)

set_option maxRecDepth 20000 in
set_option maxHeartbeats 2000000 in
theorem s12copy_any (u v q : Value) (xs ys : List Int) (h : Hd) (w : World) (hu : Reads w u xs) (hv : Reads w v ys) (hq : Reads w q h.ks) (gx : xs.length ≤ 1099511627776) (gy : ys.length ≤ 1099511627776) (gk : h.ks.length ≤ 1099511627776) :
    Calls Try.prog 35 #[SRV u v q h] w fun e w' => ∃ a b k, e = .returned (SRV a b k h) ∧ OwnR w' w.heap.size a b k xs ys h.ks ∧ Below w.heap.size w w' := by
  obtain ⟨w1, hw1⟩ : ∃ w1, w1 = (w.alloc (.cells (srA u v q h) 30)).alloc (.cells zeR 30) := ⟨_, rfl⟩
  have b1 : Below w.heap.size w w1 := by rw [hw1]; exact ((Below.refl _ _).alloc (Nat.le_refl _) _).alloc (by simp) _
  have S1 : Hid (StB w1 w.heap.size 30 (srA u v q h) ∧ StB w1 (w.heap.size + 1) 30 zeR ∧ Below w.heap.size w w1 ∧ w.heap.size + 2 ≤ w1.heap.size) := by
    have a2 := StB.new (w.alloc (.cells (srA u v q h) 30)) 30 zeR
    simp only [World.size_alloc] at a2
    exact ⟨by rw [hw1]; exact (StB.new w _ _).alloc _, by rw [hw1]; exact a2, b1, by rw [hw1]; simp⟩
  have C1 : Hid (∀ wx, Below w1.heap.size w1 wx → Calls Try.prog 47 #[.agg #[u, v]] wx fun e w' => ∃ a b, e = .returned (.agg #[a, b]) ∧ OwnD w' wx.heap.size a b xs ys ∧ Below wx.heap.size wx w') := fun wx e => l3Copy_any u v xs ys wx ((hu.below b1 (Nat.le_refl _)).below e (Nat.le_refl _)) ((hv.below b1 (Nat.le_refl _)).below e (Nat.le_refl _)) gx gy
  have C2 : Hid (∀ wx, Below w1.heap.size w1 wx → Calls Try.prog 70 #[HV q h] wx fun e w' => ∃ u, e = .returned (HV u h) ∧ Own w' wx.heap.size u h.ks ∧ Below wx.heap.size wx w') := fun wx e => s8copy_any q h wx ((hq.below b1 (Nat.le_refl _)).below e (Nat.le_refl _)) gk
  obtain ⟨uo, uc, rfl⟩ := reads_form hu
  obtain ⟨vo, vc, rfl⟩ := reads_form hv
  obtain ⟨qo, qc, rfl⟩ := reads_form hq
  clear b1 hu hv hq gx gy gk
  have q0 : ∀ w', Sp (w.heap.size + 1) w1 w' → w'.cell? ⟨w.heap.size, 0, none⟩ = some (.slice uo xs.length uc) := fun w' b => b _ _ (by simp) (S1.out.1.cell 0 rfl)
  have q1 : ∀ w', Sp (w.heap.size + 1) w1 w' → w'.cell? ⟨w.heap.size, 1, none⟩ = some (.slice vo ys.length vc) := fun w' b => b _ _ (by simp) (S1.out.1.cell 1 rfl)
  have q2 : ∀ w', Sp (w.heap.size + 1) w1 w' → w'.cell? ⟨w.heap.size, 2, none⟩ = some (.slice qo h.ks.length qc) := fun w' b => b _ _ (by simp) (S1.out.1.cell 2 rfl)
  have q3 : ∀ w', Sp (w.heap.size + 1) w1 w' → w'.cell? ⟨w.heap.size, 3, none⟩ = some (.int .i64 h.kd) := fun w' b => b _ _ (by simp) (S1.out.1.cell 3 rfl)
  have q4 : ∀ w', Sp (w.heap.size + 1) w1 w' → w'.cell? ⟨w.heap.size, 4, none⟩ = some (.int .i64 h.ho) := fun w' b => b _ _ (by simp) (S1.out.1.cell 4 rfl)
  have q5 : ∀ w', Sp (w.heap.size + 1) w1 w' → w'.cell? ⟨w.heap.size, 5, none⟩ = some (.int .i64 h.tu) := fun w' b => b _ _ (by simp) (S1.out.1.cell 5 rfl)
  unfold SRV
  conv in srA => unfold srA
  unfold HV hdA at C2
  unfold srA zeR at hw1
  go_enter Try.func35, Try.ntmps35
  go_upto_region 1 with fail
  rw [← hw1]
  clear hw1
  go_region_held3 (fun w' => Sp (w.heap.size + 1) w1 w') ((repeat' (first | with_reducible assumption | with_reducible exact Sp.refl _ _ | with_reducible refine Sp.al ?_ | with_reducible refine Sp.dr ?_ | with_reducible refine Sp.set ?_ | with_reducible refine Sp.put ?_ (by with_reducible assumption) | with_reducible refine Sp.bel ?_ (by with_reducible assumption))))
    (first
      | (go_at_call 47; refine (C1.out _ (by repeat' (first | with_reducible assumption | with_reducible exact Below.refl _ _ | with_reducible refine bel_alloc ?_ | with_reducible refine bel_drew ?_ | with_reducible refine bel_trans ?_ (by with_reducible assumption)))).mono ?_; rintro e w3 ⟨a, b, rfl, o3, b3⟩; obtain ⟨ao, ac, rfl⟩ := o3.1.reads.form; obtain ⟨bo, bc, rfl⟩ := o3.2.1.reads.form; have O3 : Hid (OwnD w3 _ (.slice ao xs.length ac) (.slice bo ys.length bc) xs ys) := o3; clear o3)
      | (go_at_call 70; refine (C2.out _ (by repeat' (first | with_reducible assumption | with_reducible exact Below.refl _ _ | with_reducible refine bel_alloc ?_ | with_reducible refine bel_drew ?_ | with_reducible refine bel_trans ?_ (by with_reducible assumption)))).mono ?_; rintro e w4 ⟨z, rfl, o4, b4⟩; have hap : Hid (apart (.slice ao xs.length ac) z ∧ apart (.slice bo ys.length bc) z) := ⟨apart_of O3.out.1 o4 (bl_size (by repeat' (first | with_reducible assumption | with_reducible exact Below.refl _ _ | with_reducible refine bel_alloc ?_ | with_reducible refine bel_drew ?_ | with_reducible refine bel_trans ?_ (by with_reducible assumption)))), apart_of O3.out.2.1 o4 (bl_size (by repeat' (first | with_reducible assumption | with_reducible exact Below.refl _ _ | with_reducible refine bel_alloc ?_ | with_reducible refine bel_drew ?_ | with_reducible refine bel_trans ?_ (by with_reducible assumption))))⟩; obtain ⟨zo, zc, rfl⟩ := o4.reads.form; have B4 : Hid (Below w1.heap.size w1 w4) := (show Below w1.heap.size w1 w4 from (by repeat' (first | with_reducible assumption | with_reducible exact Below.refl _ _ | with_reducible refine bel_alloc ?_ | with_reducible refine bel_drew ?_ | with_reducible refine bel_trans ?_ (by with_reducible assumption)))); have O4 : Hid (OwnR w4 (w.heap.size + 2) (.slice ao xs.length ac) (.slice bo ys.length bc) (.slice zo h.ks.length zc) xs ys h.ks) := ⟨⟨(O3.out.1.mono (Nat.le_trans S1.out.2.2.2 (bl_size (by repeat' (first | with_reducible assumption | with_reducible exact Below.refl _ _ | with_reducible refine bel_alloc ?_ | with_reducible refine bel_drew ?_ | with_reducible refine bel_trans ?_ (by with_reducible assumption)))))).below (by repeat' (first | with_reducible assumption | with_reducible exact Below.refl _ _ | with_reducible refine bel_alloc ?_ | with_reducible refine bel_drew ?_ | with_reducible refine bel_trans ?_ (by with_reducible assumption))), (O3.out.2.1.mono (Nat.le_trans S1.out.2.2.2 (bl_size (by repeat' (first | with_reducible assumption | with_reducible exact Below.refl _ _ | with_reducible refine bel_alloc ?_ | with_reducible refine bel_drew ?_ | with_reducible refine bel_trans ?_ (by with_reducible assumption)))))).below (by repeat' (first | with_reducible assumption | with_reducible exact Below.refl _ _ | with_reducible refine bel_alloc ?_ | with_reducible refine bel_drew ?_ | with_reducible refine bel_trans ?_ (by with_reducible assumption))), O3.out.2.2⟩, o4.mono (Nat.le_trans S1.out.2.2.2 (bl_size (by repeat' (first | with_reducible assumption | with_reducible exact Below.refl _ _ | with_reducible refine bel_alloc ?_ | with_reducible refine bel_drew ?_ | with_reducible refine bel_trans ?_ (by with_reducible assumption))))), hap.out⟩; have R4 := S1.out.2.1.below B4.out; have r0 : w4.cell? ⟨w.heap.size + 1, 0, none⟩ = some (.slice none 0 0) := R4.cell 0 rfl; have r1 : w4.cell? ⟨w.heap.size + 1, 1, none⟩ = some (.slice none 0 0) := R4.cell 1 rfl; have r2 : w4.cell? ⟨w.heap.size + 1, 2, none⟩ = some (.slice none 0 0) := R4.cell 2 rfl; have r3 : w4.cell? ⟨w.heap.size + 1, 3, none⟩ = some (.int .i64 0) := R4.cell 3 rfl; have r4 : w4.cell? ⟨w.heap.size + 1, 4, none⟩ = some (.int .i64 0) := R4.cell 4 rfl; have r5 : w4.cell? ⟨w.heap.size + 1, 5, none⟩ = some (.int .i64 0) := R4.cell 5 rfl; have f0 := R4.frozen 0; have f1 := R4.frozen 1; have f2 := R4.frozen 2; have f3 := R4.frozen 3; have f4 := R4.frozen 4; have f5 := R4.frozen 5; clear o4))
  all_goals
    go_wp2
    have R4 : StB w4 (w.heap.size + 1) 30 _ := S1.out.2.1.below B4.out
    have G6 := put6_grown w4 (w.heap.size + 1) (.slice ao xs.length ac) (.slice bo ys.length bc) (.slice zo h.ks.length zc) h
    refine bodyPost_ret (results_S Try.isR rfl _ _ (w.heap.size + 1) (srA (.slice ao xs.length ac) (.slice bo ys.length bc) (.slice zo h.ks.length zc) h) rfl rfl (put6_st (.slice ao xs.length ac) (.slice bo ys.length bc) (.slice zo h.ks.length zc) h R4)) rfl ?_
    have B5 := S1.out.2.2.1.trans (B4.out.mono S1.out.2.2.1.size)
    exact ⟨_, _, _, rfl, (O4.out.keptLt G6 (by omega)).mono (by omega), B5.grown G6 B5.size (fun k e => by cases e; omega)⟩
end Go.Proofs.Ytpdggofaobmnlaa
