/- How the laws take a store over, on: toStore, eqStore, markStore, heldStore. -/
import Derived.Test.YtpdggofaobmnlaaM14
namespace Go.Proofs.Ytpdggofaobmnlaa
open Go.ChangeShapes Go.WideShapes Go.ChangeAt Go.RowKit

set_option maxRecDepth 20000 in
set_option maxHeartbeats 2000000 in
theorem toStore_any (u v q : Value) (xs ys : List Int) (h : Hd) (w : World) (hu : Reads w u xs) (hv : Reads w v ys) (hq : Reads w q h.ks) (gx : xs.length ≤ 1099511627776) (gy : ys.length ≤ 1099511627776) (gk : h.ks.length ≤ 1099511627776) :
    Calls Try.prog 23 #[SRV u v q h] w fun e w' => ∃ a b k, e = .returned (SRV a b k h) ∧ OwnR w' w.heap.size a b k xs ys h.ks ∧ Below w.heap.size w w' := by
  obtain ⟨w1, hw1⟩ : ∃ w1, w1 = ((w.alloc (.cells (srA u v q h) 45)).alloc (.cells zeR 30)).alloc (.cells zeR 30) := ⟨_, rfl⟩
  have b1 : Below w.heap.size w w1 := by rw [hw1]; exact (((Below.refl _ _).alloc (Nat.le_refl _) _).alloc (by simp) _).alloc (by simp; omega) _
  have S1 : Hid (StB w1 w.heap.size 45 (srA u v q h) ∧ StB w1 (w.heap.size + 1) 30 zeR ∧ StB w1 (w.heap.size + 1 + 1) 30 zeR ∧ Below w.heap.size w w1 ∧ w.heap.size + 3 ≤ w1.heap.size) := by
    have a2 := StB.new (w.alloc (.cells (srA u v q h) 45)) 30 zeR
    have a3 := StB.new ((w.alloc (.cells (srA u v q h) 45)).alloc (.cells zeR 30)) 30 zeR
    simp only [World.size_alloc] at a2 a3
    refine ⟨?_, ?_, ?_, b1, by rw [hw1]; simp⟩
    · rw [hw1]; exact ((StB.new w _ _).alloc _).alloc _
    · rw [hw1]; exact a2.alloc _
    · rw [hw1]; exact a3
  have c1 := toDisk_any u v xs ys w1 (hu.below b1 (Nat.le_refl _)) (hv.below b1 (Nat.le_refl _)) gx gy
  have c2 : Hid (∀ wx, Below w.heap.size w wx → Calls Try.prog 51 #[HV q h] wx fun e w' => ∃ u, e = .returned (HV u h) ∧ Own w' wx.heap.size u h.ks ∧ Below wx.heap.size wx w') := fun wx b => toHolding_any q h wx (hq.below b (Nat.le_refl _)) gk
  obtain ⟨uo, uc, rfl⟩ := reads_form hu
  obtain ⟨vo, vc, rfl⟩ := reads_form hv
  obtain ⟨qo, qc, rfl⟩ := reads_form hq
  clear b1 hu hv hq gx gy gk
  unfold SRV srA zeR at *
  unfold HV hdA at c2
  go_enter Try.func23, Try.ntmps23
  go_upto_region 2 with fail
  rw [← hw1]
  clear hw1
  have k0 := S1.out.1.cell 0 rfl
  have k1 := S1.out.1.cell 1 rfl
  go_wp2_with fail
  refine c1.mono ?_
  rintro e w2 ⟨a, b, rfl, o2, b2⟩
  obtain ⟨ao, ac, rfl⟩ := o2.1.reads.form
  obtain ⟨bo, bc, rfl⟩ := o2.2.1.reads.form
  have S2 : Hid (StB w2 w.heap.size 45 _ ∧ StB w2 (w.heap.size + 1) 30 _ ∧ StB w2 (w.heap.size + 1 + 1) 30 _ ∧ Below w.heap.size w w2 ∧ w.heap.size + 3 ≤ w2.heap.size) := ⟨S1.out.1.below b2, S1.out.2.1.below b2, S1.out.2.2.1.below b2, S1.out.2.2.2.1.trans (b2.mono S1.out.2.2.2.1.size), Nat.le_trans S1.out.2.2.2.2 b2.size⟩
  have O2 : Hid (OwnD w2 (w.heap.size + 3) _ _ xs ys) := ⟨o2.1.mono S1.out.2.2.2.2, o2.2.1.mono S1.out.2.2.2.2, o2.2.2⟩
  have m0 := S2.out.2.2.1.cell 0 rfl
  have m1 := S2.out.2.2.1.cell 1 rfl
  have f0 := S2.out.2.2.1.frozen 0
  have f1 := S2.out.2.2.1.frozen 1
  clear S1 o2 b2 c1 k0 k1
  go_upto_region 3 with fail
  obtain ⟨w3, hw3⟩ : ∃ w3, w3 = (w2.setCell ⟨w.heap.size + 1 + 1, 0, none⟩ (.slice ao xs.length ac)).setCell ⟨w.heap.size + 1 + 1, 1, none⟩ (.slice bo ys.length bc) := ⟨_, rfl⟩
  rw [← hw3]
  have G3 : w2.grownBy w3 (some (w.heap.size + 1 + 1)) := by rw [hw3]; exact (grownSet _ _ _ _).trans (grownSet _ _ _ _)
  have S3 : Hid (StB w3 w.heap.size 45 _ ∧ StB w3 (w.heap.size + 1) 30 _ ∧ StB w3 (w.heap.size + 1 + 1) 30 #[.slice ao xs.length ac, .slice bo ys.length bc, .slice none 0 0, .int .i64 0, .int .i64 0, .int .i64 0] ∧ Below w.heap.size w w3 ∧ w.heap.size + 3 ≤ w3.heap.size) :=
    ⟨S2.out.1.kept G3 (by simp; omega), S2.out.2.1.kept G3 (by simp), by rw [hw3]; exact (S2.out.2.2.1.put 0 _ rfl).put 1 _ rfl, S2.out.2.2.2.1.grown G3 S2.out.2.2.2.1.size (fun k e => by cases e; omega), Nat.le_trans S2.out.2.2.2.2 G3.size⟩
  have O3 : Hid (OwnD w3 (w.heap.size + 3) _ _ xs ys) := ⟨O2.out.1.keptLt G3 (by omega), O2.out.2.1.keptLt G3 (by omega), O2.out.2.2⟩
  clear S2 O2 G3 hw3 m0 m1 f0 f1
  have k2 := S3.out.1.cell 2 rfl
  have k3 := S3.out.1.cell 3 rfl
  have k4 := S3.out.1.cell 4 rfl
  have k5 := S3.out.1.cell 5 rfl
  go_wp2_with fail
  refine (c2.out w3 S3.out.2.2.2.1).mono ?_
  rintro e w4 ⟨z, rfl, o4, b4⟩
  have hap : Hid (apart (.slice ao xs.length ac) z ∧ apart (.slice bo ys.length bc) z) := ⟨apart_of O3.out.1 o4 (Nat.le_refl _), apart_of O3.out.2.1 o4 (Nat.le_refl _)⟩
  obtain ⟨zo, zc, rfl⟩ := o4.reads.form
  have S4 : Hid (StB w4 (w.heap.size + 1) 30 _ ∧ StB w4 (w.heap.size + 1 + 1) 30 #[.slice ao xs.length ac, .slice bo ys.length bc, .slice none 0 0, .int .i64 0, .int .i64 0, .int .i64 0] ∧ Below w.heap.size w w4 ∧ w.heap.size + 3 ≤ w4.heap.size) := ⟨S3.out.2.1.below b4, S3.out.2.2.1.below b4, S3.out.2.2.2.1.trans (b4.mono S3.out.2.2.2.1.size), Nat.le_trans S3.out.2.2.2.2 b4.size⟩
  have O4 : Hid (OwnR w4 (w.heap.size + 3) (.slice ao xs.length ac) (.slice bo ys.length bc) (.slice zo h.ks.length zc) xs ys h.ks) := ⟨⟨O3.out.1.below b4, O3.out.2.1.below b4, O3.out.2.2⟩, o4.mono S3.out.2.2.2.2, hap.out⟩
  have m2 := S4.out.2.1.cell 2 rfl
  have m3 := S4.out.2.1.cell 3 rfl
  have m4 := S4.out.2.1.cell 4 rfl
  have m5 := S4.out.2.1.cell 5 rfl
  have f2 := S4.out.2.1.frozen 2
  have f3 := S4.out.2.1.frozen 3
  have f4 := S4.out.2.1.frozen 4
  have f5 := S4.out.2.1.frozen 5
  clear S3 O3 o4 b4 c2 k2 k3 k4 k5 hap
  go_upto_region 4 with fail
  obtain ⟨w5, hw5⟩ : ∃ w5, w5 = (((w4.setCell ⟨w.heap.size + 1 + 1, 2, none⟩ (.slice zo h.ks.length zc)).setCell ⟨w.heap.size + 1 + 1, 3, none⟩ (.int .i64 h.kd)).setCell ⟨w.heap.size + 1 + 1, 4, none⟩ (.int .i64 h.ho)).setCell ⟨w.heap.size + 1 + 1, 5, none⟩ (.int .i64 h.tu) := ⟨_, rfl⟩
  rw [← hw5]
  have G5 : w4.grownBy w5 (some (w.heap.size + 1 + 1)) := by rw [hw5]; exact (((grownSet _ _ _ _).trans (grownSet _ _ _ _)).trans (grownSet _ _ _ _)).trans (grownSet _ _ _ _)
  have S5 : Hid (StB w5 (w.heap.size + 1) 30 zeR ∧ StB w5 (w.heap.size + 1 + 1) 30 (srA (.slice ao xs.length ac) (.slice bo ys.length bc) (.slice zo h.ks.length zc) h) ∧ Below w.heap.size w w5 ∧ w.heap.size + 3 ≤ w5.heap.size) :=
    ⟨S4.out.1.kept G5 (by simp), by rw [hw5]; exact (((S4.out.2.1.put 2 _ rfl).put 3 _ rfl).put 4 _ rfl).put 5 _ rfl, S4.out.2.2.1.grown G5 S4.out.2.2.1.size (fun k e => by cases e; omega), Nat.le_trans S4.out.2.2.2 G5.size⟩
  have O5 : Hid (OwnR w5 (w.heap.size + 3) (.slice ao xs.length ac) (.slice bo ys.length bc) (.slice zo h.ks.length zc) xs ys h.ks) := O4.out.keptLt G5 (by omega)
  clear S4 O4 G5 hw5 m2 m3 m4 m5 f2 f3 f4 f5
  go_wp2_with (first | (refine wpList_getS Try.isR rfl _ rfl (w.heap.size + 1 + 1) rfl _ rfl S5.out.2.1 ?_) | (refine wpList_putS Try.isR rfl _ _ rfl (w.heap.size + 1) _ zeR rfl rfl rfl rfl (srA_one h rfl rfl rfl) S5.out.1 ?_; intro w6 s6 g6))
  refine bodyPost_ret (results_S Try.isR rfl _ _ (w.heap.size + 1) _ rfl rfl s6) rfl ?_
  exact ⟨_, _, _, rfl, (O5.out.keptLt g6 (by omega)).mono (by omega), S5.out.2.2.1.grown g6 S5.out.2.2.1.size (fun k e => by cases e; omega)⟩

set_option maxRecDepth 20000 in
set_option maxHeartbeats 1000000 in
theorem eqStore_any (u v q a b k : Value) (xs ys : List Int) (h : Hd) (w : World) (hu : Reads w u xs) (hv : Reads w v ys) (hq : Reads w q h.ks) (ha : Reads w a xs) (hb : Reads w b ys) (hk : Reads w k h.ks) (gx : xs.length ≤ 1099511627776) (gy : ys.length ≤ 1099511627776) (gk : h.ks.length ≤ 1099511627776) :
    Calls Try.prog 24 #[SRV u v q h, SRV a b k h] w fun e w' => e = .returned (.bool true) ∧ Below w.heap.size w w' := by
  obtain ⟨w1, hw1⟩ : ∃ w1, w1 = (w.alloc (.cells (srA u v q h) 30)).alloc (.cells (srA a b k h) 30) := ⟨_, rfl⟩
  have b1 : Below w.heap.size w w1 := by rw [hw1]; exact ((Below.refl _ _).alloc (Nat.le_refl _) _).alloc (by simp) _
  have S1 : Hid (StB w1 w.heap.size 30 (srA u v q h) ∧ StB w1 (w.heap.size + 1) 30 (srA a b k h) ∧ Below w.heap.size w w1) := by
    have a2 := StB.new (w.alloc (.cells (srA u v q h) 30)) 30 (srA a b k h)
    simp only [World.size_alloc] at a2
    exact ⟨by rw [hw1]; exact (StB.new w _ _).alloc _, by rw [hw1]; exact a2, b1⟩
  have c1 := eqDisk_any u v a b xs ys w1 (hu.below b1 (Nat.le_refl _)) (hv.below b1 (Nat.le_refl _)) (ha.below b1 (Nat.le_refl _)) (hb.below b1 (Nat.le_refl _)) gx gy
  have c2 : Hid (∀ wx, Below w.heap.size w wx → Calls Try.prog 53 #[HV q h, HV k h] wx fun e w' => e = .returned (.bool true) ∧ Below wx.heap.size wx w') := fun wx e => eqHolding_any q k h wx (hq.below e (Nat.le_refl _)) (hk.below e (Nat.le_refl _)) gk
  obtain ⟨uo, uc, rfl⟩ := reads_form hu
  obtain ⟨vo, vc, rfl⟩ := reads_form hv
  obtain ⟨qo, qc, rfl⟩ := reads_form hq
  obtain ⟨ao, ac, rfl⟩ := reads_form ha
  obtain ⟨bo, bc, rfl⟩ := reads_form hb
  obtain ⟨ko, kc, rfl⟩ := reads_form hk
  clear b1 hu hv hq ha hb hk gx gy gk
  unfold SRV srA at *
  unfold HV hdA at c2
  go_enter Try.func24, Try.ntmps24
  go_upto_region 1 with fail
  rw [← hw1]
  clear hw1
  have k0 := S1.out.1.cell 0 rfl
  have k1 := S1.out.1.cell 1 rfl
  have l0 := S1.out.2.1.cell 0 rfl
  have l1 := S1.out.2.1.cell 1 rfl
  go_wp2_with fail
  refine c1.mono ?_
  rintro e w2 ⟨rfl, b2⟩
  have S2 : Hid (StB w2 w.heap.size 30 _ ∧ StB w2 (w.heap.size + 1) 30 _ ∧ Below w.heap.size w w2) := ⟨S1.out.1.below b2, S1.out.2.1.below b2, S1.out.2.2.trans (b2.mono S1.out.2.2.size)⟩
  clear S1 c1 b2 k0 k1 l0 l1
  have k2 := S2.out.1.cell 2 rfl
  have k3 := S2.out.1.cell 3 rfl
  have k4 := S2.out.1.cell 4 rfl
  have k5 := S2.out.1.cell 5 rfl
  have l2 := S2.out.2.1.cell 2 rfl
  have l3 := S2.out.2.1.cell 3 rfl
  have l4 := S2.out.2.1.cell 4 rfl
  have l5 := S2.out.2.1.cell 5 rfl
  go_wp2_with fail
  refine (c2.out w2 S2.out.2.2).mono ?_
  rintro e w3 ⟨rfl, b3⟩
  have B3 : Hid (Below w.heap.size w w3) := S2.out.2.2.trans (b3.mono S2.out.2.2.size)
  clear S2 c2 b3 k2 k3 k4 k5 l2 l3 l4 l5
  go_wp2
  go_ret
  exact ⟨rfl, B3.out⟩

/- What marks in three lists leave. -/
def Marked3 (w w' : World) (u v q : Value) : Prop := ∃ w1, Marked w w1 u v ∧ w1.grownBy w' q.ownBlock

set_option maxRecDepth 20000 in
set_option maxHeartbeats 1000000 in
theorem markStore_any (u v q : Value) (xs ys : List Int) (h : Hd) (k : Int) (w : World) (base : Nat) (ho : OwnR w base u v q xs ys h.ks) (gx : xs.length ≤ 1048576) (gy : ys.length ≤ 1048576) (gk : h.ks.length ≤ 1048576) (h0 : 0 ≤ k) (h1 : k + xs.length + ys.length ≤ 4194304) (h2 : k ≤ 1048576) :
    Calls Try.prog 27 #[SRV u v q h, .int .i64 k] w fun e w' => e = .returned (.int .i64 (k + xs.length + ys.length + h.ks.length)) ∧ OwnR w' base u v q (marks k xs.length) (marks (k + xs.length) ys.length) (marks (k + xs.length + ys.length) h.ks.length) ∧ Marked3 w w' u v q := by
  obtain ⟨w1, hw1⟩ : ∃ w1, w1 = w.alloc (.cells (srA u v q h) 30) := ⟨_, rfl⟩
  have b1 : Below w.heap.size w w1 := by rw [hw1]; exact (Below.refl _ _).alloc (Nat.le_refl _) _
  have S1 : Hid (StB w1 w.heap.size 30 (srA u v q h)) := by rw [hw1]; exact StB.new _ _ _
  have O1 : Hid (OwnR w1 base u v q xs ys h.ks ∧ (∀ row, w.grownBy w1 row) ∧ (∀ j, (u.ownBlock = some j → j < w.heap.size) ∧ (v.ownBlock = some j → j < w.heap.size) ∧ (q.ownBlock = some j → j < w.heap.size))) :=
    ⟨ho.below b1, fun row => by rw [hw1]; exact grown_alloc w _ _, fun j => ⟨fun e => (ho.1.1.lt _ e).2, fun e => (ho.1.2.1.lt _ e).2, fun e => (ho.2.1.lt _ e).2⟩⟩
  have c1 := markDisk_any u v xs ys k w1 base O1.out.1.1 gx gy h0 (by omega)
  obtain ⟨uo, uc, rfl⟩ := reads_form ho.1.1.reads
  obtain ⟨vo, vc, rfl⟩ := reads_form ho.1.2.1.reads
  obtain ⟨qo, qc, rfl⟩ := reads_form ho.2.1.reads
  have hm : Hid (k + xs.length + ys.length ≤ 4194304 ∧ 0 ≤ k ∧ h.ks.length ≤ 1048576) := ⟨h1, h0, gk⟩
  clear ho b1 gx gy gk h0 h1 h2
  unfold SRV srA at *
  go_enter Try.func27, Try.ntmps27
  go_upto_region 1 with fail
  rw [← hw1]
  clear hw1
  have k0 := S1.out.cell 0 rfl
  have k1 := S1.out.cell 1 rfl
  go_wp2_with fail
  refine c1.mono ?_
  rintro e w2 ⟨rfl, o2, g2⟩
  have S2 : Hid (StB w2 w.heap.size 30 #[.slice uo xs.length uc, .slice vo ys.length vc, .slice qo h.ks.length qc, .int .i64 h.kd, .int .i64 h.ho, .int .i64 h.tu]) := by
    obtain ⟨wa, ga, gb⟩ := g2
    exact (S1.out.kept ga (by intro e; have := (O1.out.2.2 _).1 e.symm; omega)).kept gb (by intro e; have := (O1.out.2.2 _).2.1 e.symm; omega)
  have q2 : Hid (Own w2 base (.slice qo h.ks.length qc) h.ks) := O1.out.1.2.1.marked g2 O1.out.1.2.2.1.2 O1.out.1.2.2.2.2
  have M2 : Hid (Marked w w2 (.slice uo xs.length uc) (.slice vo ys.length vc)) := by
    obtain ⟨wa, ga, gb⟩ := g2
    exact ⟨wa, (O1.out.2.1 _).trans ga, gb⟩
  have O2 : Hid (OwnD w2 base (.slice uo xs.length uc) (.slice vo ys.length vc) (marks k xs.length) (marks (k + xs.length) ys.length)) := o2
  have A2 : Hid (apart (.slice uo xs.length uc) (.slice qo h.ks.length qc) ∧ apart (.slice vo ys.length vc) (.slice qo h.ks.length qc)) := O1.out.1.2.2
  have c2 := markHolding_any (.slice qo h.ks.length qc) h (k + xs.length + ys.length) w2 base q2.out hm.out.2.2 (by have := hm.out; omega) (by have := hm.out; omega)
  unfold HV hdA at c2
  clear o2 g2 c1 k0 k1 S1 O1 q2
  have k2 := S2.out.cell 2 rfl
  have k3 := S2.out.cell 3 rfl
  have k4 := S2.out.cell 4 rfl
  have k5 := S2.out.cell 5 rfl
  clear S2
  go_wp2_with fail
  refine c2.mono ?_
  rintro e w3 ⟨rfl, o3, g3⟩
  have HC : Hid (OwnR w3 base (.slice uo xs.length uc) (.slice vo ys.length vc) (.slice qo h.ks.length qc) (marks k xs.length) (marks (k + xs.length) ys.length) (marks (k + xs.length + ys.length) h.ks.length) ∧ Marked3 w w3 (.slice uo xs.length uc) (.slice vo ys.length vc) (.slice qo h.ks.length qc)) :=
    ⟨⟨⟨O2.out.1.kept g3 A2.out.1.1, O2.out.2.1.kept g3 A2.out.2.1, O2.out.2.2⟩, o3, A2.out⟩, w2, M2.out, g3⟩
  clear o3 g3 M2 O2 A2 c2 k2 k3 k4 k5
  go_wp2
  go_ret
  exact ⟨rfl, HC.out⟩

set_option maxRecDepth 20000 in
set_option maxHeartbeats 1000000 in
theorem heldStore_any (u v q : Value) (h : Hd) (n m r : Nat) (k : Int) (w : World) (hr : r = h.ks.length) (hu : Reads w u (marks k n)) (hv : Reads w v (marks (k + n) m)) (hq : Reads w q (marks (k + n + m) r)) (gx : n ≤ 1048576) (gy : m ≤ 1048576) (gk : r ≤ 1048576) (h0 : 0 ≤ k) (h1 : k + n + m ≤ 4194304) (h2 : k ≤ 1048576) :
    Calls Try.prog 28 #[SRV u v q h, .int .i64 k] w fun e w' => e = .returned (.int .i64 (k + n + m + r)) ∧ Below w.heap.size w w' := by
  have b1 : Hid (Below w.heap.size w (w.alloc (.cells (srA u v q h) 30))) := (Below.refl _ _).alloc (Nat.le_refl _) _
  have S1 : Hid (StB (w.alloc (.cells (srA u v q h) 30)) w.heap.size 30 (srA u v q h)) := StB.new _ _ _
  have c1 := heldDisk_any u v n m k _ (hu.below b1.out (Nat.le_refl _)) (hv.below b1.out (Nat.le_refl _)) gx gy h0 (by omega)
  have c2 : Hid (∀ wx, Below w.heap.size w wx → Calls Try.prog 61 #[HV q h, .int .i64 (k + n + m)] wx fun e w' => e = .returned (.int .i64 (k + n + m + r)) ∧ Below wx.heap.size wx w') := fun wx b => heldHolding_any q h r (k + n + m) wx hr (hq.below b (Nat.le_refl _)) gk (by omega) (by omega)
  have hp : (0 : Int) ≤ k + n + m := by omega
  have hp2 : (0 : Int) ≤ k + n + m + r := by omega
  obtain ⟨uo, uc, rfl⟩ := reads_form hu
  obtain ⟨vo, vc, rfl⟩ := reads_form hv
  obtain ⟨qo, qc, rfl⟩ := reads_form hq
  obtain ⟨K, hK⟩ : ∃ K : Int, K = k + n + m := ⟨_, rfl⟩
  rw [← hK] at b1 S1 c1 c2 hp hp2 ⊢
  obtain ⟨R, hR⟩ : ∃ R : Int, R = K + r := ⟨_, rfl⟩
  rw [← hR] at c2 hp2 ⊢
  clear hu hv hq hr gx gy gk h0 h1 h2 hK hR
  unfold SRV srA at *
  unfold HV hdA at c2
  go_enter Try.func28, Try.ntmps28
  go_wp2_with fail
  refine c1.mono ?_
  rintro e w2 ⟨rfl, b2⟩
  have B2 : Hid (Below w.heap.size w w2) := b1.out.trans (b2.mono b1.out.size)
  have S2 := S1.out.below b2
  have k2 := S2.cell 2 rfl
  have k3 := S2.cell 3 rfl
  have k4 := S2.cell 4 rfl
  have k5 := S2.cell 5 rfl
  clear b2 c1 b1 S1 S2
  go_wp2_with fail
  refine (c2.out _ B2.out).mono ?_
  rintro e w3 ⟨rfl, b3⟩
  have B3 : Hid (Below w.heap.size w w3) := B2.out.trans (b3.mono B2.out.size)
  clear b3 k2 k3 k4 k5 c2
  go_wp2
  go_ret
  exact ⟨rfl, B3.out⟩
end Go.Proofs.Ytpdggofaobmnlaa
