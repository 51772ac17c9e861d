/- The model's store: StoreOk, l12Copy. -/
import Derived.Test.YtpdggofaobmnlaaGreatDoorM8
import Derived.Test.YtpdggofaobmnlaaGreatDoorM6
import Derived.Test.YtpdggofaobmnlaaGreatDoorM12
import Derived.Test.YtpdggofaobmnlaaGreatDoorM10
import Derived.Test.YtpdggofaobmnlaaGreatDoorM5
import Derived.BigQuiet
namespace Go.Proofs.YtpdggofaobmnlaaGreatDoor
open Go.ChangeShapes Go.WideShapes Go.ChangeAt Go.RowKit

set_option maxRecDepth 20000 in
set_option maxHeartbeats 1000000 in
theorem sstoreok_any (u v q : Value) (xs ys : List Int) (h : Hd) (w : World) (hu : Reads w u xs) (hv : Reads w v ys) (hq : Reads w q h.ks) (gx : xs.length ≤ 1099511627776) (gy : ys.length ≤ 1099511627776) (gk : h.ks.length ≤ 1099511627776) :
    Calls Tryz.prog 13 #[SRV u v q h] w fun e w' => e = .returned (.bool (Sr.ok ⟨xs, ys, h⟩)) ∧ Below w.heap.size w w' := by
  have B1 : Hid (Below w.heap.size w (w.alloc (.cells (srA u v q h) 30))) := (Below.refl _ _).alloc (Nat.le_refl _) _
  have P1 : Hid (StB (w.alloc (.cells (srA u v q h) 30)) w.heap.size 30 (srA u v q h)) := StB.new _ _ _
  have c1 := sdiskOk_any u v xs ys _ (hu.below B1.out (Nat.le_refl _)) (hv.below B1.out (Nat.le_refl _)) gx gy
  have c2 : Hid (∀ wx, Below w.heap.size w wx → Calls Tryz.prog 44 #[HV q h] wx fun e w' => e = .returned (.bool h.ok) ∧ Below wx.heap.size wx w') := fun wx b => sholdok_any q h wx (hq.below b (Nat.le_refl _)) gk
  have HE : Hid (Sr.ok ⟨xs, ys, h⟩ = (bothOk xs ys && h.ok)) := rfl
  obtain ⟨r, hr⟩ : ∃ r, r = Sr.ok ⟨xs, ys, h⟩ := ⟨_, rfl⟩
  rw [← hr] at HE ⊢
  obtain ⟨b, hb⟩ : ∃ b, b = bothOk xs ys := ⟨_, rfl⟩
  obtain ⟨o, ho⟩ : ∃ o, o = h.ok := ⟨_, rfl⟩
  rw [← hb, ← ho] at HE
  rw [← hb] at c1
  rw [← ho] at c2
  obtain ⟨uo, uc, rfl⟩ := reads_form hu
  obtain ⟨vo, vc, rfl⟩ := reads_form hv
  obtain ⟨qo, qc, rfl⟩ := reads_form hq
  clear hu hv hq gx gy gk hr hb ho
  unfold SRV srA at *
  unfold HV hdA at c2
  go_enter Tryz.func13, Tryz.ntmps13
  go_wp2_with fail
  refine c1.mono ?_
  rintro e w2 ⟨rfl, b2⟩
  have B2 : Hid (Below w.heap.size w w2) := B1.out.trans (b2.mono B1.out.size)
  have P2 := P1.out.below b2
  have k2 := P2.cell 2 rfl
  have k3 := P2.cell 3 rfl
  have k4 := P2.cell 4 rfl
  have k5 := P2.cell 5 rfl
  clear b2 c1 B1 P1 P2
  cases b with
  | false =>
    go_wp2
    go_ret
    exact ⟨ret_bool (by rw [HE.out]; rfl), B2.out⟩
  | true =>
    go_wp2_with fail
    refine (c2.out _ B2.out).mono ?_
    rintro e w3 ⟨rfl, b3⟩
    have B3 : Hid (Below w.heap.size w w3) := B2.out.trans (b3.mono B2.out.size)
    clear b3 k2 k3 k4 k5 c2
    go_wp2
    go_ret
    exact ⟨ret_bool (by rw [HE.out]; simp), B3.out⟩
end Go.Proofs.YtpdggofaobmnlaaGreatDoor
/- What a region keeps that stores into one block alone: every cell of the others. -/
namespace Go.Proofs.YtpdggofaobmnlaaGreatDoor
open Go.ChangeShapes Go.WideShapes Go.ChangeAt Go.RowKit

theorem bl_size {w wx : World} (h : Below w.heap.size w wx) : w.heap.size ≤ wx.heap.size := h.size
def Sp (g : Nat) (w1 w' : World) : Prop := ∀ a x, a.block ≠ g → w1.cell? a = some x → w'.cell? a = some x
theorem Sp.refl (g : Nat) (w1 : World) : Sp g w1 w1 := fun _ _ _ h => h
theorem Sp.dr {g : Nat} {w1 wx : World} (h : Sp g w1 wx) : Sp g w1 wx.drew := h
theorem Sp.bel {g : Nat} {w1 wx wy : World} (h : Sp g w1 wx) (b : Below wx.heap.size wx wy) : Sp g w1 wy := fun a x h1 h3 => later_cell (h a x h1 h3) b
theorem Sp.al {g : Nat} {w1 wx : World} {o : Obj} (h : Sp g w1 wx) : Sp g w1 (wx.alloc o) := h.bel ((Below.refl _ _).alloc (Nat.le_refl _) _)
theorem Sp.put {g : Nat} {w1 wx wy : World} (h : Sp g w1 wx) (e : wx.grownBy wy (some g)) : Sp g w1 wy := fun a x h1 h3 => e.cell (h a x h1 h3) (by simpa using h1)
theorem Sp.set {g : Nat} {w1 wx : World} {j : Nat} {v : Value} (h : Sp g w1 wx) : Sp g w1 (wx.setCell ⟨g, j, none⟩ v) := h.put (grownSet wx g j v)
/- The same of two blocks. -/
def Sd (g k : Nat) (w1 w' : World) : Prop := ∀ a x, a.block ≠ g → a.block ≠ k → w1.cell? a = some x → w'.cell? a = some x
theorem Sd.refl (g k : Nat) (w1 : World) : Sd g k w1 w1 := fun _ _ _ _ h => h
theorem Sd.dr {g k : Nat} {w1 wx : World} (h : Sd g k w1 wx) : Sd g k w1 wx.drew := h
theorem Sd.bel {g k : Nat} {w1 wx wy : World} (h : Sd g k w1 wx) (b : Below wx.heap.size wx wy) : Sd g k w1 wy := fun a x h1 h2 h3 => later_cell (h a x h1 h2 h3) b
theorem Sd.al {g k : Nat} {w1 wx : World} {o : Obj} (h : Sd g k w1 wx) : Sd g k w1 (wx.alloc o) := h.bel ((Below.refl _ _).alloc (Nat.le_refl _) _)
theorem Sd.put1 {g k : Nat} {w1 wx wy : World} (h : Sd g k w1 wx) (e : wx.grownBy wy (some g)) : Sd g k w1 wy := fun a x h1 h2 h3 => e.cell (h a x h1 h2 h3) (by simpa using h1)
theorem Sd.put2 {g k : Nat} {w1 wx wy : World} (h : Sd g k w1 wx) (e : wx.grownBy wy (some k)) : Sd g k w1 wy := fun a x h1 h2 h3 => e.cell (h a x h1 h2 h3) (by simpa using h2)
theorem Sd.set1 {g k : Nat} {w1 wx : World} {j : Nat} {v : Value} (h : Sd g k w1 wx) : Sd g k w1 (wx.setCell ⟨g, j, none⟩ v) := h.put1 (grownSet wx g j v)
theorem Sd.set2 {g k : Nat} {w1 wx : World} {j : Nat} {v : Value} (h : Sd g k w1 wx) : Sd g k w1 (wx.setCell ⟨k, j, none⟩ v) := h.put2 (grownSet wx k j v)
end Go.Proofs.YtpdggofaobmnlaaGreatDoor
/- The model's store, on: l12Copy. -/
namespace Go.Proofs.YtpdggofaobmnlaaGreatDoor
open Go.ChangeShapes Go.WideShapes Go.ChangeAt Go.RowKit

/- The six cells of a store put one by one. -/
def put6 (w : World) (g : Nat) (a b k : Value) (h : Hd) : World :=
  (((((w.setCell ⟨g, 0, none⟩ a).setCell ⟨g, 1, none⟩ b).setCell ⟨g, 2, none⟩ k).setCell ⟨g, 3, none⟩ (.int .i64 h.kd)).setCell ⟨g, 4, none⟩ (.int .i64 h.ho)).setCell ⟨g, 5, none⟩ (.int .i64 h.tu)
theorem put6_st {w : World} {g : Nat} {t : TypeId} {c0 c1 c2 c3 c4 c5 : Value} (a b k : Value) (h : Hd) (s : StB w g t #[c0, c1, c2, c3, c4, c5]) : StB (put6 w g a b k h) g t (srA a b k h) :=
  (((((s.put 0 _ rfl).put 1 _ rfl).put 2 _ rfl).put 3 _ rfl).put 4 _ rfl).put 5 _ rfl
theorem put6_grown (w : World) (g : Nat) (a b k : Value) (h : Hd) : w.grownBy (put6 w g a b k h) (some g) :=
  (((((grownSet _ _ _ _).trans (grownSet _ _ _ _)).trans (grownSet _ _ _ _)).trans (grownSet _ _ _ _)).trans (grownSet _ _ _ _)).trans (grownSet _ _ _ _)

set_option maxRecDepth 20000 in
set_option maxHeartbeats 2000000 in
theorem s12copy_any (u v q : Value) (xs ys : List Int) (h : Hd) (w : World) (hu : Reads w u xs) (hv : Reads w v ys) (hq : Reads w q h.ks) (gx : xs.length ≤ 1099511627776) (gy : ys.length ≤ 1099511627776) (gk : h.ks.length ≤ 1099511627776) :
    Calls Tryz.prog 39 #[SRV u v q h] w fun e w' => ∃ a b k, e = .returned (SRV a b k h) ∧ OwnR w' w.heap.size a b k xs ys h.ks ∧ Below w.heap.size w w' := by
  obtain ⟨w1, hw1⟩ : ∃ w1, w1 = (w.alloc (.cells (srA u v q h) 30)).alloc (.cells zeR 30) := ⟨_, rfl⟩
  have b1 : Below w.heap.size w w1 := by rw [hw1]; exact ((Below.refl _ _).alloc (Nat.le_refl _) _).alloc (by simp) _
  have S1 : Hid (StB w1 w.heap.size 30 (srA u v q h) ∧ StB w1 (w.heap.size + 1) 30 zeR ∧ Below w.heap.size w w1 ∧ w.heap.size + 2 ≤ w1.heap.size) := by
    have a2 := StB.new (w.alloc (.cells (srA u v q h) 30)) 30 zeR
    simp only [World.size_alloc] at a2
    exact ⟨by rw [hw1]; exact (StB.new w _ _).alloc _, by rw [hw1]; exact a2, b1, by rw [hw1]; simp⟩
  have C1 : Hid (∀ wx, Below w1.heap.size w1 wx → Calls Tryz.prog 86 #[.agg #[u, v]] wx fun e w' => ∃ a b, e = .returned (.agg #[a, b]) ∧ OwnD w' wx.heap.size a b xs ys ∧ Below wx.heap.size wx w') := fun wx e => l3Copy_any u v xs ys wx ((hu.below b1 (Nat.le_refl _)).below e (Nat.le_refl _)) ((hv.below b1 (Nat.le_refl _)).below e (Nat.le_refl _)) gx gy
  have C2 : Hid (∀ wx, Below w1.heap.size w1 wx → Calls Tryz.prog 87 #[HV q h] wx fun e w' => ∃ u, e = .returned (HV u h) ∧ Own w' wx.heap.size u h.ks ∧ Below wx.heap.size wx w') := fun wx e => s8copy_any q h wx ((hq.below b1 (Nat.le_refl _)).below e (Nat.le_refl _)) gk
  obtain ⟨uo, uc, rfl⟩ := reads_form hu
  obtain ⟨vo, vc, rfl⟩ := reads_form hv
  obtain ⟨qo, qc, rfl⟩ := reads_form hq
  clear b1 hu hv hq gx gy gk
  have q0 : ∀ w', Sp (w.heap.size + 1) w1 w' → w'.cell? ⟨w.heap.size, 0, none⟩ = some (.slice uo xs.length uc) := fun w' b => b _ _ (by simp) (S1.out.1.cell 0 rfl)
  have q1 : ∀ w', Sp (w.heap.size + 1) w1 w' → w'.cell? ⟨w.heap.size, 1, none⟩ = some (.slice vo ys.length vc) := fun w' b => b _ _ (by simp) (S1.out.1.cell 1 rfl)
  have q2 : ∀ w', Sp (w.heap.size + 1) w1 w' → w'.cell? ⟨w.heap.size, 2, none⟩ = some (.slice qo h.ks.length qc) := fun w' b => b _ _ (by simp) (S1.out.1.cell 2 rfl)
  have q3 : ∀ w', Sp (w.heap.size + 1) w1 w' → w'.cell? ⟨w.heap.size, 3, none⟩ = some (.int .i64 h.kd) := fun w' b => b _ _ (by simp) (S1.out.1.cell 3 rfl)
  have q4 : ∀ w', Sp (w.heap.size + 1) w1 w' → w'.cell? ⟨w.heap.size, 4, none⟩ = some (.int .i64 h.ho) := fun w' b => b _ _ (by simp) (S1.out.1.cell 4 rfl)
  have q5 : ∀ w', Sp (w.heap.size + 1) w1 w' → w'.cell? ⟨w.heap.size, 5, none⟩ = some (.int .i64 h.tu) := fun w' b => b _ _ (by simp) (S1.out.1.cell 5 rfl)
  unfold SRV
  conv in srA => unfold srA
  unfold HV hdA at C2
  unfold srA zeR at hw1
  go_enter Tryz.func39, Tryz.ntmps39
  go_upto_region 1 with fail
  rw [← hw1]
  clear hw1
  go_region_held3 (fun w' => Sp (w.heap.size + 1) w1 w') ((repeat' (first | with_reducible assumption | with_reducible exact Sp.refl _ _ | with_reducible refine Sp.al ?_ | with_reducible refine Sp.dr ?_ | with_reducible refine Sp.set ?_ | with_reducible refine Sp.put ?_ (by with_reducible assumption) | with_reducible refine Sp.bel ?_ (by with_reducible assumption))))
    (first
      | (go_at_call 86; refine (C1.out _ (by repeat' (first | with_reducible assumption | with_reducible exact Below.refl _ _ | with_reducible refine bel_alloc ?_ | with_reducible refine bel_drew ?_ | with_reducible refine bel_trans ?_ (by with_reducible assumption)))).mono ?_; rintro e w3 ⟨a, b, rfl, o3, b3⟩; obtain ⟨ao, ac, rfl⟩ := o3.1.reads.form; obtain ⟨bo, bc, rfl⟩ := o3.2.1.reads.form; have O3 : Hid (OwnD w3 _ (.slice ao xs.length ac) (.slice bo ys.length bc) xs ys) := o3; clear o3)
      | (go_at_call 87; refine (C2.out _ (by repeat' (first | with_reducible assumption | with_reducible exact Below.refl _ _ | with_reducible refine bel_alloc ?_ | with_reducible refine bel_drew ?_ | with_reducible refine bel_trans ?_ (by with_reducible assumption)))).mono ?_; rintro e w4 ⟨z, rfl, o4, b4⟩; have hap : Hid (apart (.slice ao xs.length ac) z ∧ apart (.slice bo ys.length bc) z) := ⟨apart_of O3.out.1 o4 (bl_size (by repeat' (first | with_reducible assumption | with_reducible exact Below.refl _ _ | with_reducible refine bel_alloc ?_ | with_reducible refine bel_drew ?_ | with_reducible refine bel_trans ?_ (by with_reducible assumption)))), apart_of O3.out.2.1 o4 (bl_size (by repeat' (first | with_reducible assumption | with_reducible exact Below.refl _ _ | with_reducible refine bel_alloc ?_ | with_reducible refine bel_drew ?_ | with_reducible refine bel_trans ?_ (by with_reducible assumption))))⟩; obtain ⟨zo, zc, rfl⟩ := o4.reads.form; have B4 : Hid (Below w1.heap.size w1 w4) := (show Below w1.heap.size w1 w4 from (by repeat' (first | with_reducible assumption | with_reducible exact Below.refl _ _ | with_reducible refine bel_alloc ?_ | with_reducible refine bel_drew ?_ | with_reducible refine bel_trans ?_ (by with_reducible assumption)))); have O4 : Hid (OwnR w4 (w.heap.size + 2) (.slice ao xs.length ac) (.slice bo ys.length bc) (.slice zo h.ks.length zc) xs ys h.ks) := ⟨⟨(O3.out.1.mono (Nat.le_trans S1.out.2.2.2 (bl_size (by repeat' (first | with_reducible assumption | with_reducible exact Below.refl _ _ | with_reducible refine bel_alloc ?_ | with_reducible refine bel_drew ?_ | with_reducible refine bel_trans ?_ (by with_reducible assumption)))))).below (by repeat' (first | with_reducible assumption | with_reducible exact Below.refl _ _ | with_reducible refine bel_alloc ?_ | with_reducible refine bel_drew ?_ | with_reducible refine bel_trans ?_ (by with_reducible assumption))), (O3.out.2.1.mono (Nat.le_trans S1.out.2.2.2 (bl_size (by repeat' (first | with_reducible assumption | with_reducible exact Below.refl _ _ | with_reducible refine bel_alloc ?_ | with_reducible refine bel_drew ?_ | with_reducible refine bel_trans ?_ (by with_reducible assumption)))))).below (by repeat' (first | with_reducible assumption | with_reducible exact Below.refl _ _ | with_reducible refine bel_alloc ?_ | with_reducible refine bel_drew ?_ | with_reducible refine bel_trans ?_ (by with_reducible assumption))), O3.out.2.2⟩, o4.mono (Nat.le_trans S1.out.2.2.2 (bl_size (by repeat' (first | with_reducible assumption | with_reducible exact Below.refl _ _ | with_reducible refine bel_alloc ?_ | with_reducible refine bel_drew ?_ | with_reducible refine bel_trans ?_ (by with_reducible assumption))))), hap.out⟩; have R4 := S1.out.2.1.below B4.out; have r0 : w4.cell? ⟨w.heap.size + 1, 0, none⟩ = some (.slice none 0 0) := R4.cell 0 rfl; have r1 : w4.cell? ⟨w.heap.size + 1, 1, none⟩ = some (.slice none 0 0) := R4.cell 1 rfl; have r2 : w4.cell? ⟨w.heap.size + 1, 2, none⟩ = some (.slice none 0 0) := R4.cell 2 rfl; have r3 : w4.cell? ⟨w.heap.size + 1, 3, none⟩ = some (.int .i64 0) := R4.cell 3 rfl; have r4 : w4.cell? ⟨w.heap.size + 1, 4, none⟩ = some (.int .i64 0) := R4.cell 4 rfl; have r5 : w4.cell? ⟨w.heap.size + 1, 5, none⟩ = some (.int .i64 0) := R4.cell 5 rfl; have f0 := R4.frozen 0; have f1 := R4.frozen 1; have f2 := R4.frozen 2; have f3 := R4.frozen 3; have f4 := R4.frozen 4; have f5 := R4.frozen 5; clear o4))
  all_goals
    go_wp2
    have R4 : StB w4 (w.heap.size + 1) 30 _ := S1.out.2.1.below B4.out
    have G6 := put6_grown w4 (w.heap.size + 1) (.slice ao xs.length ac) (.slice bo ys.length bc) (.slice zo h.ks.length zc) h
    refine bodyPost_ret (results_S Tryz.isR rfl _ _ (w.heap.size + 1) (srA (.slice ao xs.length ac) (.slice bo ys.length bc) (.slice zo h.ks.length zc) h) rfl rfl (put6_st (.slice ao xs.length ac) (.slice bo ys.length bc) (.slice zo h.ks.length zc) h R4)) rfl ?_
    have B5 := S1.out.2.2.1.trans (B4.out.mono S1.out.2.2.1.size)
    exact ⟨_, _, _, rfl, (O4.out.keptLt G6 (by omega)).mono (by omega), B5.grown G6 B5.size (fun k e => by cases e; omega)⟩
end Go.Proofs.YtpdggofaobmnlaaGreatDoor
/- The model's l9Preempt. -/
namespace Go.Proofs.YtpdggofaobmnlaaGreatDoor
open Go.ChangeShapes Go.WideShapes Go.ChangeAt Go.RowKit

set_option maxRecDepth 20000 in
set_option maxHeartbeats 4000000 in
theorem s9preempt_any (base g : Nat) (h : Hd) (i key k : Int) (w : World) (d : PB w base g h) (i0 : 0 ≤ i) (i1 : i < 4) (t0 : 0 ≤ h.tu) (t1 : h.tu ≤ 1000000000) (hm : h.kd ≠ 0 → allI h.kd = false → 0 ≤ h.ho ∧ h.ho ≤ 3) :
    Calls Tryz.prog 130 #[.pointer (some ⟨g, 0, none⟩), .int .i64 i, .int .i64 key, .int .i64 k] w fun e w' => e = .returned (.bool (h.pred i key k).2) ∧ PB w' base g (h.pred i key k).1 ∧ Below base w w' := by
  obtain ⟨q, cap, d⟩ := d
  have HP : Hid (PQ w base g q cap h) := d
  have k0 : w.cell? ⟨g, 0, none⟩ = some (.slice (some ⟨q, 0, none⟩) 4 cap) := d.1.cell 0 rfl
  have k1 : w.cell? ⟨g, 1, none⟩ = some (.int .i64 h.kd) := d.1.cell 1 rfl
  have k2 : w.cell? ⟨g, 2, none⟩ = some (.int .i64 h.ho) := d.1.cell 2 rfl
  have k3 : w.cell? ⟨g, 3, none⟩ = some (.int .i64 h.tu) := d.1.cell 3 rfl
  have cr := s8reg_any _ h i w d.2.1.reads i0 (by have := d.2.2.2.2.2; omega)
  unfold HV hdA at cr
  obtain ⟨r, HE⟩ : ∃ r, Hid (r = h.pred i key k) := ⟨_, rfl⟩
  rw [← HE.out]
  have HM : Hid (h.kd ≠ 0 → allI h.kd = false → 0 ≤ h.ho ∧ h.ho ≤ 3) := hm
  clear d hm
  go_enter Tryz.func130, Tryz.ntmps130
  go_wp2
  go_loopw [9, 10] (fun f n wr => ∃ j : Nat, (j : Int) ≤ 4 ∧ n = .int .i64 j ∧ f = .bool (has h.ks key j) ∧ wr = w) (fun _ n _ => 4 - (intOf n).toNat)
  case atStart => exact ⟨0, by omega, rfl, rfl, rfl⟩
  case round =>
    obtain ⟨j, hj, rfl, rfl, hw⟩ := hrel
    subst wr
    by_cases hlt : (j : Int) < 4
    · have kj := (HP.out.key j (by omega) 0).2.1
      have HH : Hid (has h.ks key (j + 1) = (has h.ks key j || decide (h.ks.getD j 0 = key))) := rfl
      obtain ⟨y, hy⟩ : ∃ y, y = h.ks.getD j 0 := ⟨_, rfl⟩
      obtain ⟨b, hb⟩ : ∃ b, b = has h.ks key j := ⟨_, rfl⟩
      rw [← hy] at kj HH
      rw [← hb] at HH ⊢
      clear hy hb
      cases b with
      | true =>
        go_wp2
        go_roundw
        case rel => exact ⟨j + 1, by omega, by go_num, by rw [HH.out]; rfl, trivial⟩
        case measure => simp [intOf]; omega
      | false =>
        go_wp2
        go_roundw
        case rel => exact ⟨j + 1, by omega, by go_num, by rw [HH.out]; by_cases e : y = key <;> simp [e], trivial⟩
        case measure => simp [intOf]; omega
    · obtain rfl : j = 4 := by omega
      have HE2 : Hid (r = if (regI h.ks i && has h.ks key 4) = false then (h, false) else if (h.alone key || (allI h.kd && !more h.ks i.toNat key 4)) = true then ((Hd.turn ⟨strike h.ks i.toNat key 4, h.kd, h.ho, h.tu⟩).take i k, true) else (Hd.turn ⟨strike h.ks i.toNat key 4, h.kd, h.ho, h.tu⟩, true)) := HE.out
      clear HE
      obtain ⟨bh, hbh⟩ : ∃ bh, bh = has h.ks key 4 := ⟨_, rfl⟩
      obtain ⟨br, hbr⟩ : ∃ br, br = regI h.ks i := ⟨_, rfl⟩
      rw [← hbh, ← hbr] at HE2
      rw [← hbh]
      rw [← hbr] at cr
      clear hbh hbr
      go_wp2_with fail
      refine cr.mono ?_
      rintro e w2 ⟨rfl, b2⟩
      have HB : Hid (Below base w w2) := b2.mono HP.out.lt
      replace HP : Hid (PQ w2 base g q cap h) := HP.out.below b2
      clear b2 k0 k1 k2 k3 cr
      by_cases hrb : (br && bh) = false
      · have HR : Hid (r = (h, false)) := by rw [Hid, HE2.out, if_pos hrb]
        have HQ : Hid (PB w2 base g h ∧ Below base w w2) := ⟨⟨q, cap, HP.out⟩, HB.out⟩
        clear HE2 HP HB HM
        cases br with
        | false =>
          clear hrb
          go_wp2
          go_ret
          exact ⟨by rw [HR.out]; rfl, by rw [HR.out]; exact HQ.out.1, HQ.out.2⟩
        | true =>
          obtain rfl : bh = false := by simpa using hrb
          clear hrb
          go_wp2
          go_ret
          exact ⟨by rw [HR.out]; rfl, by rw [HR.out]; exact HQ.out.1, HQ.out.2⟩
      · have hrb2 : br = true ∧ bh = true := by simpa using hrb
        obtain ⟨rfl, rfl⟩ := hrb2
        have H3 : Hid (r = if (h.alone key || (allI h.kd && !more h.ks i.toNat key 4)) = true then ((Hd.turn ⟨strike h.ks i.toNat key 4, h.kd, h.ho, h.tu⟩).take i k, true) else (Hd.turn ⟨strike h.ks i.toNat key 4, h.kd, h.ho, h.tu⟩, true)) := by rw [Hid, HE2.out, if_neg (by decide)]
        clear hrb HE2
        have k0 : w2.cell? ⟨g, 0, none⟩ = some (.slice (some ⟨q, 0, none⟩) 4 cap) := HP.out.1.cell 0 rfl
        have k1 : w2.cell? ⟨g, 1, none⟩ = some (.int .i64 h.kd) := HP.out.1.cell 1 rfl
        have k2 : w2.cell? ⟨g, 2, none⟩ = some (.int .i64 h.ho) := HP.out.1.cell 2 rfl
        have cf := fun wx => sall_any h.kd wx
        go_upto_region 8 with fail
        go_cut [11] (fun t wx => t = .bool (h.alone key) ∧ Hid (∃ n, wx = w2.drewN n))
        case first =>
          by_cases hk : h.kd = 0
          · have ea : Hid (h.alone key = false) := by simp [Hid, Hd.alone, hk]
            rw [hk] at k1
            clear cf HM H3 HB
            go_quiet (fail)
            all_goals (go_wp2_with fail; go_meet; exact ⟨by rw [ea.out], ⟨_, rfl⟩⟩)
          · have hkb : (h.kd != 0) = true := by simpa using hk
            cases hf : allI h.kd with
            | true =>
              have ea : Hid (h.alone key = false) := by simp [Hid, Hd.alone, hf]
              simp only [hf] at cf
              clear HM H3 HB hf
              go_quiet ((go_at_call 93; exact Calls.quiet_of_same (cf _)))
              all_goals (go_wp2_with fail; go_meet; exact ⟨by rw [ea.out], ⟨_, rfl⟩⟩)
            | false =>
              have hb := HM.out hk hf
              have kq := (HP.out.key h.ho.toNat (by omega) 0).2.1
              have ea : Hid (h.alone key = decide (h.ks.getD h.ho.toNat 0 = key)) := by simp [Hid, Hd.alone, hk, hf]
              obtain ⟨y, hy⟩ : ∃ y, y = h.ks.getD h.ho.toNat 0 := ⟨_, rfl⟩
              rw [← hy] at kq ea
              simp only [hf] at cf
              obtain ⟨l1, l2⟩ := hb
              clear HM H3 HB hf hy
              go_quiet ((go_at_call 93; exact Calls.quiet_of_same (cf _)))
              all_goals (go_wp2_with fail; go_meet; exact ⟨by rw [ea.out]; by_cases e : y = key <;> simp [e], ⟨_, rfl⟩⟩)
        case rest =>
          obtain ⟨rfl, HN⟩ := hcut
          obtain ⟨n, hn⟩ := HN.out
          have H5 : Hid (PQ wc base g q cap ⟨strike h.ks i.toNat key 0, h.kd, h.ho, h.tu⟩ ∧ Below base w wc) := by
            rw [hn]
            exact ⟨HP.out.below (below_drewN (Below.refl _ _) n), below_drewN HB.out n⟩
          have HI : Hid (i.toNat < 4 ∧ (i.toNat : Int) = i) := ⟨by omega, by omega⟩
          have HT : Hid ((0 ≤ h.tu ∧ h.tu ≤ 1000000000) ∧ h.ks.length = 4) := ⟨⟨t0, t1⟩, HP.out.2.2.2.2.2⟩
          obtain ⟨ba, hba⟩ : ∃ ba, ba = h.alone key := ⟨_, rfl⟩
          rw [← hba] at H3 ⊢
          clear hn HN HP HB HM hba cf k0 k1 k2 t0 t1
          go_wp2_with fail
          go_loopw [12, 13] (fun m n wz => ∃ j : Nat, (j : Int) ≤ 4 ∧ n = .int .i64 j ∧ m = .bool (more h.ks i.toNat key j) ∧ Hid (PQ wz base g q cap ⟨strike h.ks i.toNat key j, h.kd, h.ho, h.tu⟩ ∧ Below base w wz)) (fun _ n _ => 4 - (intOf n).toNat)
          case atStart => exact ⟨0, by omega, rfl, rfl, H5⟩
          case round =>
            obtain ⟨j, hj, rfl, rfl, HR⟩ := hrel
            by_cases hlt : (j : Int) < 4
            · have HM1 : Hid (more h.ks i.toNat key (j + 1) = (more h.ks i.toNat key j || (decide (j ≠ i.toNat) && (decide (h.ks.getD j 0 ≠ key) && decide (h.ks.getD j 0 ≠ 0))))) := rfl
              have HS1 : Hid (strike h.ks i.toNat key (j + 1) = if j ≠ i.toNat ∧ h.ks.getD j 0 = key then (strike h.ks i.toNat key j).set j 0 else strike h.ks i.toNat key j) := rfl
              have HA : Hid ((strike h.ks i.toNat key j).getD j 0 = h.ks.getD j 0) := strike_at _ _ _ _ _ (Nat.le_refl _)
              obtain ⟨s1, hs1⟩ : ∃ s1, s1 = strike h.ks i.toNat key (j + 1) := ⟨_, rfl⟩
              obtain ⟨m1, hm1⟩ : ∃ m1, m1 = more h.ks i.toNat key (j + 1) := ⟨_, rfl⟩
              have HQ : Hid (s1 = strike h.ks i.toNat key (j + 1) ∧ m1 = more h.ks i.toNat key (j + 1)) := ⟨hs1, hm1⟩
              rw [← hs1] at HS1
              rw [← hm1] at HM1
              clear hs1 hm1
              obtain ⟨m0, hm0⟩ : ∃ m0, m0 = more h.ks i.toNat key j := ⟨_, rfl⟩
              rw [← hm0] at HM1 ⊢
              clear hm0
              by_cases hji : (j : Int) = i
              · have e1 : j = i.toNat := by omega
                have HS2 : Hid (s1 = strike h.ks i.toNat key j) := by rw [Hid, HS1.out, if_neg (by simp [e1])]
                have HM2 : Hid (m1 = m0) := by rw [Hid, HM1.out]; simp [e1]
                have hjb : ((j : Int) == i) = true := by simpa using hji
                clear HS1 HM1 HA hji e1
                go_wp2
                go_roundw
                case rel => exact ⟨j + 1, by omega, by go_num, by rw [← HQ.out.2, HM2.out], by rw [← HQ.out.1, HS2.out]; exact HR⟩
                case measure => simp [intOf]; omega
              · have e1 : j ≠ i.toNat := by omega
                have hjb : ((j : Int) == i) = false := by simpa using hji
                obtain ⟨ff, kj, PK⟩ := HR.out.1.key j (by omega) 0
                rw [HA.out] at kj
                have k0 : wr.cell? ⟨g, 0, none⟩ = some (.slice (some ⟨q, 0, none⟩) 4 cap) := HR.out.1.1.cell 0 rfl
                have hgq : g ≠ q := HR.out.1.2.2.1
                obtain ⟨y, hy⟩ : ∃ y, y = h.ks.getD j 0 := ⟨_, rfl⟩
                rw [← hy] at kj HS1 HM1
                clear hy HA
                by_cases hyk : y = key
                · have HS2 : Hid (s1 = (strike h.ks i.toNat key j).set j 0) := by rw [Hid, HS1.out, if_pos ⟨e1, hyk⟩]
                  have HM2 : Hid (m1 = m0) := by rw [Hid, HM1.out]; simp [hyk]
                  have HP2 : Hid (PQ (wr.setCell ⟨q, j, none⟩ (.int .i64 0)) base g q cap ⟨s1, h.kd, h.ho, h.tu⟩ ∧ Below base w (wr.setCell ⟨q, j, none⟩ (.int .i64 0))) := by
                    rw [HS2.out]; exact ⟨PK.1, HR.out.2.trans PK.2⟩
                  have l0 : (wr.setCell ⟨q, j, none⟩ (.int .i64 0)).cell? ⟨g, 0, none⟩ = some (.slice (some ⟨q, 0, none⟩) 4 cap) := PK.1.1.cell 0 rfl
                  have lj : (wr.setCell ⟨q, j, none⟩ (.int .i64 0)).cell? ⟨q, j, none⟩ = some (.int .i64 0) := World.cell?_setCell_same _ _ _ kj
                  have hykb : (y == key) = true := by simpa using hyk
                  clear HS1 HM1 HS2 HR PK hyk
                  cases m0 with
                  | true =>
                    go_wp2
                    go_roundw
                    case rel => exact ⟨j + 1, by omega, by go_num, by rw [← HQ.out.2, HM2.out], by rw [← HQ.out.1]; exact HP2⟩
                    case measure => simp [intOf]; omega
                  | false =>
                    go_wp2
                    go_roundw
                    case rel => exact ⟨j + 1, by omega, by go_num, by rw [← HQ.out.2, HM2.out], by rw [← HQ.out.1]; exact HP2⟩
                    case measure => simp [intOf]; omega
                · have HS2 : Hid (s1 = strike h.ks i.toNat key j) := by rw [Hid, HS1.out, if_neg (fun e => hyk e.2)]
                  have HM2 : Hid (m1 = (m0 || decide (y ≠ 0))) := by rw [Hid, HM1.out]; simp [hyk, e1]
                  have HP2 : Hid (PQ wr base g q cap ⟨s1, h.kd, h.ho, h.tu⟩ ∧ Below base w wr) := by
                    rw [HS2.out]; exact HR.out
                  have hykb : (y == key) = false := by simpa using hyk
                  clear HS1 HM1 HS2 HR PK hyk ff
                  cases m0 with
                  | true =>
                    go_wp2
                    go_roundw
                    case rel => exact ⟨j + 1, by omega, by go_num, by rw [← HQ.out.2, HM2.out]; rfl, by rw [← HQ.out.1]; exact HP2⟩
                    case measure => simp [intOf]; omega
                  | false =>
                    by_cases hy0 : y = 0
                    · have hyb : (y != 0) = false := by simp [hy0]
                      go_wp2
                      go_roundw
                      case rel => exact ⟨j + 1, by omega, by go_num, by rw [← HQ.out.2, HM2.out]; simp [hy0], by rw [← HQ.out.1]; exact HP2⟩
                      case measure => simp [intOf]; omega
                    · have hyb : (y != 0) = true := by simpa using hy0
                      go_wp2
                      go_roundw
                      case rel => exact ⟨j + 1, by omega, by go_num, by rw [← HQ.out.2, HM2.out]; simp [hy0], by rw [← HQ.out.1]; exact HP2⟩
                      case measure => simp [intOf]; omega
            · obtain rfl : j = 4 := by omega
              obtain ⟨h4, hh4⟩ : ∃ h4 : Hd, h4 = ⟨strike h.ks i.toNat key 4, h.kd, h.ho, h.tu⟩ := ⟨_, rfl⟩
              obtain ⟨m4, hm4⟩ : ∃ m4, m4 = more h.ks i.toNat key 4 := ⟨_, rfl⟩
              rw [← hh4, ← hm4] at H3
              rw [← hh4] at HR
              rw [← hm4]
              have HK : Hid (h4.kd = h.kd) := by rw [hh4]; rfl
              have t2 : 0 ≤ h4.tu ∧ h4.tu ≤ 1000000000 := by rw [hh4]; exact HT.out.1
              have ct := s9turn_any base g h4 wr ⟨q, cap, HR.out.1⟩ t2.1 t2.2
              have HB2 : Hid (Below base w wr) := HR.out.2
              clear HR hh4 hm4 t2 H5
              go_wp2_with fail
              refine ct.mono ?_
              rintro e w6 ⟨rfl, P6, B6⟩
              have HB6 : Hid (Below base w w6) := HB2.out.trans B6
              have HP6 : Hid (PB w6 base g h4.turn) := P6
              have k1 : w6.cell? ⟨g, 1, none⟩ = some (.int .i64 h4.kd) := by obtain ⟨q6, c6, d6⟩ := P6; exact d6.1.cell 1 rfl
              have cf := fun wx => sall_any h4.kd wx
              have HA4 : Hid (allI h.kd = allI h4.kd) := by rw [Hid, HK.out]
              rw [HA4.out] at H3
              obtain ⟨a4, ha4⟩ : ∃ a4, a4 = allI h4.kd := ⟨_, rfl⟩
              rw [← ha4] at H3
              simp only [← ha4] at cf
              clear P6 B6 ct HB2 ha4 HA4
              have take : ∀ wx, PB wx base g h4.turn → _ := fun wx d => s9take_any base g h4.turn i k wx d
              cases ba with
              | true =>
                have HR : Hid (r = ((h4.turn).take i k, true)) := by rw [Hid, H3.out]; rfl
                clear H3 cf k1
                go_wp2_with fail
                refine (take _ HP6.out).mono ?_
                rintro e w7 ⟨rfl, P7, B7⟩
                have HQ : Hid (PB w7 base g ((h4.turn).take i k) ∧ Below base w w7) := ⟨P7, HB6.out.trans B7⟩
                clear P7 B7 take
                go_wp2
                go_ret
                exact ⟨by rw [HR.out]; rfl, by rw [HR.out]; exact HQ.out.1, HQ.out.2⟩
              | false =>
                cases a4 with
                | false =>
                  have HR : Hid (r = (h4.turn, true)) := by rw [Hid, H3.out]; rfl
                  have HQ : Hid (PB w6 base g h4.turn ∧ Below base w w6) := ⟨HP6.out, HB6.out⟩
                  clear H3 take HB6 HP6
                  go_wp2_with (first | (go_at_call 93; refine (cf _).mono ?_; rintro e w' ⟨rfl, hw'⟩; subst w'))
                  go_ret
                  exact ⟨by rw [HR.out]; rfl, by rw [HR.out]; exact HQ.out.1, HQ.out.2⟩
                | true =>
                  cases m4 with
                  | true =>
                    have HR : Hid (r = (h4.turn, true)) := by rw [Hid, H3.out]; rfl
                    have HQ : Hid (PB w6 base g h4.turn ∧ Below base w w6) := ⟨HP6.out, HB6.out⟩
                    clear H3 take HB6 HP6
                    go_wp2_with (first | (go_at_call 93; refine (cf _).mono ?_; rintro e w' ⟨rfl, hw'⟩; subst w'))
                    go_ret
                    exact ⟨by rw [HR.out]; rfl, by rw [HR.out]; exact HQ.out.1, HQ.out.2⟩
                  | false =>
                    have HR : Hid (r = ((h4.turn).take i k, true)) := by rw [Hid, H3.out]; rfl
                    clear H3
                    go_wp2_with fail
                    refine (cf _).mono ?_
                    rintro e w' ⟨rfl, hw'⟩; subst w'
                    clear cf k1
                    go_wp2_with fail
                    refine (take _ HP6.out).mono ?_
                    rintro e w7 ⟨rfl, P7, B7⟩
                    have HQ : Hid (PB w7 base g ((h4.turn).take i k) ∧ Below base w w7) := ⟨P7, HB6.out.trans B7⟩
                    clear P7 B7 take
                    go_wp2
                    go_ret
                    exact ⟨by rw [HR.out]; rfl, by rw [HR.out]; exact HQ.out.1, HQ.out.2⟩
end Go.Proofs.YtpdggofaobmnlaaGreatDoor
