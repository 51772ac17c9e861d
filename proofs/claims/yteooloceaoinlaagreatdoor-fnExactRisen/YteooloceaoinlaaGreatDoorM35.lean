/- Holdings by the program, on: Holds, May, a new holding. -/
import Derived.Test.YteooloceaoinlaaGreatDoorM27
import Derived.Test.YteooloceaoinlaaGreatDoorM18
import Derived.Test.YteooloceaoinlaaGreatDoorM5
import Derived.Test.YteooloceaoinlaaGreatDoorM23
import Derived.Test.YteooloceaoinlaaGreatDoorM8
import Derived.Deep.OwnRows
import Derived.Test.YteooloceaoinlaaGreatDoorM28
import Derived.Test.YteooloceaoinlaaGreatDoorM34
import Derived.Test.YteooloceaoinlaaGreatDoorM22
import Derived.ArgAppend
namespace Go.Proofs.YteooloceaoinlaaGreatDoor
open Go.ChangeShapes Go.WideShapes Go.ChangeAt Go.RowKit

theorem holdsF_ok {h : Hd} (hk : h.ok = true) (i : Int) : holdsF (KF h.ks) h.kd h.ho i = (inI i 0 3 && h.holds i) := by
  have hm : h.mid = true := by
    unfold Hd.ok at hk
    simp only [Bool.and_eq_true] at hk
    exact hk.2
  unfold holdsF Hd.holds
  rw [show decide (KF h.ks i.toNat ≠ 0) = regI h.ks i from rfl]
  unfold Hd.mid at hm
  cases hin : inI i 0 3
  · simp
  · have hi : 0 ≤ i ∧ i ≤ 3 := by simpa [inI] using hin
    simp only [Bool.true_and]
    by_cases h0 : h.kd = 0
    · rw [if_pos h0] at hm
      have ho : h.ho = -1 := by simpa using hm
      rw [h0, ho]
      simp [show allI 0 = false from rfl]
      intro _; omega
    · rw [if_neg h0] at hm
      cases ha : allI h.kd
      · rw [ha] at hm
        simp only [Bool.false_eq_true, if_false, Bool.and_eq_true] at hm
        by_cases he : i = h.ho
        · subst he
          simp [h0, hm.2]
        · simp [he, Ne.symm he]
      · rw [ha] at hm
        simp only [if_true, Bool.and_eq_true, decide_eq_true_eq] at hm
        have : h.ho ≠ i := by omega
        simp [h0, this]

theorem heA_S {w : World} {g : Nat} {f : Nat → Int} {kd ho tu : Int} {w' : World} {B : Nat} (h : Hid (StB w g 125 (heA f kd ho tu))) (hb : Below B w w') (e : B = w.heap.size) : Hid (StB w' g 125 (heA f kd ho tu)) := by subst e; exact h.out.below hb
theorem HB_next {w w3 w4 : World} (h : Hid (Below w.heap.size w w3)) (b : Below w3.heap.size w3 w4) : Hid (Below w.heap.size w w4) := h.out.trans (b.mono h.out.size)
end Go.Proofs.YteooloceaoinlaaGreatDoor
/- Holdings by the program, on: a new holding. -/
namespace Go.Proofs.YteooloceaoinlaaGreatDoor
open Go.ChangeShapes Go.WideShapes Go.ChangeAt Go.RowKit

theorem cell_put4 {w : World} {g k : Nat} (hne : g ≠ k) {j : Nat} {a b c d x : Value} (h : w.cell? ⟨g, j, none⟩ = some x) :
    ((((w.setCell ⟨k, 0, none⟩ a).setCell ⟨k, 1, none⟩ b).setCell ⟨k, 2, none⟩ c).setCell ⟨k, 3, none⟩ d).cell? ⟨g, j, none⟩ = some x := by
  rw [World.cell?_setCell_far _ _ _ _ (Ne.symm hne), World.cell?_setCell_far _ _ _ _ (Ne.symm hne), World.cell?_setCell_far _ _ _ _ (Ne.symm hne), World.cell?_setCell_far _ _ _ _ (Ne.symm hne), h]
end Go.Proofs.YteooloceaoinlaaGreatDoor
/- What a region keeps that stores into one block alone: every cell of the others. -/
namespace Go.Proofs.YteooloceaoinlaaGreatDoor
open Go.ChangeShapes Go.WideShapes Go.ChangeAt Go.RowKit

theorem bl_size {w wx : World} (h : Below w.heap.size w wx) : w.heap.size ≤ wx.heap.size := h.size
def Sp (g : Nat) (w1 w' : World) : Prop := ∀ a x, a.block ≠ g → w1.cell? a = some x → w'.cell? a = some x
theorem Sp.refl (g : Nat) (w1 : World) : Sp g w1 w1 := fun _ _ _ h => h
theorem Sp.dr {g : Nat} {w1 wx : World} (h : Sp g w1 wx) : Sp g w1 wx.drew := h
theorem Sp.bel {g : Nat} {w1 wx wy : World} (h : Sp g w1 wx) (b : Below wx.heap.size wx wy) : Sp g w1 wy := fun a x h1 h3 => later_cell (h a x h1 h3) b
theorem Sp.al {g : Nat} {w1 wx : World} {o : Obj} (h : Sp g w1 wx) : Sp g w1 (wx.alloc o) := h.bel ((Below.refl _ _).alloc (Nat.le_refl _) _)
theorem Sp.put {g : Nat} {w1 wx wy : World} (h : Sp g w1 wx) (e : wx.grownBy wy (some g)) : Sp g w1 wy := fun a x h1 h3 => e.cell (h a x h1 h3) (by simpa using h1)
theorem Sp.set {g : Nat} {w1 wx : World} {j : Nat} {v : Value} (h : Sp g w1 wx) : Sp g w1 (wx.setCell ⟨g, j, none⟩ v) := h.put (grownSet wx g j v)
/- The same of two blocks. -/
def Sd (g k : Nat) (w1 w' : World) : Prop := ∀ a x, a.block ≠ g → a.block ≠ k → w1.cell? a = some x → w'.cell? a = some x
theorem Sd.refl (g k : Nat) (w1 : World) : Sd g k w1 w1 := fun _ _ _ _ h => h
theorem Sd.dr {g k : Nat} {w1 wx : World} (h : Sd g k w1 wx) : Sd g k w1 wx.drew := h
theorem Sd.bel {g k : Nat} {w1 wx wy : World} (h : Sd g k w1 wx) (b : Below wx.heap.size wx wy) : Sd g k w1 wy := fun a x h1 h2 h3 => later_cell (h a x h1 h2 h3) b
theorem Sd.al {g k : Nat} {w1 wx : World} {o : Obj} (h : Sd g k w1 wx) : Sd g k w1 (wx.alloc o) := h.bel ((Below.refl _ _).alloc (Nat.le_refl _) _)
theorem Sd.put1 {g k : Nat} {w1 wx wy : World} (h : Sd g k w1 wx) (e : wx.grownBy wy (some g)) : Sd g k w1 wy := fun a x h1 h2 h3 => e.cell (h a x h1 h2 h3) (by simpa using h1)
theorem Sd.put2 {g k : Nat} {w1 wx wy : World} (h : Sd g k w1 wx) (e : wx.grownBy wy (some k)) : Sd g k w1 wy := fun a x h1 h2 h3 => e.cell (h a x h1 h2 h3) (by simpa using h2)
theorem Sd.set1 {g k : Nat} {w1 wx : World} {j : Nat} {v : Value} (h : Sd g k w1 wx) : Sd g k w1 (wx.setCell ⟨g, j, none⟩ v) := h.put1 (grownSet wx g j v)
theorem Sd.set2 {g k : Nat} {w1 wx : World} {j : Nat} {v : Value} (h : Sd g k w1 wx) : Sd g k w1 (wx.setCell ⟨k, j, none⟩ v) := h.put2 (grownSet wx k j v)
end Go.Proofs.YteooloceaoinlaaGreatDoor
/- The model's store, on: l12Copy. -/
namespace Go.Proofs.YteooloceaoinlaaGreatDoor
open Go.ChangeShapes Go.WideShapes Go.ChangeAt Go.RowKit

/- The six cells of a store put one by one. -/
def put6 (w : World) (g : Nat) (a b k : Value) (h : Hd) : World :=
  (((((w.setCell ⟨g, 0, none⟩ a).setCell ⟨g, 1, none⟩ b).setCell ⟨g, 2, none⟩ k).setCell ⟨g, 3, none⟩ (.int .i64 h.kd)).setCell ⟨g, 4, none⟩ (.int .i64 h.ho)).setCell ⟨g, 5, none⟩ (.int .i64 h.tu)
theorem put6_st {w : World} {g : Nat} {t : TypeId} {c0 c1 c2 c3 c4 c5 : Value} (a b k : Value) (h : Hd) (s : StB w g t #[c0, c1, c2, c3, c4, c5]) : StB (put6 w g a b k h) g t (srA a b k h) :=
  (((((s.put 0 _ rfl).put 1 _ rfl).put 2 _ rfl).put 3 _ rfl).put 4 _ rfl).put 5 _ rfl
theorem put6_grown (w : World) (g : Nat) (a b k : Value) (h : Hd) : w.grownBy (put6 w g a b k h) (some g) :=
  (((((grownSet _ _ _ _).trans (grownSet _ _ _ _)).trans (grownSet _ _ _ _)).trans (grownSet _ _ _ _)).trans (grownSet _ _ _ _)).trans (grownSet _ _ _ _)
end Go.Proofs.YteooloceaoinlaaGreatDoor
/- Disks: the model's Written and NewDisk. -/
namespace Go.Proofs.YteooloceaoinlaaGreatDoor
open Go.ChangeShapes Go.WideShapes Go.ChangeAt Go.RowKit

theorem ownZeros (w : World) (base k : Nat) (h8 : k ≤ 8) (hb : base ≤ w.heap.size) : Own (w.alloc (.cells (madeCells #[Value.int .i64 0] k) 2)) base (.slice (some ⟨w.heap.size, 0, none⟩) k k) (List.replicate k 0) := by
  have hsz : (madeCells #[Value.int .i64 0] k).size = k := by
    have := congrArg List.length (zeros_eq k)
    simpa using this
  have := World.ownsRow_lit (base := base) (e := 2) (size := 1) w (madeCells #[Value.int .i64 0] k) k hb (by unfold maxLen; omega) (by rw [hsz]; omega)
  unfold Own
  rw [← zeros_eq, List.length_replicate]
  exact this

theorem twoZeros (w : World) (o : Obj) (k : Nat) (h8 : k ≤ 8) :
    Own ((((w.alloc o).alloc (.cells (madeCells #[.int .i64 0] k) 2)).alloc (.cells (madeCells #[.int .i64 0] k) 2)).drew) w.heap.size (.slice (some ⟨w.heap.size + 1, 0, none⟩) k k) (List.replicate k 0) ∧
    Own ((((w.alloc o).alloc (.cells (madeCells #[.int .i64 0] k) 2)).alloc (.cells (madeCells #[.int .i64 0] k) 2)).drew) w.heap.size (.slice (some ⟨w.heap.size + 1 + 1, 0, none⟩) k k) (List.replicate k 0) ∧
    Below w.heap.size w ((((w.alloc o).alloc (.cells (madeCells #[.int .i64 0] k) 2)).alloc (.cells (madeCells #[.int .i64 0] k) 2)).drew) := by
  refine ⟨?_, ?_, below_drewN ((((Below.refl _ _).alloc (Nat.le_refl _) _).alloc (by simp) _).alloc (by simp; omega) _) 1⟩
  · have := (ownZeros (w.alloc o) w.heap.size k h8 (by simp)).below (belowAlloc _ (.cells (madeCells #[.int .i64 0] k) 2))
    show Own (((w.alloc o).alloc _).alloc _) _ _ _
    simpa using this
  · have := (ownZeros ((w.alloc o).alloc (.cells (madeCells #[.int .i64 0] k) 2)) w.heap.size k h8 (by simp; omega))
    show Own (((w.alloc o).alloc _).alloc _) _ _ _
    simpa using this
end Go.Proofs.YteooloceaoinlaaGreatDoor
/- The model's store, on: NewStore, Power. -/
namespace Go.Proofs.YteooloceaoinlaaGreatDoor
open Go.ChangeShapes Go.WideShapes Go.ChangeAt Go.RowKit

theorem newS_yes {n : Int} (h : cntOk n = true) : newS n = ⟨zerosI n, zerosI n, Hd.new⟩ := by
  have e : (decide (1 ≤ n) && decide (n ≤ 8)) = true := h
  unfold newS
  rw [e, if_pos rfl]
theorem newS_no {n : Int} (h : cntOk n = false) : newS n = Sr.zero := by
  have e : (decide (1 ≤ n) && decide (n ≤ 8)) = false := h
  unfold newS
  rw [e]
  rfl

/- The box of a store and the result. -/
structure Dp (w wx : World) (u v q : Value) (h : Hd) : Prop where
  st : StB wx w.heap.size 72 (srA u v q h)
  rs : StB wx (w.heap.size + 1) 72 zeR
  bl : Below w.heap.size w wx
  sz : w.heap.size + 2 ≤ wx.heap.size
theorem Dp.next {w wx wy : World} {u v q : Value} {h : Hd} (d : Dp w wx u v q h) (b : Below wx.heap.size wx wy) : Dp w wy u v q h :=
  ⟨d.st.below b, d.rs.below b, d.bl.trans (b.mono d.bl.size), Nat.le_trans d.sz b.size⟩
theorem Dp.grown {w wx wy : World} {u v q : Value} {h : Hd} {g : Nat} (d : Dp w wx u v q h) (b : wx.grownBy wy (some g)) (hg : w.heap.size + 2 ≤ g) : Dp w wy u v q h :=
  ⟨d.st.kept b (by simp; omega), d.rs.kept b (by simp; omega), d.bl.grown b d.bl.size (fun k e => by cases e; omega), Nat.le_trans d.sz b.size⟩
end Go.Proofs.YteooloceaoinlaaGreatDoor
/- The program's store, on: freshStore, NewStore, Power. -/
namespace Go.Proofs.YteooloceaoinlaaGreatDoor
open Go.ChangeShapes Go.WideShapes Go.ChangeAt Go.RowKit

set_option maxRecDepth 20000 in
set_option maxHeartbeats 2000000 in
theorem ifreshStore_any (u v q : Value) (xs ys : List Int) (h : Hd) (w : World) (hu : Reads w u xs) (hv : Reads w v ys) (hq : Reads w q h.ks) (hx1 : 1 ≤ xs.length) (hy1 : 1 ≤ ys.length) (hk1 : 1 ≤ h.ks.length) (gx : xs.length ≤ 1099511627776) (gy : ys.length ≤ 1099511627776) (gk : h.ks.length ≤ 1099511627776) :
    Calls Tryz.prog 86 #[SRV u v q h] w fun e w' => ∃ a b k, e = .returned (SRV a b k h) ∧ OwnR w' w.heap.size a b k xs ys h.ks ∧ Below w.heap.size w w' := by
  obtain ⟨w1, hw1⟩ : ∃ w1, w1 = (w.alloc (.cells (srA u v q h) 72)).alloc (.cells zeR 72) := ⟨_, rfl⟩
  have b1 : Below w.heap.size w w1 := by rw [hw1]; exact ((Below.refl _ _).alloc (Nat.le_refl _) _).alloc (by simp) _
  have S1 : Hid (StB w1 w.heap.size 72 (srA u v q h) ∧ StB w1 (w.heap.size + 1) 72 zeR ∧ Below w.heap.size w w1 ∧ w.heap.size + 2 ≤ w1.heap.size) := by
    have a2 := StB.new (w.alloc (.cells (srA u v q h) 72)) 72 zeR
    simp only [World.size_alloc] at a2
    exact ⟨by rw [hw1]; exact (StB.new w _ _).alloc _, by rw [hw1]; exact a2, b1, by rw [hw1]; simp⟩
  have C1 : Hid (∀ wx, Below w1.heap.size w1 wx → Calls Tryz.prog 108 #[.agg #[u, v]] wx fun e w' => ∃ a b, e = .returned (.agg #[a, b]) ∧ OwnD w' wx.heap.size a b xs ys ∧ Below wx.heap.size wx w') := fun wx e => freshDisk_any u v xs ys wx ((hu.below b1 (Nat.le_refl _)).below e (Nat.le_refl _)) ((hv.below b1 (Nat.le_refl _)).below e (Nat.le_refl _)) hx1 hy1 gx gy
  have C2 : Hid (∀ wx, Below w1.heap.size w1 wx → Calls Tryz.prog 109 #[HV q h] wx fun e w' => ∃ u, e = .returned (HV u h) ∧ Own w' wx.heap.size u h.ks ∧ Below wx.heap.size wx w') := fun wx e => ifreshH_any q h wx ((hq.below b1 (Nat.le_refl _)).below e (Nat.le_refl _)) hk1 gk
  obtain ⟨uo, uc, rfl⟩ := reads_form hu
  obtain ⟨vo, vc, rfl⟩ := reads_form hv
  obtain ⟨qo, qc, rfl⟩ := reads_form hq
  clear b1 hu hv hq gx gy gk hx1 hy1 hk1
  have q0 : ∀ w', Sp (w.heap.size + 1) w1 w' → w'.cell? ⟨w.heap.size, 0, none⟩ = some (.slice uo xs.length uc) := fun w' b => b _ _ (by simp) (S1.out.1.cell 0 rfl)
  have q1 : ∀ w', Sp (w.heap.size + 1) w1 w' → w'.cell? ⟨w.heap.size, 1, none⟩ = some (.slice vo ys.length vc) := fun w' b => b _ _ (by simp) (S1.out.1.cell 1 rfl)
  have q2 : ∀ w', Sp (w.heap.size + 1) w1 w' → w'.cell? ⟨w.heap.size, 2, none⟩ = some (.slice qo h.ks.length qc) := fun w' b => b _ _ (by simp) (S1.out.1.cell 2 rfl)
  have q3 : ∀ w', Sp (w.heap.size + 1) w1 w' → w'.cell? ⟨w.heap.size, 3, none⟩ = some (.int .i64 h.kd) := fun w' b => b _ _ (by simp) (S1.out.1.cell 3 rfl)
  have q4 : ∀ w', Sp (w.heap.size + 1) w1 w' → w'.cell? ⟨w.heap.size, 4, none⟩ = some (.int .i64 h.ho) := fun w' b => b _ _ (by simp) (S1.out.1.cell 4 rfl)
  have q5 : ∀ w', Sp (w.heap.size + 1) w1 w' → w'.cell? ⟨w.heap.size, 5, none⟩ = some (.int .i64 h.tu) := fun w' b => b _ _ (by simp) (S1.out.1.cell 5 rfl)
  unfold SRV
  conv in srA => unfold srA
  unfold HV hdA at C2
  unfold srA zeR at hw1
  go_enter Tryz.func86, Tryz.ntmps86
  go_upto_region 1 with fail
  rw [← hw1]
  clear hw1
  go_region_held3 (fun w' => Sp (w.heap.size + 1) w1 w') ((repeat' (first | with_reducible assumption | with_reducible exact Sp.refl _ _ | with_reducible refine Sp.al ?_ | with_reducible refine Sp.dr ?_ | with_reducible refine Sp.set ?_ | with_reducible refine Sp.put ?_ (by with_reducible assumption) | with_reducible refine Sp.bel ?_ (by with_reducible assumption))))
    (first
      | (go_at_call 108; refine (C1.out _ (by repeat' (first | with_reducible assumption | with_reducible exact Below.refl _ _ | with_reducible refine bel_alloc ?_ | with_reducible refine bel_drew ?_ | with_reducible refine bel_trans ?_ (by with_reducible assumption)))).mono ?_; rintro e w3 ⟨a, b, rfl, o3, b3⟩; obtain ⟨ao, ac, rfl⟩ := o3.1.reads.form; obtain ⟨bo, bc, rfl⟩ := o3.2.1.reads.form; have O3 : Hid (OwnD w3 _ (.slice ao xs.length ac) (.slice bo ys.length bc) xs ys) := o3; clear o3)
      | (go_at_call 109; refine (C2.out _ (by repeat' (first | with_reducible assumption | with_reducible exact Below.refl _ _ | with_reducible refine bel_alloc ?_ | with_reducible refine bel_drew ?_ | with_reducible refine bel_trans ?_ (by with_reducible assumption)))).mono ?_; rintro e w4 ⟨z, rfl, o4, b4⟩; have hap : Hid (apart (.slice ao xs.length ac) z ∧ apart (.slice bo ys.length bc) z) := ⟨apart_of O3.out.1 o4 (bl_size (by repeat' (first | with_reducible assumption | with_reducible exact Below.refl _ _ | with_reducible refine bel_alloc ?_ | with_reducible refine bel_drew ?_ | with_reducible refine bel_trans ?_ (by with_reducible assumption)))), apart_of O3.out.2.1 o4 (bl_size (by repeat' (first | with_reducible assumption | with_reducible exact Below.refl _ _ | with_reducible refine bel_alloc ?_ | with_reducible refine bel_drew ?_ | with_reducible refine bel_trans ?_ (by with_reducible assumption))))⟩; obtain ⟨zo, zc, rfl⟩ := o4.reads.form; have B4 : Hid (Below w1.heap.size w1 w4) := (show Below w1.heap.size w1 w4 from (by repeat' (first | with_reducible assumption | with_reducible exact Below.refl _ _ | with_reducible refine bel_alloc ?_ | with_reducible refine bel_drew ?_ | with_reducible refine bel_trans ?_ (by with_reducible assumption)))); have O4 : Hid (OwnR w4 (w.heap.size + 2) (.slice ao xs.length ac) (.slice bo ys.length bc) (.slice zo h.ks.length zc) xs ys h.ks) := ⟨⟨(O3.out.1.mono (Nat.le_trans S1.out.2.2.2 (bl_size (by repeat' (first | with_reducible assumption | with_reducible exact Below.refl _ _ | with_reducible refine bel_alloc ?_ | with_reducible refine bel_drew ?_ | with_reducible refine bel_trans ?_ (by with_reducible assumption)))))).below (by repeat' (first | with_reducible assumption | with_reducible exact Below.refl _ _ | with_reducible refine bel_alloc ?_ | with_reducible refine bel_drew ?_ | with_reducible refine bel_trans ?_ (by with_reducible assumption))), (O3.out.2.1.mono (Nat.le_trans S1.out.2.2.2 (bl_size (by repeat' (first | with_reducible assumption | with_reducible exact Below.refl _ _ | with_reducible refine bel_alloc ?_ | with_reducible refine bel_drew ?_ | with_reducible refine bel_trans ?_ (by with_reducible assumption)))))).below (by repeat' (first | with_reducible assumption | with_reducible exact Below.refl _ _ | with_reducible refine bel_alloc ?_ | with_reducible refine bel_drew ?_ | with_reducible refine bel_trans ?_ (by with_reducible assumption))), O3.out.2.2⟩, o4.mono (Nat.le_trans S1.out.2.2.2 (bl_size (by repeat' (first | with_reducible assumption | with_reducible exact Below.refl _ _ | with_reducible refine bel_alloc ?_ | with_reducible refine bel_drew ?_ | with_reducible refine bel_trans ?_ (by with_reducible assumption))))), hap.out⟩; have R4 := S1.out.2.1.below B4.out; have r0 : w4.cell? ⟨w.heap.size + 1, 0, none⟩ = some (.slice none 0 0) := R4.cell 0 rfl; have r1 : w4.cell? ⟨w.heap.size + 1, 1, none⟩ = some (.slice none 0 0) := R4.cell 1 rfl; have r2 : w4.cell? ⟨w.heap.size + 1, 2, none⟩ = some (.slice none 0 0) := R4.cell 2 rfl; have r3 : w4.cell? ⟨w.heap.size + 1, 3, none⟩ = some (.int .i64 0) := R4.cell 3 rfl; have r4 : w4.cell? ⟨w.heap.size + 1, 4, none⟩ = some (.int .i64 0) := R4.cell 4 rfl; have r5 : w4.cell? ⟨w.heap.size + 1, 5, none⟩ = some (.int .i64 0) := R4.cell 5 rfl; have f0 := R4.frozen 0; have f1 := R4.frozen 1; have f2 := R4.frozen 2; have f3 := R4.frozen 3; have f4 := R4.frozen 4; have f5 := R4.frozen 5; clear o4))
  all_goals
    go_wp2
    have R4 : StB w4 (w.heap.size + 1) 72 _ := S1.out.2.1.below B4.out
    have G6 := put6_grown w4 (w.heap.size + 1) (.slice ao xs.length ac) (.slice bo ys.length bc) (.slice zo h.ks.length zc) h
    refine bodyPost_ret (results_S Tryz.isR rfl _ _ (w.heap.size + 1) (srA (.slice ao xs.length ac) (.slice bo ys.length bc) (.slice zo h.ks.length zc) h) rfl rfl (put6_st (.slice ao xs.length ac) (.slice bo ys.length bc) (.slice zo h.ks.length zc) h R4)) rfl ?_
    have B5 := S1.out.2.2.1.trans (B4.out.mono S1.out.2.2.1.size)
    exact ⟨_, _, _, rfl, (O4.out.keptLt G6 (by omega)).mono (by omega), B5.grown G6 B5.size (fun k e => by cases e; omega)⟩
end Go.Proofs.YteooloceaoinlaaGreatDoor
/- The program's copiers, on: what is new (NewCopier), what is copied (fresh, freshCopier). -/
namespace Go.Proofs.YteooloceaoinlaaGreatDoor
open Go.ChangeShapes Go.WideShapes Go.ChangeAt Go.RowKit

set_option maxRecDepth 20000 in
set_option maxHeartbeats 2000000 in
theorem ifreshC_any (v : Value) (c : Cp) (w : World) (hr : Reads w v c.ts) (hl : c.ts.length ≤ 1099511627776) :
    Calls Tryz.prog 88 #[CpV v c] w fun e w' => ∃ u, e = .returned (CpV u c) ∧ Mine w' w.heap.size u c.ts ∧ Below w.heap.size w w' := by
  obtain ⟨w1, hw1⟩ : ∃ w1, w1 = (w.alloc (.cells (cpA v c) 40)).alloc (.cells zeroCp 40) := ⟨_, rfl⟩
  have p0 : StB w1 w.heap.size 40 (cpA v c) := by rw [hw1]; exact (StB.new w _ _).alloc _
  have q0 : StB w1 (w.heap.size + 1) 40 zeroCp := by
    rw [hw1]
    have := StB.new (w.alloc (.cells (cpA v c) 40)) 40 zeroCp
    rwa [World.size_alloc] at this
  have b1 : Below w.heap.size w w1 := by rw [hw1]; exact ((Below.refl _ _).alloc (Nat.le_refl _) _).alloc (by simp) _
  have c1 := ifresh_any v c.ts w1 (hr.below b1 (Nat.le_refl _)) hl
  have hs1 := q0.lt
  obtain ⟨ao, cap, rfl⟩ := reads_form hr
  have HW : Hid (w1 = (w.alloc (.cells #[.int .i64 c.tr, .bool c.op, .int .i64 c.di, .int .i64 c.wa, .slice ao c.ts.length cap] 40)).alloc (.cells #[.int .i64 0, .bool false, .int .i64 0, .int .i64 0, .slice none 0 0] 40)) := hw1
  have k4 : w1.cell? ⟨w.heap.size, 4, none⟩ = some (.slice ao c.ts.length cap) := p0.cell 4 rfl
  clear hw1 hr hl
  unfold CpV cpA
  go_enter Tryz.func88, Tryz.ntmps88
  go_wp2_with fail
  rw [← HW.out]
  clear HW
  refine c1.mono ?_
  rintro e w3 ⟨u, rfl, o3, b3⟩
  replace p0 := p0.below b3
  replace q0 := q0.below b3
  have B3 := b1.trans (b3.mono b1.size)
  obtain ⟨ab, cb, rfl⟩ := reads_form o3.reads
  have k0 : w3.cell? ⟨w.heap.size, 4, none⟩ = some (.slice ao c.ts.length cap) := p0.cell 4 rfl
  have f0 := p0.frozen 4
  have r4 := p0.put 4 (.slice ab c.ts.length cb) (ds := cpA (.slice ab c.ts.length cb) c) rfl
  have q4 := q0.other ⟨w.heap.size, 4, none⟩ (.slice ab c.ts.length cb) (by simp)
  have HP : Hid (Mine (w3.setCell ⟨w.heap.size, 4, none⟩ (.slice ab c.ts.length cb)) w1.heap.size (.slice ab c.ts.length cb) c.ts ∧ Below w.heap.size w (w3.setCell ⟨w.heap.size, 4, none⟩ (.slice ab c.ts.length cb))) := ⟨o3.setLt (by omega) 4 _, B3.setCell (Nat.le_refl _) _⟩
  clear k4 p0 q0 c1 o3 b3 b1 B3
  go_upto_region 2 with fail
  obtain ⟨w4, hw4⟩ : ∃ w4, w4 = w3.setCell ⟨w.heap.size, 4, none⟩ (.slice ab c.ts.length cb) := ⟨_, rfl⟩
  rw [← hw4] at r4 q4 HP ⊢
  clear hw4 k0 f0
  go_wp2_with (first | (refine wpList_getS Tryz.isCp rfl _ rfl w.heap.size rfl (cpA (.slice ab c.ts.length cb) c) rfl r4 ?_) | (refine wpList_putS Tryz.isCp rfl _ _ rfl (w.heap.size + 1) (cpA (.slice ab c.ts.length cb) c) zeroCp rfl rfl rfl rfl (cpA_one c rfl) q4 ?_; intro w8 s8 g8))
  refine bodyPost_ret (results_S Tryz.isCp rfl _ _ (w.heap.size + 1) _ rfl rfl s8) rfl ?_
  exact ⟨_, rfl, (HP.out.1.keptLt g8 (by omega)).mono (by omega), HP.out.2.grown g8 HP.out.2.size (fun k e => by cases e; omega)⟩

end Go.Proofs.YteooloceaoinlaaGreatDoor
