/- What a region keeps that stores into one block alone: every cell of the others. -/
import Derived.Test.YteooloceaoinlaaDoorM16
import Derived.Test.YteooloceaoinlaaDoorM5
import Derived.Test.YteooloceaoinlaaDoorM21
import Derived.Test.YteooloceaoinlaaDoorM9
import Derived.Deep.OwnRows
import Derived.Test.YteooloceaoinlaaDoorM24
import Derived.Test.YteooloceaoinlaaDoorM27
namespace Go.Proofs.YteooloceaoinlaaDoor
open Go.ChangeShapes Go.WideShapes Go.ChangeAt Go.RowKit

theorem bl_size {w wx : World} (h : Below w.heap.size w wx) : w.heap.size ≤ wx.heap.size := h.size
def Sp (g : Nat) (w1 w' : World) : Prop := ∀ a x, a.block ≠ g → w1.cell? a = some x → w'.cell? a = some x
theorem Sp.refl (g : Nat) (w1 : World) : Sp g w1 w1 := fun _ _ _ h => h
theorem Sp.dr {g : Nat} {w1 wx : World} (h : Sp g w1 wx) : Sp g w1 wx.drew := h
theorem Sp.bel {g : Nat} {w1 wx wy : World} (h : Sp g w1 wx) (b : Below wx.heap.size wx wy) : Sp g w1 wy := fun a x h1 h3 => later_cell (h a x h1 h3) b
theorem Sp.al {g : Nat} {w1 wx : World} {o : Obj} (h : Sp g w1 wx) : Sp g w1 (wx.alloc o) := h.bel ((Below.refl _ _).alloc (Nat.le_refl _) _)
theorem Sp.put {g : Nat} {w1 wx wy : World} (h : Sp g w1 wx) (e : wx.grownBy wy (some g)) : Sp g w1 wy := fun a x h1 h3 => e.cell (h a x h1 h3) (by simpa using h1)
theorem Sp.set {g : Nat} {w1 wx : World} {j : Nat} {v : Value} (h : Sp g w1 wx) : Sp g w1 (wx.setCell ⟨g, j, none⟩ v) := h.put (grownSet wx g j v)
/- The same of two blocks. -/
def Sd (g k : Nat) (w1 w' : World) : Prop := ∀ a x, a.block ≠ g → a.block ≠ k → w1.cell? a = some x → w'.cell? a = some x
theorem Sd.refl (g k : Nat) (w1 : World) : Sd g k w1 w1 := fun _ _ _ _ h => h
theorem Sd.dr {g k : Nat} {w1 wx : World} (h : Sd g k w1 wx) : Sd g k w1 wx.drew := h
theorem Sd.bel {g k : Nat} {w1 wx wy : World} (h : Sd g k w1 wx) (b : Below wx.heap.size wx wy) : Sd g k w1 wy := fun a x h1 h2 h3 => later_cell (h a x h1 h2 h3) b
theorem Sd.al {g k : Nat} {w1 wx : World} {o : Obj} (h : Sd g k w1 wx) : Sd g k w1 (wx.alloc o) := h.bel ((Below.refl _ _).alloc (Nat.le_refl _) _)
theorem Sd.put1 {g k : Nat} {w1 wx wy : World} (h : Sd g k w1 wx) (e : wx.grownBy wy (some g)) : Sd g k w1 wy := fun a x h1 h2 h3 => e.cell (h a x h1 h2 h3) (by simpa using h1)
theorem Sd.put2 {g k : Nat} {w1 wx wy : World} (h : Sd g k w1 wx) (e : wx.grownBy wy (some k)) : Sd g k w1 wy := fun a x h1 h2 h3 => e.cell (h a x h1 h2 h3) (by simpa using h2)
theorem Sd.set1 {g k : Nat} {w1 wx : World} {j : Nat} {v : Value} (h : Sd g k w1 wx) : Sd g k w1 (wx.setCell ⟨g, j, none⟩ v) := h.put1 (grownSet wx g j v)
theorem Sd.set2 {g k : Nat} {w1 wx : World} {j : Nat} {v : Value} (h : Sd g k w1 wx) : Sd g k w1 (wx.setCell ⟨k, j, none⟩ v) := h.put2 (grownSet wx k j v)
end Go.Proofs.YteooloceaoinlaaDoor
/- The model's store, on: l12Copy. -/
namespace Go.Proofs.YteooloceaoinlaaDoor
open Go.ChangeShapes Go.WideShapes Go.ChangeAt Go.RowKit

/- The six cells of a store put one by one. -/
def put6 (w : World) (g : Nat) (a b k : Value) (h : Hd) : World :=
  (((((w.setCell ⟨g, 0, none⟩ a).setCell ⟨g, 1, none⟩ b).setCell ⟨g, 2, none⟩ k).setCell ⟨g, 3, none⟩ (.int .i64 h.kd)).setCell ⟨g, 4, none⟩ (.int .i64 h.ho)).setCell ⟨g, 5, none⟩ (.int .i64 h.tu)
theorem put6_st {w : World} {g : Nat} {t : TypeId} {c0 c1 c2 c3 c4 c5 : Value} (a b k : Value) (h : Hd) (s : StB w g t #[c0, c1, c2, c3, c4, c5]) : StB (put6 w g a b k h) g t (srA a b k h) :=
  (((((s.put 0 _ rfl).put 1 _ rfl).put 2 _ rfl).put 3 _ rfl).put 4 _ rfl).put 5 _ rfl
theorem put6_grown (w : World) (g : Nat) (a b k : Value) (h : Hd) : w.grownBy (put6 w g a b k h) (some g) :=
  (((((grownSet _ _ _ _).trans (grownSet _ _ _ _)).trans (grownSet _ _ _ _)).trans (grownSet _ _ _ _)).trans (grownSet _ _ _ _)).trans (grownSet _ _ _ _)
end Go.Proofs.YteooloceaoinlaaDoor
/- Disks: the model's Written and NewDisk. -/
namespace Go.Proofs.YteooloceaoinlaaDoor
open Go.ChangeShapes Go.WideShapes Go.ChangeAt Go.RowKit

theorem ownZeros (w : World) (base k : Nat) (h8 : k ≤ 8) (hb : base ≤ w.heap.size) : Own (w.alloc (.cells (madeCells #[Value.int .i64 0] k) 2)) base (.slice (some ⟨w.heap.size, 0, none⟩) k k) (List.replicate k 0) := by
  have hsz : (madeCells #[Value.int .i64 0] k).size = k := by
    have := congrArg List.length (zeros_eq k)
    simpa using this
  have := World.ownsRow_lit (base := base) (e := 2) (size := 1) w (madeCells #[Value.int .i64 0] k) k hb (by unfold maxLen; omega) (by rw [hsz]; omega)
  unfold Own
  rw [← zeros_eq, List.length_replicate]
  exact this

theorem twoZeros (w : World) (o : Obj) (k : Nat) (h8 : k ≤ 8) :
    Own ((((w.alloc o).alloc (.cells (madeCells #[.int .i64 0] k) 2)).alloc (.cells (madeCells #[.int .i64 0] k) 2)).drew) w.heap.size (.slice (some ⟨w.heap.size + 1, 0, none⟩) k k) (List.replicate k 0) ∧
    Own ((((w.alloc o).alloc (.cells (madeCells #[.int .i64 0] k) 2)).alloc (.cells (madeCells #[.int .i64 0] k) 2)).drew) w.heap.size (.slice (some ⟨w.heap.size + 1 + 1, 0, none⟩) k k) (List.replicate k 0) ∧
    Below w.heap.size w ((((w.alloc o).alloc (.cells (madeCells #[.int .i64 0] k) 2)).alloc (.cells (madeCells #[.int .i64 0] k) 2)).drew) := by
  refine ⟨?_, ?_, below_drewN ((((Below.refl _ _).alloc (Nat.le_refl _) _).alloc (by simp) _).alloc (by simp; omega) _) 1⟩
  · have := (ownZeros (w.alloc o) w.heap.size k h8 (by simp)).below (belowAlloc _ (.cells (madeCells #[.int .i64 0] k) 2))
    show Own (((w.alloc o).alloc _).alloc _) _ _ _
    simpa using this
  · have := (ownZeros ((w.alloc o).alloc (.cells (madeCells #[.int .i64 0] k) 2)) w.heap.size k h8 (by simp; omega))
    show Own (((w.alloc o).alloc _).alloc _) _ _ _
    simpa using this

set_option maxRecDepth 20000 in
set_option maxHeartbeats 2000000 in
theorem snewDisk_any (n : Int) (w : World) :
    Calls Tryd.prog 9 #[.int .i64 n] w fun e w' => ∃ a b, e = .returned (.tuple #[.agg #[a, b], .bool (cntOk n)]) ∧ OwnD w' w.heap.size a b (zerosI n) (zerosI n) ∧ Below w.heap.size w w' := by
  by_cases hc : cntOk n = true
  · obtain ⟨k, rfl⟩ : ∃ k : Nat, n = k := ⟨n.toNat, by simp [cntOk] at hc; omega⟩
    have h8 : (1 : Int) ≤ k ∧ (k : Int) ≤ 8 := by simp [cntOk] at hc; omega
    have HZ : Hid (zerosI k = List.replicate k 0) := by simp only [Hid, zerosI]; rw [if_pos (by omega)]; simp
    rw [hc]
    obtain ⟨h1, h8⟩ := h8
    have hm : ∀ w : World, (Instr.makeSlice 22 (.int .i64 (k : Int)) (.int .i64 (k : Int))).run Tryd.prog w = .ok (.slice (some ⟨w.heap.size, 0, none⟩) k k) (w.alloc (.cells (madeCells #[.int .i64 0] k) 2)) := fun w => run_make_row' 22 2 (.int .i64 0) 8 Tryd.underlying22 Tryd.infoI rfl .i64 .i64 k (by omega) (by omega) w
    clear hc
    go_enter Tryd.func9, Tryd.ntmps9
    go_wp2_with (go_at_call 10; go_in)
    go_region
    all_goals
      clear hm
      go_wp2_with fail
    · refine bodyPost_ret (results_pair2 rfl _ _ w.heap.size _ _ _ rfl rfl (((Pair.new w _ _ _).alloc _).alloc _)) rfl ?_
      have Z := twoZeros w (.cells #[.slice (some ⟨w.heap.size + 1, 0, none⟩) k k, .slice (some ⟨w.heap.size + 1 + 1, 0, none⟩) k k] 24) k (by omega)
      rw [HZ.out]
      exact ⟨_, _, rfl, ⟨Z.1, Z.2.1, .inr (by simp [Value.ownBlock]), .inr (by simp [Value.ownBlock])⟩, Z.2.2⟩
    · refine bodyPost_ret (results_pair2 rfl _ _ w.heap.size _ _ _ rfl rfl (((Pair.new w _ _ _).alloc _).alloc _)) rfl ?_
      have Z := twoZeros w (.cells #[.slice (some ⟨w.heap.size + 1 + 1, 0, none⟩) k k, .slice (some ⟨w.heap.size + 1, 0, none⟩) k k] 24) k (by omega)
      rw [HZ.out]
      exact ⟨_, _, rfl, ⟨Z.2.1, Z.1, .inr (by simp [Value.ownBlock]), .inr (by simp [Value.ownBlock])⟩, Z.2.2⟩
  · have hc' : cntOk n = false := by simpa using hc
    have HZ : Hid (zerosI n = []) := by simp [Hid, zerosI]; simp [cntOk] at hc'; omega
    have hn : ¬ 1 ≤ n ∨ ¬ n ≤ 8 := by simp [cntOk] at hc'; omega
    rw [hc']
    clear hc hc'
    have fin : ∀ w' : World, Below w.heap.size w w' → OwnD w' w.heap.size (.slice none 0 0) (.slice none 0 0) (zerosI n) (zerosI n) ∧ Below w.heap.size w w' := fun w' b => ⟨by rw [HZ.out]; exact ownNil2 _ _, b⟩
    rcases hn with hn | hn
    all_goals
      go_enter Tryd.func9, Tryd.ntmps9
      go_wp2_with (go_at_call 10; go_in)
      refine bodyPost_ret (results_pair2 rfl _ _ w.heap.size _ _ _ rfl rfl (Pair.new w _ _ _)) rfl ?_
      exact ⟨_, _, rfl, fin _ (belowAlloc w _)⟩
end Go.Proofs.YteooloceaoinlaaDoor
/- The model's store, on: NewStore, Power. -/
namespace Go.Proofs.YteooloceaoinlaaDoor
open Go.ChangeShapes Go.WideShapes Go.ChangeAt Go.RowKit

theorem newS_yes {n : Int} (h : cntOk n = true) : newS n = ⟨zerosI n, zerosI n, Hd.new⟩ := by
  have e : (decide (1 ≤ n) && decide (n ≤ 8)) = true := h
  unfold newS
  rw [e, if_pos rfl]
theorem newS_no {n : Int} (h : cntOk n = false) : newS n = Sr.zero := by
  have e : (decide (1 ≤ n) && decide (n ≤ 8)) = false := h
  unfold newS
  rw [e]
  rfl

/- The box of a store and the result. -/
structure Dp (w wx : World) (u v q : Value) (h : Hd) : Prop where
  st : StB wx w.heap.size 47 (srA u v q h)
  rs : StB wx (w.heap.size + 1) 47 zeR
  bl : Below w.heap.size w wx
  sz : w.heap.size + 2 ≤ wx.heap.size
theorem Dp.next {w wx wy : World} {u v q : Value} {h : Hd} (d : Dp w wx u v q h) (b : Below wx.heap.size wx wy) : Dp w wy u v q h :=
  ⟨d.st.below b, d.rs.below b, d.bl.trans (b.mono d.bl.size), Nat.le_trans d.sz b.size⟩
theorem Dp.grown {w wx wy : World} {u v q : Value} {h : Hd} {g : Nat} (d : Dp w wx u v q h) (b : wx.grownBy wy (some g)) (hg : w.heap.size + 2 ≤ g) : Dp w wy u v q h :=
  ⟨d.st.kept b (by simp; omega), d.rs.kept b (by simp; omega), d.bl.grown b d.bl.size (fun k e => by cases e; omega), Nat.le_trans d.sz b.size⟩
end Go.Proofs.YteooloceaoinlaaDoor
/- The program's store, on: freshStore, NewStore, Power. -/
namespace Go.Proofs.YteooloceaoinlaaDoor
open Go.ChangeShapes Go.WideShapes Go.ChangeAt Go.RowKit

set_option maxRecDepth 20000 in
set_option maxHeartbeats 2000000 in
theorem inewStore_any (n : Int) (w : World) :
    Calls Tryd.prog 13 #[.int .i64 n] w fun e w' => ∃ a b k, e = .returned (.tuple #[SRV a b k (newS n).h, .bool (cntOk n)]) ∧ OwnR w' w.heap.size a b k (newS n).xs (newS n).ys (newS n).h.ks ∧ Below w.heap.size w w' := by
  obtain ⟨w1, hw1⟩ : ∃ w1, w1 = w.alloc (.cells #[.slice none 0 0, .slice none 0 0, .slice none 0 0, .int .i64 0, .int .i64 0, .int .i64 0] 47) := ⟨_, rfl⟩
  have S1 : Hid (StB w1 w.heap.size 47 zeR ∧ Below w.heap.size w w1 ∧ w.heap.size + 1 ≤ w1.heap.size) := ⟨by rw [hw1]; exact StB.new _ _ _, by rw [hw1]; exact (Below.refl _ _).alloc (Nat.le_refl _) _, by rw [hw1]; simp⟩
  have c1 := newDisk_any n w1
  cases hn : cntOk n with
  | false =>
    rw [hn] at c1
    rw [newS_no hn]
    clear hn
    go_enter Tryd.func13, Tryd.ntmps13
    go_upto_region 1 with fail
    rw [← hw1]
    clear hw1
    go_wp2_with fail
    refine c1.mono ?_
    rintro e w2 ⟨a, b, rfl, o2, b2⟩
    obtain ⟨ao, ac, rfl⟩ := o2.1.reads.form
    obtain ⟨bo, bc, rfl⟩ := o2.2.1.reads.form
    obtain ⟨w3, hw3⟩ : ∃ w3, w3 = w2.alloc (.cells #[.slice ao (zerosI n).length ac, .slice bo (zerosI n).length bc] 24) := ⟨_, rfl⟩
    have b3 : Below w2.heap.size w2 w3 := by rw [hw3]; exact (Below.refl _ _).alloc (Nat.le_refl _) _
    have S3 : Hid (StB w3 w.heap.size 47 zeR ∧ Below w.heap.size w w3) := ⟨(S1.out.1.below b2).below b3, (S1.out.2.1.trans (b2.mono S1.out.2.1.size)).trans (b3.mono (Nat.le_trans S1.out.2.1.size b2.size))⟩
    clear S1 b2 b3 o2 c1
    go_upto_region 2 with fail
    rw [← hw3]
    clear hw3
    go_wp2_with (refine wpList_putS Tryd.isR rfl _ _ rfl w.heap.size zeR zeR rfl rfl rfl rfl (srA_one Hd.zero rfl rfl rfl) S3.out.1 ?_; intro w5 s5 g5)
    refine bodyPost_ret (results_S2 Tryd.isR rfl _ _ w.heap.size _ _ rfl rfl rfl s5) rfl ?_
    exact ⟨_, _, _, rfl, OwnR.nil _ _, S3.out.2.grown g5 S3.out.2.size (fun k e => by cases e; omega)⟩
  | true =>
    rw [hn] at c1
    rw [newS_yes hn]
    clear hn
    have HN := fun wx => inewH_any wx
    have CN : Hid (∀ wx, Calls Tryd.prog 33 #[] wx fun e w' => ∃ u, e = .returned (HV u Hd.new) ∧ Own w' wx.heap.size u Hd.new.ks ∧ Below wx.heap.size wx w') := HN
    clear HN
    unfold HV hdA at CN
    go_enter Tryd.func13, Tryd.ntmps13
    go_upto_region 1 with fail
    rw [← hw1]
    clear hw1
    go_wp2_with fail
    refine c1.mono ?_
    rintro e w2 ⟨a, b, rfl, o2, b2⟩
    obtain ⟨ao, ac, rfl⟩ := o2.1.reads.form
    obtain ⟨bo, bc, rfl⟩ := o2.2.1.reads.form
    obtain ⟨w3, hw3⟩ : ∃ w3, w3 = w2.alloc (.cells #[.slice ao (zerosI n).length ac, .slice bo (zerosI n).length bc] 24) := ⟨_, rfl⟩
    have b3 : Below w2.heap.size w2 w3 := by rw [hw3]; exact (Below.refl _ _).alloc (Nat.le_refl _) _
    have S3 : Hid (StB w3 w.heap.size 47 zeR ∧ Below w.heap.size w w3 ∧ StB w3 w2.heap.size 24 #[.slice ao (zerosI n).length ac, .slice bo (zerosI n).length bc] ∧ OwnD w3 (w.heap.size + 1) (.slice ao (zerosI n).length ac) (.slice bo (zerosI n).length bc) (zerosI n) (zerosI n) ∧ w.heap.size + 1 ≤ w2.heap.size ∧ w2.heap.size ≤ w3.heap.size) :=
      ⟨(S1.out.1.below b2).below b3, (S1.out.2.1.trans (b2.mono S1.out.2.1.size)).trans (b3.mono (Nat.le_trans S1.out.2.1.size b2.size)), by rw [hw3]; exact StB.new _ _ _, ⟨(o2.1.mono S1.out.2.2).below b3, (o2.2.1.mono S1.out.2.2).below b3, o2.2.2⟩, Nat.le_trans S1.out.2.2 b2.size, b3.size⟩
    clear S1 b2 b3 o2 c1
    go_upto_region 2 with fail
    rw [← hw3]
    clear hw3
    go_upto_region 4 with fail
    obtain ⟨g, hg⟩ : ∃ g, g = w2.heap.size := ⟨_, rfl⟩
    rw [← hg] at S3 ⊢
    clear hg
    have q0 : ∀ w', Sp w.heap.size w3 w' → w'.cell? ⟨g, 0, none⟩ = some (.slice ao (zerosI n).length ac) := fun w' b => b _ _ (by have := S3.out.2.2.2.2.1; dsimp only; omega) (S3.out.2.2.1.cell 0 rfl)
    have q1 : ∀ w', Sp w.heap.size w3 w' → w'.cell? ⟨g, 1, none⟩ = some (.slice bo (zerosI n).length bc) := fun w' b => b _ _ (by have := S3.out.2.2.2.2.1; dsimp only; omega) (S3.out.2.2.1.cell 1 rfl)
    go_region_held3 (fun w' => Sp w.heap.size w3 w') ((repeat' (first | with_reducible assumption | with_reducible exact Sp.refl _ _ | with_reducible refine Sp.al ?_ | with_reducible refine Sp.dr ?_ | with_reducible refine Sp.set ?_ | with_reducible refine Sp.put ?_ (by with_reducible assumption) | with_reducible refine Sp.bel ?_ (by with_reducible assumption))))
      (first
        | (go_at_call 33; refine (CN.out _).mono ?_; rintro e w4 ⟨z, rfl, o4, b4⟩; have hap : Hid (apart (.slice ao (zerosI n).length ac) z ∧ apart (.slice bo (zerosI n).length bc) z) := ⟨apart_of S3.out.2.2.2.1.1 o4 (bl_size (by repeat' (first | with_reducible assumption | with_reducible exact Below.refl _ _ | with_reducible refine bel_alloc ?_ | with_reducible refine bel_drew ?_ | with_reducible refine bel_trans ?_ (by with_reducible assumption)))), apart_of S3.out.2.2.2.1.2.1 o4 (bl_size (by repeat' (first | with_reducible assumption | with_reducible exact Below.refl _ _ | with_reducible refine bel_alloc ?_ | with_reducible refine bel_drew ?_ | with_reducible refine bel_trans ?_ (by with_reducible assumption))))⟩; obtain ⟨ko, kc, rfl⟩ := o4.reads.form; have B4 : Hid (Below w3.heap.size w3 w4) := (show Below w3.heap.size w3 w4 from (by repeat' (first | with_reducible assumption | with_reducible exact Below.refl _ _ | with_reducible refine bel_alloc ?_ | with_reducible refine bel_drew ?_ | with_reducible refine bel_trans ?_ (by with_reducible assumption)))); have O4 : Hid (OwnR w4 (w.heap.size + 1) (.slice ao (zerosI n).length ac) (.slice bo (zerosI n).length bc) (.slice ko Hd.new.ks.length kc) (zerosI n) (zerosI n) Hd.new.ks) := ⟨⟨S3.out.2.2.2.1.1.below B4.out, S3.out.2.2.2.1.2.1.below B4.out, S3.out.2.2.2.1.2.2⟩, o4.mono (Nat.le_trans S3.out.2.2.2.2.1 (Nat.le_trans S3.out.2.2.2.2.2 (bl_size (by repeat' (first | with_reducible assumption | with_reducible exact Below.refl _ _ | with_reducible refine bel_alloc ?_ | with_reducible refine bel_drew ?_ | with_reducible refine bel_trans ?_ (by with_reducible assumption)))))), hap.out⟩; have R4 := S3.out.1.below B4.out; have r0 : w4.cell? ⟨w.heap.size, 0, none⟩ = some (.slice none 0 0) := R4.cell 0 rfl; have f0 := R4.frozen 0; have r1 : w4.cell? ⟨w.heap.size, 1, none⟩ = some (.slice none 0 0) := R4.cell 1 rfl; have f1 := R4.frozen 1; have r2 : w4.cell? ⟨w.heap.size, 2, none⟩ = some (.slice none 0 0) := R4.cell 2 rfl; have f2 := R4.frozen 2; have r3 : w4.cell? ⟨w.heap.size, 3, none⟩ = some (.int .i64 0) := R4.cell 3 rfl; have f3 := R4.frozen 3; have r4 : w4.cell? ⟨w.heap.size, 4, none⟩ = some (.int .i64 0) := R4.cell 4 rfl; have f4 := R4.frozen 4; have r5 : w4.cell? ⟨w.heap.size, 5, none⟩ = some (.int .i64 0) := R4.cell 5 rfl; have f5 := R4.frozen 5; clear o4))
    all_goals
      go_wp2
      have R4 : StB w4 w.heap.size 47 zeR := S3.out.1.below B4.out
      have G6 := put6_grown w4 w.heap.size (.slice ao (zerosI n).length ac) (.slice bo (zerosI n).length bc) (.slice ko Hd.new.ks.length kc) Hd.new
      refine bodyPost_ret (results_S2 Tryd.isR rfl _ _ w.heap.size (srA (.slice ao (zerosI n).length ac) (.slice bo (zerosI n).length bc) (.slice ko Hd.new.ks.length kc) Hd.new) _ rfl rfl rfl (put6_st (.slice ao (zerosI n).length ac) (.slice bo (zerosI n).length bc) (.slice ko Hd.new.ks.length kc) Hd.new R4)) rfl ?_
      have B5 := S3.out.2.1.trans (B4.out.mono S3.out.2.1.size)
      exact ⟨_, _, _, rfl, (O4.out.keptLt G6 (by omega)).mono (by omega), B5.grown G6 B5.size (fun k e => by cases e; omega)⟩
end Go.Proofs.YteooloceaoinlaaDoor
