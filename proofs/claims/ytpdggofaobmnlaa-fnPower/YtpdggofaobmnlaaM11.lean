/- Disks: the model's DiskOk, NewDisk, Written, Flushed, Loose and Lost answer what plain lists say, in new memory. -/
import Derived.Test.YtpdggofaobmnlaaDisk
import Derived.Deep.RegionHeld3
import Derived.Deep.RegionWith
import Derived.WalkSpells
import Derived.Test.YtpdggofaobmnlaaM6
import Derived.Below
import Derived.Laws.Tables
import Derived.Laws.ResultCell
import Derived.Test.YtpdggofaobmnlaaM10
import Derived.Test.YtpdggofaobmnlaaM7
import Derived.Deep.DeepCutAuto
import Derived.Test.YtpdggofaobmnlaaM3
namespace Go.Proofs.Ytpdggofaobmnlaa
open Go.ChangeShapes Go.WideShapes Go.ChangeAt Go.RowKit

/- A parameter's box and the result's variable, both new, and nothing else has turned. -/
def Boxes (w wx : World) (u v : Value) : Prop :=
  Pair wx w.heap.size 26 u v ∧ Pair wx (w.heap.size + 1) 26 (.slice none 0 0) (.slice none 0 0) ∧ Below w.heap.size w wx ∧ w.heap.size + 2 ≤ wx.heap.size
theorem Boxes.start (w : World) (u v : Value) : Boxes w ((w.alloc (.cells #[u, v] 26)).alloc (.cells #[.slice none 0 0, .slice none 0 0] 26)) u v := by
  refine ⟨(Pair.new w _ u v).alloc _, ?_, ((Below.refl _ _).alloc (Nat.le_refl _) _).alloc (by simp) _, by simp⟩
  have := Pair.new (w.alloc (.cells #[u, v] 26)) 26 (.slice none 0 0) (.slice none 0 0)
  simpa using this
theorem Boxes.below {w wx wy : World} {u v : Value} (h : Boxes w wx u v) (b : Below wx.heap.size wx wy) : Boxes w wy u v :=
  ⟨h.1.below b, h.2.1.below b, h.2.2.1.trans (b.mono h.2.2.1.size), Nat.le_trans h.2.2.2 b.size⟩
theorem Boxes.drew {w wx : World} {u v : Value} (h : Boxes w wx u v) : Boxes w wx.drew u v := ⟨h.1, h.2.1, below_drewN h.2.2.1 1, h.2.2.2⟩

theorem Boxes.done {w wx wy : World} {u v a b : Value} {xs ys : List Int} {base base' : Nat} (h : Boxes w wx u v) (g : wx.grownBy wy (some (w.heap.size + 1))) (oa : Own wx base a xs) (ob : Own wx base' b ys) (hb : w.heap.size + 2 ≤ base) (hb' : w.heap.size + 2 ≤ base') (hap : apart a b) :
    OwnD wy w.heap.size a b xs ys ∧ Below w.heap.size w wy :=
  ⟨⟨(oa.keptLt g (by omega)).mono (by omega), (ob.keptLt g (by omega)).mono (by omega), hap⟩, h.2.2.1.grown g h.2.2.1.size (fun k e => by cases e; omega)⟩
theorem cell_set1 {w : World} {g j k : Nat} {x y : Value} (h : w.cell? ⟨g, j, none⟩ = some x) : (w.setCell ⟨g + 1, k, none⟩ y).cell? ⟨g, j, none⟩ = some x := by
  rw [World.cell?_of_block (w := w) (heap_setCell_other w ⟨g + 1, k, none⟩ g y (by simp)), h]
theorem grown_two (w : World) (g : Nat) (x y : Value) : w.grownBy ((w.setCell ⟨g, 0, none⟩ x).setCell ⟨g, 1, none⟩ y) (some g) := (grownSet w g 0 x).trans (grownSet _ g 1 y)
theorem apart.symm {u v : Value} (h : apart u v) : apart v u := ⟨h.2, h.1⟩

theorem beq_cast (n m : Nat) : ((n : Int) == (m : Int)) = decide (n = m) := by
  by_cases h : n = m
  · subst h; simp
  · have : (n : Int) ≠ m := by omega
    simp [h, this]

set_option maxRecDepth 20000 in
set_option maxHeartbeats 1000000 in
theorem l3Copy_any (u v : Value) (xs ys : List Int) (w : World) (h : Reads w u xs) (h' : Reads w v ys) (gx : xs.length ≤ 1099511627776) (gy : ys.length ≤ 1099511627776) :
    Calls Try.prog 47 #[.agg #[u, v]] w fun e w' => ∃ a b, e = .returned (.agg #[a, b]) ∧ OwnD w' w.heap.size a b xs ys ∧ Below w.heap.size w w' := by
  have HR : Hid (Reads w u xs ∧ Reads w v ys) := ⟨h, h'⟩
  clear h h'
  obtain ⟨w2, hw2⟩ : ∃ w2, w2 = (w.alloc (.cells #[u, v] 26)).alloc (.cells #[.slice none 0 0, .slice none 0 0] 26) := ⟨_, rfl⟩
  have HB : Hid (Boxes w w2 u v) := by rw [hw2]; exact Boxes.start w u v
  have c0 := HB.out.1.cell0
  have c1 := HB.out.1.cell1
  go_enter Try.func47, Try.ntmps47
  go_wp2_with fail
  rw [← hw2]
  clear hw2
  have HB2 := HB.out.drew
  go_region_held3 (fun w' => w'.cell? ⟨w.heap.size, 0, none⟩ = some u ∧ w'.cell? ⟨w.heap.size, 1, none⟩ = some v) (constructor <;> first | assumption | exact cell_set1 (cell_set1 (by assumption)))
    (first
      | (go_at_call_of 73 u; refine (copy_any u xs w2.drew (HR.out.1.below HB2.2.2.1 (Nat.le_refl _)) gx).mono ?_; rintro e w4 ⟨a, rfl, oa, ba⟩; have HB4 := HB2.below ba; have d0 := HB4.1.cell0; have d1 := HB4.1.cell1; obtain ⟨ao, ca, hea⟩ := oa.reads.form; subst hea)
      | (go_at_call_of 73 v; refine (copy_any v ys w4 (HR.out.2.below HB4.2.2.1 (Nat.le_refl _)) gy).mono ?_; rintro e w5 ⟨b, rfl, ob, bb⟩; have hap := apart_of oa ob (Nat.le_refl _); replace oa := oa.below bb; have hs5 := ba.size; have HB5 := HB4.below bb; have e0 := HB5.1.cell0; have e1 := HB5.1.cell1; have e2 := HB5.2.1.cell0; have e3 := HB5.2.1.cell1; have f2 := HB5.2.1.frozen 0; have f3 := HB5.2.1.frozen 1; obtain ⟨bo, cb, heb⟩ := ob.reads.form; subst heb))
  go_wp2_with fail
  refine bodyPost_ret (results_pair rfl _ _ (w.heap.size + 1) _ _ rfl ((HB5.2.1.set0 _).set1 _)) rfl ?_
  exact ⟨_, _, rfl, HB5.done (grown_two _ _ _ _) oa ob (HB2.2.2.2) (Nat.le_trans HB2.2.2.2 hs5) hap⟩
set_option maxRecDepth 20000 in
set_option maxHeartbeats 1000000 in
theorem l3Flushed_any (u v : Value) (ys : List Int) (w : World) (h' : Reads w v ys) (gy : ys.length ≤ 1099511627776) :
    Calls Try.prog 43 #[.agg #[u, v]] w fun e w' => ∃ a b, e = .returned (.agg #[a, b]) ∧ OwnD w' w.heap.size a b ys ys ∧ Below w.heap.size w w' := by
  have HR : Hid (Reads w v ys) := h'
  clear h'
  obtain ⟨w2, hw2⟩ : ∃ w2, w2 = (w.alloc (.cells #[u, v] 26)).alloc (.cells #[.slice none 0 0, .slice none 0 0] 26) := ⟨_, rfl⟩
  have HB : Hid (Boxes w w2 u v) := by rw [hw2]; exact Boxes.start w u v
  have c0 := HB.out.1.cell0
  have c1 := HB.out.1.cell1
  go_enter Try.func43, Try.ntmps43
  go_wp2_with fail
  rw [← hw2]
  clear hw2
  have HB2 := HB.out.drew
  go_region_held3 (fun w' => w'.cell? ⟨w.heap.size, 0, none⟩ = some u ∧ w'.cell? ⟨w.heap.size, 1, none⟩ = some v) (constructor <;> first | assumption | exact cell_set1 (cell_set1 (by assumption)))
    (first
      | (go_at_call_of 73 v; refine (copy_any v ys w2.drew (HR.out.below HB2.2.2.1 (Nat.le_refl _)) gy).mono ?_; rintro e w4 ⟨a, rfl, oa, ba⟩; have HB4 := HB2.below ba; have d0 := HB4.1.cell0; have d1 := HB4.1.cell1; obtain ⟨ao, ca, hea⟩ := oa.reads.form; subst hea)
      | (go_at_call_of 73 v; refine (copy_any v ys w4 (HR.out.below HB4.2.2.1 (Nat.le_refl _)) gy).mono ?_; rintro e w5 ⟨b, rfl, ob, bb⟩; have hap := apart_of oa ob (Nat.le_refl _); replace oa := oa.below bb; have hs5 := ba.size; have HB5 := HB4.below bb; have e0 := HB5.1.cell0; have e1 := HB5.1.cell1; have e2 := HB5.2.1.cell0; have e3 := HB5.2.1.cell1; have f2 := HB5.2.1.frozen 0; have f3 := HB5.2.1.frozen 1; obtain ⟨bo, cb, heb⟩ := ob.reads.form; subst heb))
  go_wp2_with fail
  refine bodyPost_ret (results_pair rfl _ _ (w.heap.size + 1) _ _ rfl ((HB5.2.1.set0 _).set1 _)) rfl ?_
  exact ⟨_, _, rfl, HB5.done (grown_two _ _ _ _) oa ob (HB2.2.2.2) (Nat.le_trans HB2.2.2.2 hs5) hap⟩

set_option maxRecDepth 20000 in
set_option maxHeartbeats 1000000 in
theorem sdiskOk_any (u v : Value) (xs ys : List Int) (w : World) (h : Reads w u xs) (h' : Reads w v ys) (gx : xs.length ≤ 1099511627776) (gy : ys.length ≤ 1099511627776) :
    Calls Try.prog 41 #[.agg #[u, v]] w fun e w' => e = .returned (.bool (bothOk xs ys)) ∧ Below w.heap.size w w' := by
  have b1 := belowAlloc w (.cells #[u, v] 26)
  have c1 := sok_any u xs _ (h.below b1 (Nat.le_refl _)) gx
  have c2 := sok_any v ys _ (h'.below b1 (Nat.le_refl _)) gy
  obtain ⟨ao, ca, rfl⟩ := h.form
  obtain ⟨bo, cb, rfl⟩ := h'.form
  have HB : Hid (Below w.heap.size w (w.alloc (.cells #[.slice ao xs.length ca, .slice bo ys.length cb] 26))) := b1
  clear h h' b1
  by_cases h1 : blocksOk xs = true
  · rw [h1] at c1
    by_cases h2 : blocksOk ys = true
    · rw [h2] at c2
      have HD : Hid (bothOk xs ys = decide (xs.length = ys.length)) := by simp [Hid, bothOk, h1, h2]
      obtain ⟨n, hn⟩ : ∃ n, n = xs.length := ⟨_, rfl⟩
      obtain ⟨m, hm⟩ : ∃ m, m = ys.length := ⟨_, rfl⟩
      rw [← hn] at c1 c2 HB HD ⊢
      rw [← hm] at c1 c2 HB HD ⊢
      clear h1 h2 gx gy hn hm
      go_enter Try.func41, Try.ntmps41
      go_wp2_with fail
      refine c1.mono ?_
      rintro e w' ⟨rfl, hw⟩; subst w'
      go_wp2_with fail
      refine c2.mono ?_
      rintro e w' ⟨rfl, hw⟩; subst w'
      go_wp2_with fail
      go_ret
      refine ⟨ret_bool ?_, HB.out⟩
      rw [HD.out]
      exact beq_cast n m
    · have h2' : blocksOk ys = false := by simpa using h2
      rw [h2'] at c2
      have HD : Hid (bothOk xs ys = false) := by simp [Hid, bothOk, h2']
      obtain ⟨n, hn⟩ : ∃ n, n = xs.length := ⟨_, rfl⟩
      obtain ⟨m, hm⟩ : ∃ m, m = ys.length := ⟨_, rfl⟩
      rw [← hn] at c1 c2 HB ⊢
      rw [← hm] at c1 c2 HB ⊢
      clear h1 h2 h2' gx gy hn hm
      go_enter Try.func41, Try.ntmps41
      go_wp2_with fail
      refine c1.mono ?_
      rintro e w' ⟨rfl, hw⟩; subst w'
      go_wp2_with fail
      refine c2.mono ?_
      rintro e w' ⟨rfl, hw⟩; subst w'
      go_wp2_with fail
      go_ret
      exact ⟨ret_bool HD.out.symm, HB.out⟩
  · have h1' : blocksOk xs = false := by simpa using h1
    rw [h1'] at c1
    have HD : Hid (bothOk xs ys = false) := by simp [Hid, bothOk, h1']
    obtain ⟨n, hn⟩ : ∃ n, n = xs.length := ⟨_, rfl⟩
    obtain ⟨m, hm⟩ : ∃ m, m = ys.length := ⟨_, rfl⟩
    rw [← hn] at c1 HB ⊢
    rw [← hm] at c1 HB ⊢
    clear h1 h1' gx gy hn hm c2
    go_enter Try.func41, Try.ntmps41
    go_wp2_with fail
    refine c1.mono ?_
    rintro e w' ⟨rfl, hw⟩; subst w'
    go_wp2_with fail
    go_ret
    exact ⟨ret_bool HD.out.symm, HB.out⟩
end Go.Proofs.Ytpdggofaobmnlaa
/- A command in a block of five cells: loads, stores and answers of the whole struct. -/
namespace Go.Proofs.Ytpdggofaobmnlaa
open Go.ChangeShapes Go.WideShapes Go.ChangeAt Go.RowKit

def cmA (c : Cm) : Array Value := #[.int .i64 c.o, .int .i64 c.p, .int .i64 c.a, .int .i64 c.b, .int .i64 c.k]
def CV (c : Cm) : Value := .agg (cmA c)

def sumN (l : Bs) (j : Nat) : Int := (l.take j).foldl (fun n b => n + byteI b) 0
theorem sumN_step (l : Bs) (j : Nat) (h : j < l.length) : sumN l (j + 1) = sumN l j + byteI (l.getD j 0) := by
  unfold sumN
  rw [take_snocB l j h, List.foldl_append]
  simp [h]
theorem sumN_bd (l : Bs) (j : Nat) : 0 ≤ sumN l j ∧ sumN l j ≤ 256 * j := by
  induction j with
  | zero => simp [sumN]
  | succ j ih =>
    by_cases h : j < l.length
    · have := byteI_bd (l.getD j 0)
      rw [sumN_step l j h]; omega
    · have : sumN l (j + 1) = sumN l j := by unfold sumN; rw [List.take_of_length_le (by omega), List.take_of_length_le (by omega)]
      rw [this]; omega

/- Block g holds the command c. -/
def CmB (w : World) (g : Nat) (t : TypeId) (c : Cm) : Prop := w.heap[g]? = some (.cells (cmA c) t (0, 0))
theorem CmB.lt {w : World} {g : Nat} {t : TypeId} {c : Cm} (h : CmB w g t c) : g < w.heap.size := by
  rcases Nat.lt_or_ge g w.heap.size with hlt | hge
  · exact hlt
  · rw [CmB, Array.getElem?_eq_none hge] at h; cases h
theorem CmB.new (w : World) (t : TypeId) (c : Cm) : CmB (w.alloc (.cells (cmA c) t)) w.heap.size t c := heap_alloc_new w _
theorem CmB.below {w w' : World} {g : Nat} {t : TypeId} {c : Cm} (h : CmB w g t c) (hb : Below w.heap.size w w') : CmB w' g t c := (hb.block g h.lt).trans h
theorem CmB.kept {w w' : World} {g : Nat} {t : TypeId} {c : Cm} {row : Option Nat} (h : CmB w g t c) (hg : w.grownBy w' row) (hne : some g ≠ row) : CmB w' g t c := (hg.block g h.lt hne).trans h
theorem CmB.alloc {w : World} {g : Nat} {t : TypeId} {c : Cm} (h : CmB w g t c) (o : Obj) : CmB (w.alloc o) g t c := (Below.heap_alloc w o g h.lt).trans h
theorem CmB.cell {w : World} {g : Nat} {t : TypeId} {c : Cm} (h : CmB w g t c) (j : Nat) {x : Value} (e : (cmA c)[j]? = some x) : w.cell? ⟨g, j, none⟩ = some x := by rw [cell_of_row w g j _ _ _ h, e]
theorem CmB.frozen {w : World} {g : Nat} {t : TypeId} {c : Cm} (h : CmB w g t c) (j : Nat) : w.frozen? ⟨g, j, none⟩ = false := frozen_of_row w g j _ _ h
theorem grownRowC (w : World) (g : Nat) (cs : Array Value) : w.grownBy (w.setRow g cs) (some g) :=
  ⟨rfl, rfl, rfl, by simp, fun k _ hne => _root_.Go.setRow_other w g k cs (fun e => hne (by rw [e]))⟩
theorem cmA_one (c : Cm) : (cmA c).all (·.oneCell') = true := by simp [cmA, Value.oneCell']
end Go.Proofs.Ytpdggofaobmnlaa
/- What the model does to a disk by a command: l11Did. -/
namespace Go.Proofs.Ytpdggofaobmnlaa
open Go.ChangeShapes Go.WideShapes Go.ChangeAt Go.RowKit
end Go.Proofs.Ytpdggofaobmnlaa
/- Three things more in the state of a long walk: a disk's variable, an answer's variable, the disk's lists. -/
namespace Go.Proofs.Ytpdggofaobmnlaa
open Go.ChangeShapes Go.WideShapes Go.ChangeAt Go.RowKit

theorem bel_size {w wx : World} (h : Below w.heap.size w wx) : w.heap.size ≤ wx.heap.size := h.size
theorem Sta.add3 {w wx wy : World} {L : List Item} (h : Sta w wx L) (b : Below wx.heap.size wx wy) {g k : Nat} {t s : TypeId} {cs ds : Array Value} {u v : Value} {xs ys : List Int}
    (hg : StB wy g t cs) (hk : StB wy k s ds) (o : OwnD wy wx.heap.size u v xs ys) (lg : wx.heap.size ≤ g) (lk : wx.heap.size ≤ k) (ts : t ≠ s) (ti : t ≠ 2) (si : s ≠ 2) :
    Sta w wy (Blk g t cs :: Blk k s ds :: Dsk u v xs ys :: L) := by
  have h' := h.next b
  have sg := hg.lt
  have sk := hk.lt
  have hgk := hg.typ hk ts
  have ob : ∀ x ∈ (Dsk u v xs ys).blocks, wx.heap.size ≤ x ∧ x < wy.heap.size ∧ x ≠ g ∧ x ≠ k := by
    intro x hx
    simp only [Dsk, List.mem_append, Option.mem_toList] at hx
    rcases hx with hx | hx
    · have := o.1.lt x hx
      refine ⟨this.1, this.2, ?_, ?_⟩
      · rintro rfl; exact o.1.ne hg ti hx
      · rintro rfl; exact o.1.ne hk si hx
    · have := o.2.1.lt x hx
      refine ⟨this.1, this.2, ?_, ?_⟩
      · rintro rfl; exact o.2.1.ne hg ti hx
      · rintro rfl; exact o.2.1.ne hk si hx
  have hL : ∀ j ∈ L, ∀ x ∈ j.blocks, x < wx.heap.size := fun j hj x hx => (h.bound j hj x hx).2
  have sz := h.below.size
  refine ⟨h'.below, ?_, ?_, ?_, ?_, ?_, ?_, h'.apart⟩
  · intro i hi
    simp only [List.mem_cons] at hi
    rcases hi with rfl | rfl | rfl | hi
    · exact Nat.zero_le _
    · exact Nat.zero_le _
    · exact Nat.zero_le _
    · exact h'.olds i hi
  · intro i hi
    simp only [List.mem_cons] at hi
    rcases hi with rfl | rfl | rfl | hi
    · exact hg
    · exact hk
    · exact ⟨o.1.mono (Nat.zero_le _), o.2.1.mono (Nat.zero_le _), o.2.2⟩
    · exact h'.holds i hi
  · intro i hi x hx
    simp only [List.mem_cons] at hi
    rcases hi with rfl | rfl | rfl | hi
    · simp only [Blk, List.mem_singleton] at hx; subst hx; omega
    · simp only [Blk, List.mem_singleton] at hx; subst hx; omega
    · have := ob x hx; omega
    · exact h'.bound i hi x hx
  · intro j hj x hx hx'
    simp only [Blk, List.mem_singleton] at hx
    subst hx
    simp only [List.mem_cons] at hj
    rcases hj with rfl | rfl | hj
    · simp only [Blk, List.mem_singleton] at hx'; exact hgk hx'
    · exact (ob x hx').2.2.1 rfl
    · have := hL j hj x hx'; omega
  · intro j hj x hx hx'
    simp only [Blk, List.mem_singleton] at hx
    subst hx
    simp only [List.mem_cons] at hj
    rcases hj with rfl | hj
    · exact (ob x hx').2.2.2 rfl
    · have := hL j hj x hx'; omega
  · intro j hj x hx hx'
    have := (ob x hx).1
    have := hL j hj x hx'
    omega
theorem OwnD.bel {w w' : World} {base : Nat} {u v : Value} {xs ys : List Int} (h : OwnD w base u v xs ys) (b : Below w.heap.size w w') : OwnD w' base u v xs ys := ⟨h.1.below b, h.2.1.below b, h.2.2⟩
theorem OwnD.mono' {w : World} {base base' : Nat} {u v : Value} {xs ys : List Int} (h : OwnD w base u v xs ys) (b : base' ≤ base) : OwnD w base' u v xs ys := ⟨h.1.mono b, h.2.1.mono b, h.2.2⟩
theorem OwnD.putBy {w w' : World} {base g : Nat} {u v : Value} {xs ys : List Int} {t : TypeId} {cs : Array Value} (h : OwnD w base u v xs ys) (h' : StB w g t cs) (hne : t ≠ 2) (b : w.grownBy w' (some g)) : OwnD w' base u v xs ys := ⟨h.1.putBy h' hne b, h.2.1.putBy h' hne b, h.2.2⟩
end Go.Proofs.Ytpdggofaobmnlaa
