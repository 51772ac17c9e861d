/- A command in a block of five cells: loads, stores and answers of the whole struct. -/
import Derived.Test.YtpdggofaobmnlaaM2
import Derived.Below
import Derived.Laws.Tables
import Derived.Laws.ResultCell
import Derived.Test.YtpdggofaobmnlaaM3
import Derived.Test.YtpdggofaobmnlaaSDisk
import Derived.Test.YtpdggofaobmnlaaStB
import Derived.Deep.DeepCutAuto
import Derived.Test.YtpdggofaobmnlaaM10
namespace Go.Proofs.Ytpdggofaobmnlaa
open Go.ChangeShapes Go.WideShapes Go.ChangeAt Go.RowKit

def cmA (c : Cm) : Array Value := #[.int .i64 c.o, .int .i64 c.p, .int .i64 c.a, .int .i64 c.b, .int .i64 c.k]
def CV (c : Cm) : Value := .agg (cmA c)

def sumN (l : Bs) (j : Nat) : Int := (l.take j).foldl (fun n b => n + byteI b) 0
theorem sumN_step (l : Bs) (j : Nat) (h : j < l.length) : sumN l (j + 1) = sumN l j + byteI (l.getD j 0) := by
  unfold sumN
  rw [take_snocB l j h, List.foldl_append]
  simp [h]
theorem sumN_bd (l : Bs) (j : Nat) : 0 ≤ sumN l j ∧ sumN l j ≤ 256 * j := by
  induction j with
  | zero => simp [sumN]
  | succ j ih =>
    by_cases h : j < l.length
    · have := byteI_bd (l.getD j 0)
      rw [sumN_step l j h]; omega
    · have : sumN l (j + 1) = sumN l j := by unfold sumN; rw [List.take_of_length_le (by omega), List.take_of_length_le (by omega)]
      rw [this]; omega

/- Block g holds the command c. -/
def CmB (w : World) (g : Nat) (t : TypeId) (c : Cm) : Prop := w.heap[g]? = some (.cells (cmA c) t (0, 0))
theorem CmB.lt {w : World} {g : Nat} {t : TypeId} {c : Cm} (h : CmB w g t c) : g < w.heap.size := by
  rcases Nat.lt_or_ge g w.heap.size with hlt | hge
  · exact hlt
  · rw [CmB, Array.getElem?_eq_none hge] at h; cases h
theorem CmB.new (w : World) (t : TypeId) (c : Cm) : CmB (w.alloc (.cells (cmA c) t)) w.heap.size t c := heap_alloc_new w _
theorem CmB.below {w w' : World} {g : Nat} {t : TypeId} {c : Cm} (h : CmB w g t c) (hb : Below w.heap.size w w') : CmB w' g t c := (hb.block g h.lt).trans h
theorem CmB.kept {w w' : World} {g : Nat} {t : TypeId} {c : Cm} {row : Option Nat} (h : CmB w g t c) (hg : w.grownBy w' row) (hne : some g ≠ row) : CmB w' g t c := (hg.block g h.lt hne).trans h
theorem CmB.alloc {w : World} {g : Nat} {t : TypeId} {c : Cm} (h : CmB w g t c) (o : Obj) : CmB (w.alloc o) g t c := (Below.heap_alloc w o g h.lt).trans h
theorem CmB.cell {w : World} {g : Nat} {t : TypeId} {c : Cm} (h : CmB w g t c) (j : Nat) {x : Value} (e : (cmA c)[j]? = some x) : w.cell? ⟨g, j, none⟩ = some x := by rw [cell_of_row w g j _ _ _ h, e]
theorem CmB.frozen {w : World} {g : Nat} {t : TypeId} {c : Cm} (h : CmB w g t c) (j : Nat) : w.frozen? ⟨g, j, none⟩ = false := frozen_of_row w g j _ _ h
theorem grownRowC (w : World) (g : Nat) (cs : Array Value) : w.grownBy (w.setRow g cs) (some g) :=
  ⟨rfl, rfl, rfl, by simp, fun k _ hne => _root_.Go.setRow_other w g k cs (fun e => hne (by rw [e]))⟩
theorem cmA_one (c : Cm) : (cmA c).all (·.oneCell') = true := by simp [cmA, Value.oneCell']
end Go.Proofs.Ytpdggofaobmnlaa
/- What the model does to a disk by a command: l11Did. -/
namespace Go.Proofs.Ytpdggofaobmnlaa
open Go.ChangeShapes Go.WideShapes Go.ChangeAt Go.RowKit
end Go.Proofs.Ytpdggofaobmnlaa
/- Three things more in the state of a long walk: a disk's variable, an answer's variable, the disk's lists. -/
namespace Go.Proofs.Ytpdggofaobmnlaa
open Go.ChangeShapes Go.WideShapes Go.ChangeAt Go.RowKit

theorem bel_size {w wx : World} (h : Below w.heap.size w wx) : w.heap.size ≤ wx.heap.size := h.size
theorem Sta.add3 {w wx wy : World} {L : List Item} (h : Sta w wx L) (b : Below wx.heap.size wx wy) {g k : Nat} {t s : TypeId} {cs ds : Array Value} {u v : Value} {xs ys : List Int}
    (hg : StB wy g t cs) (hk : StB wy k s ds) (o : OwnD wy wx.heap.size u v xs ys) (lg : wx.heap.size ≤ g) (lk : wx.heap.size ≤ k) (ts : t ≠ s) (ti : t ≠ 2) (si : s ≠ 2) :
    Sta w wy (Blk g t cs :: Blk k s ds :: Dsk u v xs ys :: L) := by
  have h' := h.next b
  have sg := hg.lt
  have sk := hk.lt
  have hgk := hg.typ hk ts
  have ob : ∀ x ∈ (Dsk u v xs ys).blocks, wx.heap.size ≤ x ∧ x < wy.heap.size ∧ x ≠ g ∧ x ≠ k := by
    intro x hx
    simp only [Dsk, List.mem_append, Option.mem_toList] at hx
    rcases hx with hx | hx
    · have := o.1.lt x hx
      refine ⟨this.1, this.2, ?_, ?_⟩
      · rintro rfl; exact o.1.ne hg ti hx
      · rintro rfl; exact o.1.ne hk si hx
    · have := o.2.1.lt x hx
      refine ⟨this.1, this.2, ?_, ?_⟩
      · rintro rfl; exact o.2.1.ne hg ti hx
      · rintro rfl; exact o.2.1.ne hk si hx
  have hL : ∀ j ∈ L, ∀ x ∈ j.blocks, x < wx.heap.size := fun j hj x hx => (h.bound j hj x hx).2
  have sz := h.below.size
  refine ⟨h'.below, ?_, ?_, ?_, ?_, ?_, ?_, h'.apart⟩
  · intro i hi
    simp only [List.mem_cons] at hi
    rcases hi with rfl | rfl | rfl | hi
    · exact Nat.zero_le _
    · exact Nat.zero_le _
    · exact Nat.zero_le _
    · exact h'.olds i hi
  · intro i hi
    simp only [List.mem_cons] at hi
    rcases hi with rfl | rfl | rfl | hi
    · exact hg
    · exact hk
    · exact ⟨o.1.mono (Nat.zero_le _), o.2.1.mono (Nat.zero_le _), o.2.2⟩
    · exact h'.holds i hi
  · intro i hi x hx
    simp only [List.mem_cons] at hi
    rcases hi with rfl | rfl | rfl | hi
    · simp only [Blk, List.mem_singleton] at hx; subst hx; omega
    · simp only [Blk, List.mem_singleton] at hx; subst hx; omega
    · have := ob x hx; omega
    · exact h'.bound i hi x hx
  · intro j hj x hx hx'
    simp only [Blk, List.mem_singleton] at hx
    subst hx
    simp only [List.mem_cons] at hj
    rcases hj with rfl | rfl | hj
    · simp only [Blk, List.mem_singleton] at hx'; exact hgk hx'
    · exact (ob x hx').2.2.1 rfl
    · have := hL j hj x hx'; omega
  · intro j hj x hx hx'
    simp only [Blk, List.mem_singleton] at hx
    subst hx
    simp only [List.mem_cons] at hj
    rcases hj with rfl | hj
    · exact (ob x hx').2.2.2 rfl
    · have := hL j hj x hx'; omega
  · intro j hj x hx hx'
    have := (ob x hx).1
    have := hL j hj x hx'
    omega
theorem OwnD.bel {w w' : World} {base : Nat} {u v : Value} {xs ys : List Int} (h : OwnD w base u v xs ys) (b : Below w.heap.size w w') : OwnD w' base u v xs ys := ⟨h.1.below b, h.2.1.below b, h.2.2⟩
theorem OwnD.mono' {w : World} {base base' : Nat} {u v : Value} {xs ys : List Int} (h : OwnD w base u v xs ys) (b : base' ≤ base) : OwnD w base' u v xs ys := ⟨h.1.mono b, h.2.1.mono b, h.2.2⟩
theorem OwnD.putBy {w w' : World} {base g : Nat} {u v : Value} {xs ys : List Int} {t : TypeId} {cs : Array Value} (h : OwnD w base u v xs ys) (h' : StB w g t cs) (hne : t ≠ 2) (b : w.grownBy w' (some g)) : OwnD w' base u v xs ys := ⟨h.1.putBy h' hne b, h.2.1.putBy h' hne b, h.2.2⟩
end Go.Proofs.Ytpdggofaobmnlaa
