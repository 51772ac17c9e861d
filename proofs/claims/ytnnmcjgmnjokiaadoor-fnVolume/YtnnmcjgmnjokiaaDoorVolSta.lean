/- Three things more in the state of a long walk: a disk's variable, an answer's variable, the disk's lists. -/
import Derived.Test.YtnnmcjgmnjokiaaDoorDiskSta
import Derived.Test.YtnnmcjgmnjokiaaDoorRg
import Derived.Test.YtnnmcjgmnjokiaaDoorSVol
namespace Go.Proofs.YtnnmcjgmnjokiaaDoor
open Go.ChangeShapes Go.WideShapes Go.ChangeAt Go.RowKit

theorem bel_size {w wx : World} (h : Below w.heap.size w wx) : w.heap.size ≤ wx.heap.size := h.size
theorem Sta.add3 {w wx wy : World} {L : List Item} (h : Sta w wx L) (b : Below wx.heap.size wx wy) {g k : Nat} {t s : TypeId} {cs ds : Array Value} {u v : Value} {xs ys : List Int}
    (hg : StB wy g t cs) (hk : StB wy k s ds) (o : OwnD wy wx.heap.size u v xs ys) (lg : wx.heap.size ≤ g) (lk : wx.heap.size ≤ k) (ts : t ≠ s) (ti : t ≠ 2) (si : s ≠ 2) :
    Sta w wy (Blk g t cs :: Blk k s ds :: Dsk u v xs ys :: L) := by
  have h' := h.next b
  have sg := hg.lt
  have sk := hk.lt
  have hgk := hg.typ hk ts
  have ob : ∀ x ∈ (Dsk u v xs ys).blocks, wx.heap.size ≤ x ∧ x < wy.heap.size ∧ x ≠ g ∧ x ≠ k := by
    intro x hx
    simp only [Dsk, List.mem_append, Option.mem_toList] at hx
    rcases hx with hx | hx
    · have := o.1.lt x hx
      refine ⟨this.1, this.2, ?_, ?_⟩
      · rintro rfl; exact o.1.ne hg ti hx
      · rintro rfl; exact o.1.ne hk si hx
    · have := o.2.1.lt x hx
      refine ⟨this.1, this.2, ?_, ?_⟩
      · rintro rfl; exact o.2.1.ne hg ti hx
      · rintro rfl; exact o.2.1.ne hk si hx
  have hL : ∀ j ∈ L, ∀ x ∈ j.blocks, x < wx.heap.size := fun j hj x hx => (h.bound j hj x hx).2
  have sz := h.below.size
  refine ⟨h'.below, ?_, ?_, ?_, ?_, ?_, ?_, h'.apart⟩
  · intro i hi
    simp only [List.mem_cons] at hi
    rcases hi with rfl | rfl | rfl | hi
    · exact Nat.zero_le _
    · exact Nat.zero_le _
    · exact Nat.zero_le _
    · exact h'.olds i hi
  · intro i hi
    simp only [List.mem_cons] at hi
    rcases hi with rfl | rfl | rfl | hi
    · exact hg
    · exact hk
    · exact ⟨o.1.mono (Nat.zero_le _), o.2.1.mono (Nat.zero_le _), o.2.2⟩
    · exact h'.holds i hi
  · intro i hi x hx
    simp only [List.mem_cons] at hi
    rcases hi with rfl | rfl | rfl | hi
    · simp only [Blk, List.mem_singleton] at hx; subst hx; omega
    · simp only [Blk, List.mem_singleton] at hx; subst hx; omega
    · have := ob x hx; omega
    · exact h'.bound i hi x hx
  · intro j hj x hx hx'
    simp only [Blk, List.mem_singleton] at hx
    subst hx
    simp only [List.mem_cons] at hj
    rcases hj with rfl | rfl | hj
    · simp only [Blk, List.mem_singleton] at hx'; exact hgk hx'
    · exact (ob x hx').2.2.1 rfl
    · have := hL j hj x hx'; omega
  · intro j hj x hx hx'
    simp only [Blk, List.mem_singleton] at hx
    subst hx
    simp only [List.mem_cons] at hj
    rcases hj with rfl | hj
    · exact (ob x hx').2.2.2 rfl
    · have := hL j hj x hx'; omega
  · intro j hj x hx hx'
    have := (ob x hx).1
    have := hL j hj x hx'
    omega
theorem OwnD.bel {w w' : World} {base : Nat} {u v : Value} {xs ys : List Int} (h : OwnD w base u v xs ys) (b : Below w.heap.size w w') : OwnD w' base u v xs ys := ⟨h.1.below b, h.2.1.below b, h.2.2⟩
theorem OwnD.mono' {w : World} {base base' : Nat} {u v : Value} {xs ys : List Int} (h : OwnD w base u v xs ys) (b : base' ≤ base) : OwnD w base' u v xs ys := ⟨h.1.mono b, h.2.1.mono b, h.2.2⟩
theorem OwnD.putBy {w w' : World} {base g : Nat} {u v : Value} {xs ys : List Int} {t : TypeId} {cs : Array Value} (h : OwnD w base u v xs ys) (h' : StB w g t cs) (hne : t ≠ 2) (b : w.grownBy w' (some g)) : OwnD w' base u v xs ys := ⟨h.1.putBy h' hne b, h.2.1.putBy h' hne b, h.2.2⟩
end Go.Proofs.YtnnmcjgmnjokiaaDoor
