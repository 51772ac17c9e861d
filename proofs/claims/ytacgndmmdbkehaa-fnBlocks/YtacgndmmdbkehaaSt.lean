/- The state of a long walk under one name: nothing that was there has turned, and these lists lie in memory of the call's own. -/
import Derived.Test.YtacgndmmdbkehaaMem
namespace Go.Proofs.Ytacgndmmdbkehaa
open Go.ChangeShapes Go.WideShapes Go.ChangeAt Go.RowKit

def St (w wx : World) (L : List (Value × List Int)) : Prop := Below w.heap.size w wx ∧ ∀ p ∈ L, Own wx w.heap.size p.1 p.2
theorem St.start (w : World) : St w w [] := ⟨Below.refl _ _, by simp⟩
theorem St.below {w wx wy : World} {L : List (Value × List Int)} (h : St w wx L) (b : Below wx.heap.size wx wy) : St w wy L := ⟨h.1.trans (b.mono h.1.size), fun p hp => (h.2 p hp).below b⟩
theorem St.drew {w wx wy : World} {L : List (Value × List Int)} {n : Nat} (h : St w wx L) (e : wy = wx.drewN n) : St w wy L := by subst e; exact ⟨below_drewN h.1 n, fun p hp => (h.2 p hp).drewN n⟩
theorem St.drewN {w wx : World} {L : List (Value × List Int)} (h : St w wx L) (n : Nat) : St w (wx.drewN n) L := h.drew rfl
theorem St.add {w wx wy : World} {L : List (Value × List Int)} {v : Value} {xs : List Int} (h : St w wx L) (o : Own wy wx.heap.size v xs) (b : Below wx.heap.size wx wy) : St w wy ((v, xs) :: L) := by
  have h' := h.below b
  refine ⟨h'.1, fun p hp => ?_⟩
  rcases List.mem_cons.1 hp with rfl | hp
  · exact o.mono h.1.size
  · exact h'.2 p hp
theorem St.add2 {w wx wy : World} {L : List (Value × List Int)} {v u : Value} {xs ys : List Int} (h : St w wx L) (o : Own wy wx.heap.size v xs) (o' : Own wy wx.heap.size u ys) (b : Below wx.heap.size wx wy) : St w wy ((v, xs) :: (u, ys) :: L) := by
  have h' := h.add o' b
  refine ⟨h'.1, fun p hp => ?_⟩
  rcases List.mem_cons.1 hp with rfl | hp
  · exact o.mono h.1.size
  · exact h'.2 p hp
theorem St.sub {w wx : World} {L M : List (Value × List Int)} (h : St w wx L) (hs : ∀ p ∈ M, p ∈ L) : St w wx M := ⟨h.1, fun p hp => h.2 p (hs p hp)⟩
theorem St.reads {w wx : World} {L : List (Value × List Int)} (h : St w wx L) {v : Value} {xs : List Int} (hp : (v, xs) ∈ L) : Reads wx v xs := (h.2 _ hp).reads
end Go.Proofs.Ytacgndmmdbkehaa
