/- What the laws on sets draw: a number for the set, one for the item, one for Full; whatever they are, nothing that was there is written. -/
import Derived.Test.YtifffiekibdgnaaGreatDoorDraw
namespace Go.Proofs.YtifffiekibdgnaaGreatDoor
open Go.ChangeShapes Go.WideShapes Go.ChangeAt Go.RowKit

/- From what is done to a cursor's own block: nothing below it has turned. -/
theorem below_of_cur {w w1 w2 : World} {c : Nat} (h1 : w.grownBy w1 none) (hc : w.heap.size ≤ c) (h2 : w1.grownBy w2 (some c)) : Below w.heap.size w w2 :=
  ((Below.refl _ w).grown h1 (Nat.le_refl _) (by simp)).grown h2 h1.size (fun k e => by simp at e; omega)
end Go.Proofs.YtifffiekibdgnaaGreatDoor
