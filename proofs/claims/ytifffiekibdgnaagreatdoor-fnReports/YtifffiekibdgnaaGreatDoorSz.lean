/- How much is left behind a list; what stays where one cell is set. -/
import Derived.Test.YtifffiekibdgnaaGreatDoorMem
namespace Go.Proofs.YtifffiekibdgnaaGreatDoor
open Go.ChangeShapes Go.WideShapes Go.ChangeAt Go.RowKit

theorem grownSet (w : World) (g j : Nat) (x : Value) : w.grownBy (w.setCell ⟨g, j, none⟩ x) (some g) :=
  ⟨rfl, rfl, rfl, by simp, fun k _ hk => heap_setCell_other w ⟨g, j, none⟩ k x (fun e => hk (by simp [e]))⟩
theorem Own.keptLt {w w' : World} {base g : Nat} {v : Value} {xs : List Int} (h : Own w base v xs) (hg : w.grownBy w' (some g)) (hb : g < base) : Own w' base v xs :=
  h.kept hg (by
    by_cases e : v.ownBlock = none
    · exact .inl e
    · refine .inr fun e2 => ?_
      have := h.lt g e2
      omega)
theorem Own.setLt {w : World} {base g : Nat} {v : Value} {xs : List Int} (h : Own w base v xs) (hb : g < base) (j : Nat) (x : Value) : Own (w.setCell ⟨g, j, none⟩ x) base v xs := h.keptLt (grownSet w g j x) hb

def szI (k : Int) (n : Nat) : Int := if (n : Int) ≤ k then k - n else -1
end Go.Proofs.YtifffiekibdgnaaGreatDoor
