/- Holdings by the program, on: a new holding. -/
import Derived.Test.YtifffiekibdgnaaDoorIHold2
namespace Go.Proofs.YtifffiekibdgnaaDoor
open Go.ChangeShapes Go.WideShapes Go.ChangeAt Go.RowKit

theorem ilistK4_any (f : Nat → Int) (w : World) :
    Calls Tryd.prog 30 #[.agg (kA f)] w fun e w' => ∃ ao cap, e = .returned (.slice ao 4 cap) ∧ Own w' w.heap.size (.slice ao 4 cap) (listK f) ∧ Below w.heap.size w w' := by
  refine (ilistK_any f w).mono ?_
  rintro e w' ⟨u, rfl, o, b⟩
  obtain ⟨ao, cap, rfl⟩ := reads_form o.reads
  exact ⟨ao, cap, rfl, o, b⟩

theorem cell_put4 {w : World} {g k : Nat} (hne : g ≠ k) {j : Nat} {a b c d x : Value} (h : w.cell? ⟨g, j, none⟩ = some x) :
    ((((w.setCell ⟨k, 0, none⟩ a).setCell ⟨k, 1, none⟩ b).setCell ⟨k, 2, none⟩ c).setCell ⟨k, 3, none⟩ d).cell? ⟨g, j, none⟩ = some x := by
  rw [World.cell?_setCell_far _ _ _ _ (Ne.symm hne), World.cell?_setCell_far _ _ _ _ (Ne.symm hne), World.cell?_setCell_far _ _ _ _ (Ne.symm hne), World.cell?_setCell_far _ _ _ _ (Ne.symm hne), h]
end Go.Proofs.YtifffiekibdgnaaDoor
