/- A cell of a list of the call's own. -/
import Derived.Test.YthjgannjahcmiaaMem
namespace Go.Proofs.Ythjgannjahcmiaa
open Go.ChangeShapes Go.WideShapes Go.ChangeAt Go.RowKit

theorem Own.cellAt {w : World} {base g n cap : Nat} {xs : List Int} (h : Own w base (.slice (some ⟨g, 0, none⟩) n cap) xs) (j : Nat) (hj : j < xs.length) : w.cell? ⟨g, j, none⟩ = some (.int .i64 (xs.getD j 0)) := by
  have hn : n = xs.length := by
    obtain ⟨_, _, e, _⟩ := h.reads
    cases e
    rfl
  subst hn
  have := World.ownsRow.cellAt (w := w) h j (by omega)
  rw [this]
  simp [List.getD, hj]
end Go.Proofs.Ythjgannjahcmiaa
