/- Bars and Allowed by the program. -/
import Derived.Test.YtifffiekibdgnaaGreatDoorITab
namespace Go.Proofs.YtifffiekibdgnaaGreatDoor
open Go.ChangeShapes Go.WideShapes Go.ChangeAt Go.RowKit

theorem barsI_tab (k : Int) (b : Bool) : barsI k b = tabI (heldI k) (whatI k) b false := by
  rcases kinds k with h | h | h | h | h | h | h | ⟨hk, h0, h1, h2, h3, h4, h5, h6⟩
  all_goals first | (subst h; cases b <;> rfl) | (rw [none_bars k b hk, show heldI k = 0 by simp [heldI, h1, h2, h3, h4, h5, h6]]; rfl)
theorem mayI_tab (k : Int) (b r : Bool) (hk : kiI k = true) : mayI k b false r = !tabI (heldI k) (whatI k) b r := by
  rcases kinds k with h | h | h | h | h | h | h | ⟨hn, h0, h1, h2, h3, h4, h5, h6⟩
  all_goals first | (rw [hk] at hn; cases hn) | (subst h; first | (cases b <;> cases r <;> rfl) | (exact absurd hk (by decide)))
end Go.Proofs.YtifffiekibdgnaaGreatDoor
