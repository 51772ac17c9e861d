/- Kinds, and who may, as plain numbers and truths. -/
import Derived.Test.YtifffiekibdgnaaGreatDoorCm
namespace Go.Proofs.YtifffiekibdgnaaGreatDoor
open Go.RowKit

def kiI (k : Int) : Bool := inI k 1 6
def barsI (k : Int) (w : Bool) : Bool := kiI k && (w || decide (k % 2 = 0))
def allI (k : Int) : Bool := decide (k = 5) || decide (k = 6)
def mayI (k : Int) (w h r : Bool) : Bool := if k = 0 then true else if kiI k = false then false else if h then true else if decide (3 ≤ k) && r then true else !barsI k w
theorem kinds (k : Int) : k = 0 ∨ k = 1 ∨ k = 2 ∨ k = 3 ∨ k = 4 ∨ k = 5 ∨ k = 6 ∨ (kiI k = false ∧ k ≠ 0 ∧ k ≠ 1 ∧ k ≠ 2 ∧ k ≠ 3 ∧ k ≠ 4 ∧ k ≠ 5 ∧ k ≠ 6) := by
  by_cases h : kiI k = true
  · have := (inI_iff k 1 6).1 h
    omega
  · have h' : kiI k = false := by simpa using h
    have : ¬ (1 ≤ k ∧ k ≤ 6) := fun e => h ((inI_iff k 1 6).2 e)
    by_cases h0 : k = 0
    · exact .inl h0
    · exact .inr (.inr (.inr (.inr (.inr (.inr (.inr ⟨h', by omega⟩))))))
theorem kiI_lit : kiI 0 = false ∧ kiI 1 = true ∧ kiI 2 = true ∧ kiI 3 = true ∧ kiI 4 = true ∧ kiI 5 = true ∧ kiI 6 = true := by decide
/- One that holds it may; where reading is barred writing is, too. -/
theorem mayI_holds (k : Int) (w r : Bool) (h : kiI k = true) : mayI k w true r = true := by
  unfold mayI
  by_cases h0 : k = 0
  · rw [if_pos h0]
  · rw [if_neg h0, if_neg (by rw [h]; decide), if_pos rfl]
theorem barsI_le (k : Int) : (barsI k false && !barsI k true) = false := by
  unfold barsI
  cases kiI k <;> simp
theorem mayI_le (k : Int) (h r : Bool) : (mayI k true h r && !mayI k false h r) = false := by
  unfold mayI barsI
  by_cases h0 : k = 0
  · simp [h0]
  · rw [if_neg h0, if_neg h0]
    cases hk : kiI k with
    | false => simp
    | true => cases h <;> cases r <;> by_cases h3 : 3 ≤ k <;> simp [h3]
theorem mayI_all (k : Int) (w h : Bool) : (!allI k || mayI k w h true) = true := by
  unfold allI mayI
  by_cases h5 : k = 5
  · subst h5; simp [show kiI 5 = true from rfl]
  · by_cases h6 : k = 6
    · subst h6; simp [show kiI 6 = true from rfl]
    · simp [h5, h6]
theorem none_all (k : Int) (hk : kiI k = false) : allI k = false := by
  rcases kinds k with h | h | h | h | h | h | h | ⟨_, h0, h1, h2, h3, h4, h5, h6⟩
  · subst h; rfl
  all_goals first | (subst h; exact absurd hk (by decide)) | simp [allI, h5, h6]
theorem none_bars (k : Int) (w : Bool) (hk : kiI k = false) : barsI k w = false := by simp [barsI, hk]
theorem none_may (k : Int) (w h r : Bool) (h0 : k ≠ 0) (hk : kiI k = false) : mayI k w h r = false := by simp [mayI, h0, hk]
end Go.Proofs.YtifffiekibdgnaaGreatDoor
