/- What the laws say of commands, as plain numbers. -/
import Derived.Test.YtcphnnibhlmajaaCmB
namespace Go.Proofs.Ytcphnnibhlmajaa
open Go.ChangeShapes Go.WideShapes Go.ChangeAt Go.RowKit

theorem codeC_cases (l : Bs) : (l.length < 8 ∧ codeC l = 1 ∧ readC l = Cm.zero) ∨ (8 < l.length ∧ codeC l = 2 ∧ readC l = Cm.zero) ∨ (l.length = 8 ∧ codeC l = 0 ∧ showCS (readC l) = l) ∨ (l.length = 8 ∧ 3 ≤ codeC l ∧ codeC l ≤ 5 ∧ readC l = Cm.zero) := by
  by_cases h1 : l.length < 8
  · exact .inl ⟨h1, code_short h1⟩
  · by_cases h2 : 8 < l.length
    · exact .inr (.inl ⟨h2, code_long h2⟩)
    · have h8 : l.length = 8 := by omega
      by_cases h0 : codeC l = 0
      · refine .inr (.inr (.inl ⟨h8, h0, ?_⟩))
        obtain ⟨a, b⟩ := showC_read h0
        unfold showCS
        rw [if_pos a, b]
      · refine .inr (.inr (.inr ⟨h8, ?_, ?_, readC_not h0⟩))
        all_goals
          unfold codeC at h0 ⊢
          rw [if_neg h1, if_neg h2] at h0 ⊢
          split
          · omega
          · split
            · omega
            · split
              · omega
              · simp_all
end Go.Proofs.Ytcphnnibhlmajaa
