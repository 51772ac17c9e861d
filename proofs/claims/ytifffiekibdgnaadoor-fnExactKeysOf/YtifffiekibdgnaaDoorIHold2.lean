/- Holdings by the program, on: Holds, May, a new holding. -/
import Derived.Test.YtifffiekibdgnaaDoorIHold
namespace Go.Proofs.YtifffiekibdgnaaDoor
open Go.ChangeShapes Go.WideShapes Go.ChangeAt Go.RowKit

theorem holdsF_ok {h : Hd} (hk : h.ok = true) (i : Int) : holdsF (KF h.ks) h.kd h.ho i = (inI i 0 3 && h.holds i) := by
  have hm : h.mid = true := by
    unfold Hd.ok at hk
    simp only [Bool.and_eq_true] at hk
    exact hk.2
  unfold holdsF Hd.holds
  rw [show decide (KF h.ks i.toNat ≠ 0) = regI h.ks i from rfl]
  unfold Hd.mid at hm
  cases hin : inI i 0 3
  · simp
  · have hi : 0 ≤ i ∧ i ≤ 3 := by simpa [inI] using hin
    simp only [Bool.true_and]
    by_cases h0 : h.kd = 0
    · rw [if_pos h0] at hm
      have ho : h.ho = -1 := by simpa using hm
      rw [h0, ho]
      simp [show allI 0 = false from rfl]
      intro _; omega
    · rw [if_neg h0] at hm
      cases ha : allI h.kd
      · rw [ha] at hm
        simp only [Bool.false_eq_true, if_false, Bool.and_eq_true] at hm
        by_cases he : i = h.ho
        · subst he
          simp [h0, hm.2]
        · simp [he, Ne.symm he]
      · rw [ha] at hm
        simp only [if_true, Bool.and_eq_true, decide_eq_true_eq] at hm
        have : h.ho ≠ i := by omega
        simp [h0, this]

theorem heA_S {w : World} {g : Nat} {f : Nat → Int} {kd ho tu : Int} {w' : World} {B : Nat} (h : Hid (StB w g 41 (heA f kd ho tu))) (hb : Below B w w') (e : B = w.heap.size) : Hid (StB w' g 41 (heA f kd ho tu)) := by subst e; exact h.out.below hb
theorem HB_next {w w3 w4 : World} (h : Hid (Below w.heap.size w w3)) (b : Below w3.heap.size w3 w4) : Hid (Below w.heap.size w w4) := h.out.trans (b.mono h.out.size)
end Go.Proofs.YtifffiekibdgnaaDoor
