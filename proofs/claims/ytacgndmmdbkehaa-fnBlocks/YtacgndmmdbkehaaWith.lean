/- With, Without and Full, the program's and the model's: each answers what plain sets say, at every argument, and leaves the world as it was. -/
import Derived.Test.YtacgndmmdbkehaaRows
import Derived.Test.YtacgndmmdbkehaaSets
import Derived.WalkKit
import Derived.ProofKit
import Derived.OpenShut
namespace Go.Proofs.Ytacgndmmdbkehaa
open Go.ChangeShapes Go.WideShapes Go.ChangeAt Go.RowKit

theorem full_wrap (n : Int) (h0 : 0 ≤ n) (h1 : n ≤ 8) : wrap64 (wrap64 (2 ^ n.toNat) - 1) = fullI n := by
  have a : ∀ k : Nat, k < 9 → wrap64 (wrap64 (2 ^ k) - 1) = 2 ^ k - 1 := by decide +kernel
  simp only [fullI, h0, h1, and_self, if_true]
  exact a n.toNat (by omega)
theorem fullI_no (n : Int) (h : n < 0 ∨ 8 < n) : fullI n = -1 := by
  unfold fullI; rw [if_neg (by omega)]

set_option maxHeartbeats 400000 in
theorem swith_any (s i : Int) (w : World) :
    Calls Try.prog 25 #[.int .i64 s, .int .i64 i] w fun e w' => e = .returned (.int .i64 (withI s i)) ∧ w' = w := by
  by_cases h0 : 0 ≤ s
  · by_cases h1 : s ≤ 255
    · by_cases h2 : 0 ≤ i
      · by_cases h3 : i ≤ 7
        · go_enter Try.func25, Try.ntmps25
          go_wp2
          go_ret
          exact ⟨ret_int (or_in h0 (by omega) h2 (by omega)), rfl⟩
        · rw [withI_noitem h0 (by omega) (by omega)]
          go_enter Try.func25, Try.ntmps25
          go_wp2
          go_ret
          exact ⟨rfl, rfl⟩
      · rw [withI_noitem h0 (by omega) (by omega)]
        go_enter Try.func25, Try.ntmps25
        go_wp2
        go_ret
        exact ⟨rfl, rfl⟩
    · rw [withI_noset (by omega)]
      go_enter Try.func25, Try.ntmps25
      go_wp2
      go_ret
      exact ⟨rfl, rfl⟩
  · rw [withI_noset (by omega)]
    go_enter Try.func25, Try.ntmps25
    go_wp2
    go_ret
    exact ⟨rfl, rfl⟩
end Go.Proofs.Ytacgndmmdbkehaa
