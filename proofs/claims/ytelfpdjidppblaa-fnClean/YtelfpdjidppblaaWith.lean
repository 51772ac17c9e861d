/- With, Without and Full, the program's and the model's: each answers what plain sets say, at every argument, and leaves the world as it was. -/
import Derived.Test.YtelfpdjidppblaaRows
import Derived.Test.YtelfpdjidppblaaSets
import Derived.WalkKit
import Derived.ProofKit
import Derived.OpenShut
namespace Go.Proofs.Ytelfpdjidppblaa
open Go.ChangeShapes Go.WideShapes Go.ChangeAt Go.RowKit

theorem full_wrap (n : Int) (h0 : 0 ≤ n) (h1 : n ≤ 8) : wrap64 (wrap64 (2 ^ n.toNat) - 1) = fullI n := by
  have a : ∀ k : Nat, k < 9 → wrap64 (wrap64 (2 ^ k) - 1) = 2 ^ k - 1 := by decide +kernel
  simp only [fullI, h0, h1, and_self, if_true]
  exact a n.toNat (by omega)
theorem fullI_no (n : Int) (h : n < 0 ∨ 8 < n) : fullI n = -1 := by
  unfold fullI; rw [if_neg (by omega)]

set_option maxRecDepth 20000 in
set_option maxHeartbeats 400000 in
theorem with_any (s i : Int) (w : World) :
    Calls Try.prog 51 #[.int .i64 s, .int .i64 i] w fun e w' => e = .returned (.int .i64 (withI s i)) ∧ w' = w := by
  by_cases h0 : 0 ≤ s
  · by_cases h1 : s < 256
    · by_cases h2 : 0 ≤ i
      · by_cases h3 : i < 8
        · go_enter Try.func51, Try.ntmps51
          go_wp2
          go_ret
          exact ⟨ret_int (or_in h0 h1 h2 h3), rfl⟩
        · rw [withI_noitem h0 h1 (by omega)]
          go_enter Try.func51, Try.ntmps51
          go_wp2
          go_ret
          exact ⟨rfl, rfl⟩
      · rw [withI_noitem h0 h1 (by omega)]
        go_enter Try.func51, Try.ntmps51
        go_wp2
        go_ret
        exact ⟨rfl, rfl⟩
    · rw [withI_noset (by omega)]
      go_enter Try.func51, Try.ntmps51
      go_wp2
      go_ret
      exact ⟨rfl, rfl⟩
  · rw [withI_noset (by omega)]
    go_enter Try.func51, Try.ntmps51
    go_wp2
    go_ret
    exact ⟨rfl, rfl⟩

set_option maxRecDepth 20000 in
set_option maxHeartbeats 400000 in
theorem without_any (s i : Int) (w : World) :
    Calls Try.prog 59 #[.int .i64 s, .int .i64 i] w fun e w' => e = .returned (.int .i64 (withoutI s i)) ∧ w' = w := by
  by_cases h0 : 0 ≤ s
  · by_cases h1 : s < 256
    · by_cases h2 : 0 ≤ i
      · by_cases h3 : i < 8
        · go_enter Try.func59, Try.ntmps59
          go_wp2
          go_ret
          exact ⟨ret_int (andNot_in h0 h1 h2 h3), rfl⟩
        · rw [withoutI_noitem h0 h1 (by omega)]
          go_enter Try.func59, Try.ntmps59
          go_wp2
          go_ret
          exact ⟨rfl, rfl⟩
      · rw [withoutI_noitem h0 h1 (by omega)]
        go_enter Try.func59, Try.ntmps59
        go_wp2
        go_ret
        exact ⟨rfl, rfl⟩
    · rw [withoutI_noset (by omega)]
      go_enter Try.func59, Try.ntmps59
      go_wp2
      go_ret
      exact ⟨rfl, rfl⟩
  · rw [withoutI_noset (by omega)]
    go_enter Try.func59, Try.ntmps59
    go_wp2
    go_ret
    exact ⟨rfl, rfl⟩

set_option maxRecDepth 20000 in
set_option maxHeartbeats 400000 in
theorem swith_any (s i : Int) (w : World) :
    Calls Try.prog 28 #[.int .i64 s, .int .i64 i] w fun e w' => e = .returned (.int .i64 (withI s i)) ∧ w' = w := by
  by_cases h0 : 0 ≤ s
  · by_cases h1 : s ≤ 255
    · by_cases h2 : 0 ≤ i
      · by_cases h3 : i ≤ 7
        · go_enter Try.func28, Try.ntmps28
          go_wp2
          go_ret
          exact ⟨ret_int (or_in h0 (by omega) h2 (by omega)), rfl⟩
        · rw [withI_noitem h0 (by omega) (by omega)]
          go_enter Try.func28, Try.ntmps28
          go_wp2
          go_ret
          exact ⟨rfl, rfl⟩
      · rw [withI_noitem h0 (by omega) (by omega)]
        go_enter Try.func28, Try.ntmps28
        go_wp2
        go_ret
        exact ⟨rfl, rfl⟩
    · rw [withI_noset (by omega)]
      go_enter Try.func28, Try.ntmps28
      go_wp2
      go_ret
      exact ⟨rfl, rfl⟩
  · rw [withI_noset (by omega)]
    go_enter Try.func28, Try.ntmps28
    go_wp2
    go_ret
    exact ⟨rfl, rfl⟩

set_option maxRecDepth 20000 in
set_option maxHeartbeats 400000 in
theorem swithout_any (s i : Int) (w : World) :
    Calls Try.prog 26 #[.int .i64 s, .int .i64 i] w fun e w' => e = .returned (.int .i64 (withoutI s i)) ∧ w' = w := by
  by_cases h0 : 0 ≤ s
  · by_cases h1 : s ≤ 255
    · by_cases h2 : 0 ≤ i
      · by_cases h3 : i ≤ 7
        · go_enter Try.func26, Try.ntmps26
          go_wp2
          go_ret
          exact ⟨ret_int (andNot_in h0 (by omega) h2 (by omega)), rfl⟩
        · rw [withoutI_noitem h0 (by omega) (by omega)]
          go_enter Try.func26, Try.ntmps26
          go_wp2
          go_ret
          exact ⟨rfl, rfl⟩
      · rw [withoutI_noitem h0 (by omega) (by omega)]
        go_enter Try.func26, Try.ntmps26
        go_wp2
        go_ret
        exact ⟨rfl, rfl⟩
    · rw [withoutI_noset (by omega)]
      go_enter Try.func26, Try.ntmps26
      go_wp2
      go_ret
      exact ⟨rfl, rfl⟩
  · rw [withoutI_noset (by omega)]
    go_enter Try.func26, Try.ntmps26
    go_wp2
    go_ret
    exact ⟨rfl, rfl⟩

set_option maxRecDepth 20000 in
set_option maxHeartbeats 400000 in
theorem full_any (n : Int) (w : World) :
    Calls Try.prog 63 #[.int .i64 n] w fun e w' => e = .returned (.int .i64 (fullI n)) ∧ w' = w := by
  by_cases h0 : 0 ≤ n
  · by_cases h1 : n ≤ 8
    · go_enter Try.func63, Try.ntmps63
      go_wp2
      go_ret
      exact ⟨ret_int (full_wrap n h0 h1), rfl⟩
    · rw [fullI_no n (by omega)]
      go_enter Try.func63, Try.ntmps63
      go_wp2
      go_ret
      exact ⟨rfl, rfl⟩
  · rw [fullI_no n (by omega)]
    go_enter Try.func63, Try.ntmps63
    go_wp2
    go_ret
    exact ⟨rfl, rfl⟩

set_option maxRecDepth 20000 in
set_option maxHeartbeats 400000 in
theorem sfull_any (n : Int) (w : World) :
    Calls Try.prog 25 #[.int .i64 n] w fun e w' => e = .returned (.int .i64 (fullI n)) ∧ w' = w := by
  by_cases h0 : 0 ≤ n
  · by_cases h1 : n ≤ 8
    · go_enter Try.func25, Try.ntmps25
      go_wp2
      go_ret
      exact ⟨ret_int (full_wrap n h0 h1), rfl⟩
    · rw [fullI_no n (by omega)]
      go_enter Try.func25, Try.ntmps25
      go_wp2
      go_ret
      exact ⟨rfl, rfl⟩
  · rw [fullI_no n (by omega)]
    go_enter Try.func25, Try.ntmps25
    go_wp2
    go_ret
    exact ⟨rfl, rfl⟩
end Go.Proofs.Ytelfpdjidppblaa
