/- In, With, Without and Full, the program's and the model's: each answers what plain sets say, at every argument, and leaves the world as it was. -/
import Derived.Test.YtelfpdjidppblaaRows
import Derived.Test.YtelfpdjidppblaaSets
import Derived.WalkKit
import Derived.ProofKit
import Derived.OpenShut
namespace Go.Proofs.Ytelfpdjidppblaa
open Go.ChangeShapes Go.WideShapes Go.ChangeAt Go.RowKit

set_option maxRecDepth 20000 in
set_option maxHeartbeats 400000 in
theorem in_any (s i : Int) (w : World) :
    Calls Try.prog 93 #[.int .i64 s, .int .i64 i] w fun e w' => e = .returned (.bool (inB s i)) ∧ w' = w := by
  by_cases h0 : 0 ≤ s
  · by_cases h1 : s < 256
    · by_cases h2 : 0 ≤ i
      · by_cases h3 : i < 8
        · go_enter Try.func93, Try.ntmps93
          go_wp2
          go_ret
          exact ⟨ret_bool (and_in h0 h1 h2 h3), rfl⟩
        · have e := inB_noitem (s := s) (i := i) (by omega)
          rw [e]
          clear e
          go_enter Try.func93, Try.ntmps93
          go_wp2
          go_ret
          exact ⟨rfl, rfl⟩
      · have e := inB_noitem (s := s) (i := i) (by omega)
        rw [e]
        clear e
        go_enter Try.func93, Try.ntmps93
        go_wp2
        go_ret
        exact ⟨rfl, rfl⟩
    · have e := inB_noset (s := s) (i := i) (by omega)
      rw [e]
      clear e
      go_enter Try.func93, Try.ntmps93
      go_wp2
      go_ret
      exact ⟨rfl, rfl⟩
  · have e := inB_noset (s := s) (i := i) (by omega)
    rw [e]
    clear e
    go_enter Try.func93, Try.ntmps93
    go_wp2
    go_ret
    exact ⟨rfl, rfl⟩

set_option maxRecDepth 20000 in
set_option maxHeartbeats 400000 in
theorem sin_any (s i : Int) (w : World) :
    Calls Try.prog 38 #[.int .i64 s, .int .i64 i] w fun e w' => e = .returned (.bool (inB s i)) ∧ w' = w := by
  by_cases h0 : 0 ≤ s
  · by_cases h1 : s ≤ 255
    · by_cases h2 : 0 ≤ i
      · by_cases h3 : i ≤ 7
        · go_enter Try.func38, Try.ntmps38
          go_wp2
          go_ret
          exact ⟨ret_bool (shr_in h0 (by omega) h2 (by omega)), rfl⟩
        · have e := inB_noitem (s := s) (i := i) (by omega)
          rw [e]
          clear e
          go_enter Try.func38, Try.ntmps38
          go_wp2
          go_ret
          exact ⟨rfl, rfl⟩
      · have e := inB_noitem (s := s) (i := i) (by omega)
        rw [e]
        clear e
        go_enter Try.func38, Try.ntmps38
        go_wp2
        go_ret
        exact ⟨rfl, rfl⟩
    · have e := inB_noset (s := s) (i := i) (by omega)
      rw [e]
      clear e
      go_enter Try.func38, Try.ntmps38
      go_wp2
      go_ret
      exact ⟨rfl, rfl⟩
  · have e := inB_noset (s := s) (i := i) (by omega)
    rw [e]
    clear e
    go_enter Try.func38, Try.ntmps38
    go_wp2
    go_ret
    exact ⟨rfl, rfl⟩
end Go.Proofs.Ytelfpdjidppblaa
