/- Whether a number lies between two others, by the model: l1In, l6Key, l6Word. -/
import Derived.Test.YtdcdfhklnhaimaaCm
import Derived.Below
namespace Go.Proofs.Ytdcdfhklnhaimaa
open Go.ChangeShapes Go.WideShapes Go.ChangeAt Go.RowKit

set_option maxRecDepth 20000 in
set_option maxHeartbeats 400000 in
theorem sin6_any (x lo hi : Int) (w : World) :
    Calls Try.prog 39 #[.int .i64 x, .int .i64 lo, .int .i64 hi] w fun e w' => e = .returned (.bool (inI x lo hi)) ∧ w' = w := by
  by_cases h0 : lo ≤ x
  · by_cases h1 : x ≤ hi
    · have he : inI x lo hi = true := by simp [inI, h0, h1]
      rw [he]
      clear he
      go_enter Try.func39, Try.ntmps39
      go_wp2
      go_ret
      exact ⟨ret_bool (by simp), rfl⟩
    · have he : inI x lo hi = false := by simp [inI, h1]
      rw [he]
      clear he
      go_enter Try.func39, Try.ntmps39
      go_wp2
      go_ret
      exact ⟨ret_bool (by simp), rfl⟩
  · have he : inI x lo hi = false := by simp [inI, h0]
    rw [he]
    clear he
    go_enter Try.func39, Try.ntmps39
    go_wp2
    go_ret
    exact ⟨ret_bool (by simp), rfl⟩
end Go.Proofs.Ytdcdfhklnhaimaa
