/- Whether a number lies between two others, by the model: l1In, l6Key, l6Word. -/
import Derived.Test.YtnnmcjgmnjokiaaDoorCm
import Derived.Below
namespace Go.Proofs.YtnnmcjgmnjokiaaDoor
open Go.ChangeShapes Go.WideShapes Go.ChangeAt Go.RowKit

set_option maxRecDepth 20000 in
set_option maxHeartbeats 400000 in
theorem sin6_any (x lo hi : Int) (w : World) :
    Calls Tryd.prog 38 #[.int .i64 x, .int .i64 lo, .int .i64 hi] w fun e w' => e = .returned (.bool (inI x lo hi)) ∧ w' = w := by
  by_cases h0 : lo ≤ x
  · by_cases h1 : x ≤ hi
    · have he : inI x lo hi = true := by simp [inI, h0, h1]
      rw [he]
      clear he
      go_enter Tryd.func38, Tryd.ntmps38
      go_wp2
      go_ret
      exact ⟨ret_bool (by simp), rfl⟩
    · have he : inI x lo hi = false := by simp [inI, h1]
      rw [he]
      clear he
      go_enter Tryd.func38, Tryd.ntmps38
      go_wp2
      go_ret
      exact ⟨ret_bool (by simp), rfl⟩
  · have he : inI x lo hi = false := by simp [inI, h0]
    rw [he]
    clear he
    go_enter Tryd.func38, Tryd.ntmps38
    go_wp2
    go_ret
    exact ⟨ret_bool (by simp), rfl⟩

set_option maxRecDepth 20000 in
set_option maxHeartbeats 400000 in
theorem s6key_any (x : Int) (w : World) :
    Calls Tryd.prog 61 #[.int .i64 x] w fun e w' => e = .returned (.bool (inI x 0 9999)) ∧ w' = w := by
  have c1 := sin6_any x 0 9999 w
  go_enter Tryd.func61, Tryd.ntmps61
  go_wp2_with fail
  refine c1.mono ?_
  rintro e w' ⟨rfl, hw⟩; subst w'
  clear c1
  go_wp2_with fail
  go_ret
  exact ⟨rfl, rfl⟩

set_option maxRecDepth 20000 in
set_option maxHeartbeats 400000 in
theorem s6word_any (x : Int) (w : World) :
    Calls Tryd.prog 62 #[.int .i64 x] w fun e w' => e = .returned (.bool (inI x 0 65535)) ∧ w' = w := by
  have c1 := sin6_any x 0 65535 w
  go_enter Tryd.func62, Tryd.ntmps62
  go_wp2_with fail
  refine c1.mono ?_
  rintro e w' ⟨rfl, hw⟩; subst w'
  clear c1
  go_wp2_with fail
  go_ret
  exact ⟨rfl, rfl⟩
end Go.Proofs.YtnnmcjgmnjokiaaDoor
