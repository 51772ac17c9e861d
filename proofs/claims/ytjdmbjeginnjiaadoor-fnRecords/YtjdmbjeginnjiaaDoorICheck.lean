/- What Check of the program answers. -/
import Derived.Test.YtjdmbjeginnjiaaDoorStr
namespace Go.Proofs.YtjdmbjeginnjiaaDoor
open Go.ChangeShapes Go.WideShapes Go.ChangeAt Go.RowKit

set_option maxRecDepth 20000 in
set_option maxHeartbeats 1000000 in
theorem icheck_any (l : Bs) (w : World) (hl : l.length ≤ 1048576) :
    Calls Tryd.prog 53 #[S l] w fun e w' => e = .returned (.int .i64 (chk l)) ∧ w' = w := by
  have hsz : (⟨l.toArray⟩ : ByteArray).size = l.length := rfl
  unfold S
  go_enter Tryd.func53, Tryd.ntmps53
  go_wp2
  go_loop [3, 7] (fun h i => ∃ j : Nat, j ≤ l.length ∧ i = .int .i64 j ∧ ∃ x : Int, h = .int .i64 x ∧ 0 ≤ x ∧ x < 999983 ∧ Hid (x = chk (l.take j))) (fun _ i => l.length - (intOf i).toNat)
  case atStart => exact ⟨0, Nat.zero_le _, rfl, 19, rfl, by omega, by omega, by simp [Hid, chk]⟩
  case round =>
    obtain ⟨j, hj, rfl, x, rfl, hx0, hx1, HX⟩ := hrel
    by_cases hlt : (j : Int) < (l.length : Int)
    · go_wp2
      go_round
      case rel =>
        have h1 : j < l.length := by omega
        have h2 := chk_bd (l.take (j + 1))
        have h3 := chk_step l j h1
        rw [← HX.out] at h3
        exact ⟨j + 1, by omega, by go_num, _, congrArg (Value.int .i64) h3, h2.1, h2.2, rfl⟩
      case measure => simp [intOf]; omega
    · go_wp2
      go_ret
      have e : j = l.length := by omega
      have := HX.out
      rw [e, List.take_length] at this
      exact ⟨ret_int this, rfl⟩
end Go.Proofs.YtjdmbjeginnjiaaDoor
