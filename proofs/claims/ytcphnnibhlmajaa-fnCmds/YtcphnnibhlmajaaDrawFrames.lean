/- What the law on frames draws: DrawCheck, DrawFramed; pick. -/
import Derived.Test.YtcphnnibhlmajaaDrawText
import Derived.Test.YtcphnnibhlmajaaDrawSets
namespace Go.Proofs.Ytcphnnibhlmajaa
open Go.ChangeShapes Go.WideShapes Go.ChangeAt Go.RowKit

set_option maxRecDepth 20000 in
set_option maxHeartbeats 1000000 in
theorem pick_any (B : Nat) (v : Value) (n : Int) (w : World) (h : CodeOk w B v) (hn : 0 < n) (hn2 : n ≤ 1099511627776) :
    Calls Try.prog 21 #[v, .int .i64 1, .int .i64 n] w fun e w' => ∃ r, e = .returned (.int .i64 r) ∧ 0 ≤ r ∧ r < n ∧ ∃ q, w' = w.drewN q := by
  obtain ⟨ao, len, cap, rfl, hb, hl⟩ := h
  have hl2 : (len : Int) ≤ 1099511627776 := by omega
  go_enter Try.func21, Try.ntmps21
  go_wp2
  go_loopw [7, 8] (fun k i wr => ∃ (j : Nat) (x : Int) (q : Nat), j ≤ len ∧ i = .int .i64 j ∧ k = .int .i64 x ∧ 0 ≤ x ∧ x ≤ 1099511627776 + 7919 ∧ wr = w.drewN q) (fun _ i _ => len - (intOf i).toNat)
  case atStart => exact ⟨0, _, 0, Nat.zero_le _, rfl, rfl, by omega, by omega, rfl⟩
  case round =>
    obtain ⟨j, x, q, hj, rfl, rfl, hx0, hx1, rfl⟩ := hrel
    by_cases hlt : (j : Int) < (len : Int)
    · obtain ⟨b, off, z, rfl, hbB, hz, hz0, hz1⟩ := hb j (by omega)
      clear hb
      go_wp2
      go_roundw
      case rel => exact ⟨j + 1, _, q, by omega, by go_num, rfl, by omega, by omega, rfl⟩
      case measure => simp [intOf]; omega
    · go_wp2
      go_ret
      exact ⟨_, rfl, Int.emod_nonneg x (by omega), Int.emod_lt_of_pos x hn, q, rfl⟩
end Go.Proofs.Ytcphnnibhlmajaa
