/- likeInts answers whether two lists are the same. -/
import Derived.Test.YtdcdfhklnhaimaaMem
namespace Go.Proofs.Ytdcdfhklnhaimaa
open Go.ChangeShapes Go.WideShapes Go.ChangeAt Go.RowKit

set_option maxRecDepth 20000 in
set_option maxHeartbeats 400000 in
theorem like_any (va vb : Value) (xs ys : List Int) (w : World) (ha : Reads w va xs) (hb : Reads w vb ys) (hbig : xs.length ≤ 1099511627776) :
    Calls Try.prog 36 #[va, vb] w fun e w' => e = .returned (.bool (decide (xs = ys))) ∧ ∃ n, w' = w.drewN n := by
  obtain ⟨ao, ca, rfl, hla, ⟨hma, -⟩, hca⟩ := ha
  obtain ⟨bo, cb, rfl, hlb, ⟨hmb, -⟩, hcb⟩ := hb
  by_cases hlen : xs.length = ys.length
  · obtain ⟨n, hn⟩ : ∃ n, n = xs.length := ⟨_, rfl⟩
    rw [← hlen] at hlb hcb ⊢
    rw [← hn] at hla hlb hca hcb hbig ⊢
    have HN : Hid (n = xs.length ∧ n = ys.length) := ⟨hn, hn.trans hlen⟩
    clear hn hlen hma hmb
    have hcell : ∀ j, j < n → ∃ b off b' off', ao = some ⟨b, off, none⟩ ∧ bo = some ⟨b', off', none⟩ ∧ w.cell? ⟨b, off + j, none⟩ = some (.int .i64 (xs.getD j 0)) ∧ w.cell? ⟨b', off' + j, none⟩ = some (.int .i64 (ys.getD j 0)) := by
      intro j hj
      rcases hca with e | ⟨b, off, e, h4⟩
      · have := HN.out.1; rw [e] at this; simp at this; omega
      · rcases hcb with e' | ⟨b', off', e', h4'⟩
        · have := HN.out.2; rw [e'] at this; simp at this; omega
        · exact ⟨b, off, b', off', e, e', h4 j hj, h4' j hj⟩
    clear hca hcb
    go_enter Try.func36, Try.ntmps36
    go_wp2
    go_loopw [5] (fun i wr => ∃ j q : Nat, j ≤ n ∧ i = .int .i64 j ∧ Hid (xs.take j = ys.take j) ∧ wr = w.drewN q) (fun i _ => n - (intOf i).toNat)
    case atStart => exact ⟨0, 0, Nat.zero_le _, rfl, by simp [Hid], rfl⟩
    case round =>
      obtain ⟨j, q, hj, rfl, ht, rfl⟩ := hrel
      by_cases hlt : (j : Int) < (n : Int)
      · obtain ⟨b, off, b', off', rfl, rfl, hc1, hc2⟩ := hcell j (by omega)
        clear hcell
        obtain ⟨x, hx⟩ : ∃ x, x = xs.getD j 0 := ⟨_, rfl⟩
        obtain ⟨y, hy⟩ : ∃ y, y = ys.getD j 0 := ⟨_, rfl⟩
        rw [← hx] at hc1
        rw [← hy] at hc2
        have HX : Hid (x = xs.getD j 0 ∧ y = ys.getD j 0) := ⟨hx, hy⟩
        clear hx hy
        by_cases hxy : (x != y) = true
        · go_wp2
          go_quiet (fail)
          go_wp2
          go_ret
          exact ⟨ret_bool (by
            have h1 : x ≠ y := by simpa using hxy
            have h2 : xs ≠ ys := ne_of_getD (j := j) (by rw [← HX.out.1, ← HX.out.2]; exact h1)
            simp [h2]), ⟨_, World.drewN_drewN ..⟩⟩
        · go_wp2
          go_quiet (fail)
          go_wp2
          go_roundw
          case rel =>
            have h1 : x = y := by simpa using hxy
            exact ⟨j + 1, _, by omega, by go_num, take_step ht (by have := HN.out.1; omega) (by have := HN.out.2; omega) (by rw [← HX.out.1, ← HX.out.2]; exact h1), rfl⟩
          case measure => simp [intOf]; omega
      · go_wp2
        go_ret
        exact ⟨ret_bool (by
          have h1 : xs = ys := by
            have h2 := ht.out
            rw [List.take_of_length_le (by have := HN.out.1; omega), List.take_of_length_le (by have := HN.out.2; omega)] at h2
            exact h2
          simp [h1]), ⟨_, rfl⟩⟩
  · have hne : ((xs.length : Int) != (ys.length : Int)) = true := by simp; omega
    have he : decide (xs = ys) = false := by
      have : xs ≠ ys := fun h => hlen (by rw [h])
      simp [this]
    rw [he]
    clear he hlen hca hcb
    go_enter Try.func36, Try.ntmps36
    go_wp2
    go_ret
    exact ⟨rfl, 0, rfl⟩

end Go.Proofs.Ytdcdfhklnhaimaa
