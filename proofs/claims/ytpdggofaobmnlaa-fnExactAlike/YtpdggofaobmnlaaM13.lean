/- The model's store: StoreOk, l12Copy. -/
import Derived.Test.YtpdggofaobmnlaaLStore
import Derived.Test.YtpdggofaobmnlaaSDisk
import Derived.Test.YtpdggofaobmnlaaM12
import Derived.Test.YtpdggofaobmnlaaM10
import Derived.Test.YtpdggofaobmnlaaMem
namespace Go.Proofs.Ytpdggofaobmnlaa
open Go.ChangeShapes Go.WideShapes Go.ChangeAt Go.RowKit

set_option maxRecDepth 20000 in
set_option maxHeartbeats 1000000 in
theorem sstoreok_any (u v q : Value) (xs ys : List Int) (h : Hd) (w : World) (hu : Reads w u xs) (hv : Reads w v ys) (hq : Reads w q h.ks) (gx : xs.length ≤ 1099511627776) (gy : ys.length ≤ 1099511627776) (gk : h.ks.length ≤ 1099511627776) :
    Calls Try.prog 16 #[SRV u v q h] w fun e w' => e = .returned (.bool (Sr.ok ⟨xs, ys, h⟩)) ∧ Below w.heap.size w w' := by
  have B1 : Hid (Below w.heap.size w (w.alloc (.cells (srA u v q h) 30))) := (Below.refl _ _).alloc (Nat.le_refl _) _
  have P1 : Hid (StB (w.alloc (.cells (srA u v q h) 30)) w.heap.size 30 (srA u v q h)) := StB.new _ _ _
  have c1 := sdiskOk_any u v xs ys _ (hu.below B1.out (Nat.le_refl _)) (hv.below B1.out (Nat.le_refl _)) gx gy
  have c2 : Hid (∀ wx, Below w.heap.size w wx → Calls Try.prog 42 #[HV q h] wx fun e w' => e = .returned (.bool h.ok) ∧ Below wx.heap.size wx w') := fun wx b => sholdok_any q h wx (hq.below b (Nat.le_refl _)) gk
  have HE : Hid (Sr.ok ⟨xs, ys, h⟩ = (bothOk xs ys && h.ok)) := rfl
  obtain ⟨r, hr⟩ : ∃ r, r = Sr.ok ⟨xs, ys, h⟩ := ⟨_, rfl⟩
  rw [← hr] at HE ⊢
  obtain ⟨b, hb⟩ : ∃ b, b = bothOk xs ys := ⟨_, rfl⟩
  obtain ⟨o, ho⟩ : ∃ o, o = h.ok := ⟨_, rfl⟩
  rw [← hb, ← ho] at HE
  rw [← hb] at c1
  rw [← ho] at c2
  obtain ⟨uo, uc, rfl⟩ := reads_form hu
  obtain ⟨vo, vc, rfl⟩ := reads_form hv
  obtain ⟨qo, qc, rfl⟩ := reads_form hq
  clear hu hv hq gx gy gk hr hb ho
  unfold SRV srA at *
  unfold HV hdA at c2
  go_enter Try.func16, Try.ntmps16
  go_wp2_with fail
  refine c1.mono ?_
  rintro e w2 ⟨rfl, b2⟩
  have B2 : Hid (Below w.heap.size w w2) := B1.out.trans (b2.mono B1.out.size)
  have P2 := P1.out.below b2
  have k2 := P2.cell 2 rfl
  have k3 := P2.cell 3 rfl
  have k4 := P2.cell 4 rfl
  have k5 := P2.cell 5 rfl
  clear b2 c1 B1 P1 P2
  cases b with
  | false =>
    go_wp2
    go_ret
    exact ⟨ret_bool (by rw [HE.out]; rfl), B2.out⟩
  | true =>
    go_wp2_with fail
    refine (c2.out _ B2.out).mono ?_
    rintro e w3 ⟨rfl, b3⟩
    have B3 : Hid (Below w.heap.size w w3) := B2.out.trans (b3.mono B2.out.size)
    clear b3 k2 k3 k4 k5 c2
    go_wp2
    go_ret
    exact ⟨ret_bool (by rw [HE.out]; simp), B3.out⟩
end Go.Proofs.Ytpdggofaobmnlaa
/- Are two lists the same, by the model's l1Same? -/
namespace Go.Proofs.Ytpdggofaobmnlaa
open Go.ChangeShapes Go.WideShapes Go.ChangeAt Go.RowKit

set_option maxRecDepth 20000 in
set_option maxHeartbeats 400000 in
theorem ssame_any (va vb : Value) (xs ys : List Int) (w : World) (ha : Reads w va xs) (hb : Reads w vb ys) (hbig : xs.length ≤ 1099511627776) :
    Calls Try.prog 75 #[va, vb] w fun e w' => e = .returned (.bool (decide (xs = ys))) ∧ ∃ n, w' = w.drewN n := by
  obtain ⟨ao, ca, rfl, hla, ⟨hma, -⟩, hca⟩ := ha
  obtain ⟨bo, cb, rfl, hlb, ⟨hmb, -⟩, hcb⟩ := hb
  by_cases hlen : xs.length = ys.length
  · obtain ⟨n, hn⟩ : ∃ n, n = xs.length := ⟨_, rfl⟩
    rw [← hlen] at hlb hcb ⊢
    rw [← hn] at hla hlb hca hcb hbig ⊢
    have HN : Hid (n = xs.length ∧ n = ys.length) := ⟨hn, hn.trans hlen⟩
    clear hn hlen hma hmb
    have hcell : ∀ j, j < n → ∃ b off b' off', ao = some ⟨b, off, none⟩ ∧ bo = some ⟨b', off', none⟩ ∧ w.cell? ⟨b, off + j, none⟩ = some (.int .i64 (xs.getD j 0)) ∧ w.cell? ⟨b', off' + j, none⟩ = some (.int .i64 (ys.getD j 0)) := by
      intro j hj
      rcases hca with e | ⟨b, off, e, h4⟩
      · have := HN.out.1; rw [e] at this; simp at this; omega
      · rcases hcb with e' | ⟨b', off', e', h4'⟩
        · have := HN.out.2; rw [e'] at this; simp at this; omega
        · exact ⟨b, off, b', off', e, e', h4 j hj, h4' j hj⟩
    clear hca hcb
    go_enter Try.func75, Try.ntmps75
    go_wp2
    go_loopw [5] (fun i wr => ∃ j q : Nat, j ≤ n ∧ i = .int .i64 j ∧ Hid (xs.take j = ys.take j) ∧ wr = w.drewN q) (fun i _ => n - (intOf i).toNat)
    case atStart => exact ⟨0, 0, Nat.zero_le _, rfl, by simp [Hid], rfl⟩
    case round =>
      obtain ⟨j, q, hj, rfl, ht, rfl⟩ := hrel
      by_cases hlt : (j : Int) < (n : Int)
      · obtain ⟨b, off, b', off', rfl, rfl, hc1, hc2⟩ := hcell j (by omega)
        clear hcell
        obtain ⟨x, hx⟩ : ∃ x, x = xs.getD j 0 := ⟨_, rfl⟩
        obtain ⟨y, hy⟩ : ∃ y, y = ys.getD j 0 := ⟨_, rfl⟩
        rw [← hx] at hc1
        rw [← hy] at hc2
        have HX : Hid (x = xs.getD j 0 ∧ y = ys.getD j 0) := ⟨hx, hy⟩
        clear hx hy
        by_cases hxy : (x != y) = true
        · go_wp2
          go_quiet (fail)
          go_wp2
          go_ret
          exact ⟨ret_bool (by
            have h1 : x ≠ y := by simpa using hxy
            have h2 : xs ≠ ys := ne_of_getD (j := j) (by rw [← HX.out.1, ← HX.out.2]; exact h1)
            simp [h2]), ⟨_, World.drewN_drewN ..⟩⟩
        · go_wp2
          go_quiet (fail)
          go_wp2
          go_roundw
          case rel =>
            have h1 : x = y := by simpa using hxy
            exact ⟨j + 1, _, by omega, by go_num, take_step ht (by have := HN.out.1; omega) (by have := HN.out.2; omega) (by rw [← HX.out.1, ← HX.out.2]; exact h1), rfl⟩
          case measure => simp [intOf]; omega
      · go_wp2
        go_ret
        exact ⟨ret_bool (by
          have h1 : xs = ys := by
            have h2 := ht.out
            rw [List.take_of_length_le (by have := HN.out.1; omega), List.take_of_length_le (by have := HN.out.2; omega)] at h2
            exact h2
          simp [h1]), ⟨_, rfl⟩⟩
  · have hne : ((xs.length : Int) != (ys.length : Int)) = true := by simp; omega
    have he : decide (xs = ys) = false := by
      have : xs ≠ ys := fun h => hlen (by rw [h])
      simp [this]
    rw [he]
    clear he hlen hca hcb
    go_enter Try.func75, Try.ntmps75
    go_wp2
    go_ret
    exact ⟨rfl, 0, rfl⟩
end Go.Proofs.Ytpdggofaobmnlaa
