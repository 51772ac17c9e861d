/- The program's store: two lists held against each other (slices.Equal), a holding anew, StoreOk. -/
import Derived.Test.YtpdggofaobmnlaaM16
import Derived.Test.YtpdggofaobmnlaaM27
import Derived.Test.YtpdggofaobmnlaaM29
namespace Go.Proofs.Ytpdggofaobmnlaa
open Go.ChangeShapes Go.WideShapes Go.ChangeAt Go.RowKit

set_option maxRecDepth 20000 in
set_option maxHeartbeats 400000 in
theorem iequal_any (va vb : Value) (xs ys : List Int) (w : World) (ha : Reads w va xs) (hb : Reads w vb ys) (hbig : xs.length ≤ 1099511627776) :
    Calls Try.prog 74 #[va, vb] w fun e w' => e = .returned (.bool (decide (xs = ys))) ∧ ∃ n, w' = w.drewN n := by
  obtain ⟨ao, ca, rfl, hla, ⟨hma, -⟩, hca⟩ := ha
  obtain ⟨bo, cb, rfl, hlb, ⟨hmb, -⟩, hcb⟩ := hb
  by_cases hlen : xs.length = ys.length
  · obtain ⟨n, hn⟩ : ∃ n, n = xs.length := ⟨_, rfl⟩
    rw [← hlen] at hlb hcb ⊢
    rw [← hn] at hla hlb hca hcb hbig ⊢
    have HN : Hid (n = xs.length ∧ n = ys.length) := ⟨hn, hn.trans hlen⟩
    clear hn hlen hma hmb
    have hcell : ∀ j, j < n → ∃ b off b' off', ao = some ⟨b, off, none⟩ ∧ bo = some ⟨b', off', none⟩ ∧ w.cell? ⟨b, off + j, none⟩ = some (.int .i64 (xs.getD j 0)) ∧ w.cell? ⟨b', off' + j, none⟩ = some (.int .i64 (ys.getD j 0)) := by
      intro j hj
      rcases hca with e | ⟨b, off, e, h4⟩
      · have := HN.out.1; rw [e] at this; simp at this; omega
      · rcases hcb with e' | ⟨b', off', e', h4'⟩
        · have := HN.out.2; rw [e'] at this; simp at this; omega
        · exact ⟨b, off, b', off', e, e', h4 j hj, h4' j hj⟩
    clear hca hcb
    go_enter Try.func74, Try.ntmps74
    go_wp2
    go_loopw [13] (fun i wr => ∃ j q : Nat, j ≤ n ∧ i = .int .i64 j ∧ Hid (xs.take j = ys.take j) ∧ wr = w.drewN q) (fun i _ => n - (intOf i).toNat)
    case atStart => exact ⟨0, 0, Nat.zero_le _, rfl, by simp [Hid], rfl⟩
    case round =>
      obtain ⟨j, q, hj, rfl, ht, rfl⟩ := hrel
      by_cases hlt : (j : Int) < (n : Int)
      · obtain ⟨b, off, b', off', rfl, rfl, hc1, hc2⟩ := hcell j (by omega)
        clear hcell
        obtain ⟨x, hx⟩ : ∃ x, x = xs.getD j 0 := ⟨_, rfl⟩
        obtain ⟨y, hy⟩ : ∃ y, y = ys.getD j 0 := ⟨_, rfl⟩
        rw [← hx] at hc1
        rw [← hy] at hc2
        have HX : Hid (x = xs.getD j 0 ∧ y = ys.getD j 0) := ⟨hx, hy⟩
        clear hx hy
        by_cases hxy : (x != y) = true
        · go_wp2
          go_quiet (fail)
          go_wp2
          go_ret
          exact ⟨ret_bool (by
            have h1 : x ≠ y := by simpa using hxy
            have h2 : xs ≠ ys := ne_of_getD (j := j) (by rw [← HX.out.1, ← HX.out.2]; exact h1)
            simp [h2]), ⟨_, World.drewN_drewN ..⟩⟩
        · go_wp2
          go_quiet (fail)
          go_wp2
          go_roundw
          case rel =>
            have h1 : x = y := by simpa using hxy
            exact ⟨j + 1, _, by omega, by go_num, take_step ht (by have := HN.out.1; omega) (by have := HN.out.2; omega) (by rw [← HX.out.1, ← HX.out.2]; exact h1), rfl⟩
          case measure => simp [intOf]; omega
      · go_wp2
        go_ret
        exact ⟨ret_bool (by
          have h1 : xs = ys := by
            have h2 := ht.out
            rw [List.take_of_length_le (by have := HN.out.1; omega), List.take_of_length_le (by have := HN.out.2; omega)] at h2
            exact h2
          simp [h1]), ⟨_, rfl⟩⟩
  · have hne : ((xs.length : Int) != (ys.length : Int)) = true := by simp; omega
    have he : decide (xs = ys) = false := by
      have : xs ≠ ys := fun h => hlen (by rw [h])
      simp [this]
    rw [he]
    clear he hlen hca hcb
    go_enter Try.func74, Try.ntmps74
    go_wp2
    go_ret
    exact ⟨rfl, 0, rfl⟩

set_option maxRecDepth 20000 in
set_option maxHeartbeats 1000000 in
theorem ifreshH_any (v : Value) (h : Hd) (w : World) (hr : Reads w v h.ks) (h1 : 1 ≤ h.ks.length) (hl : h.ks.length ≤ 1099511627776) :
    Calls Try.prog 33 #[HV v h] w fun e w' => ∃ u, e = .returned (HV u h) ∧ Own w' w.heap.size u h.ks ∧ Below w.heap.size w w' := by
  obtain ⟨ao, cap, rfl⟩ := reads_form hr
  obtain ⟨w1, hw1⟩ : ∃ w1, w1 = (w.alloc (.cells (hdA (.slice ao h.ks.length cap) h) 28)).alloc (.cells #[.slice none 0 0, .int .i64 0, .int .i64 0, .int .i64 0] 28) := ⟨_, rfl⟩
  have HB : Hid (Bx w w1 (.slice ao h.ks.length cap) h) := by rw [hw1]; exact Bx.start hr
  have c1 := fresh_any (.slice ao h.ks.length cap) h.ks w1 HB.out.2.2.2.2 h1 hl
  have HW : Hid (w1 = (w.alloc (.cells #[.slice ao h.ks.length cap, .int .i64 h.kd, .int .i64 h.ho, .int .i64 h.tu] 28)).alloc (.cells #[.slice none 0 0, .int .i64 0, .int .i64 0, .int .i64 0] 28)) := hw1
  clear hw1 hr hl h1
  unfold HV
  conv in hdA (.slice ao h.ks.length cap) h => unfold hdA
  go_enter Try.func33, Try.ntmps33
  go_wp2_with fail
  rw [← HW.out]
  clear HW
  refine c1.mono ?_
  rintro e w2 ⟨u, rfl, o2, b2⟩
  have D2 : Bx w w2 (.slice ao h.ks.length cap) h := HB.out.next b2
  obtain ⟨ab, cb, rfl⟩ := reads_form o2.reads
  have k0 : w2.cell? ⟨w.heap.size, 0, none⟩ = some (.slice ao h.ks.length cap) := D2.1.cell 0 rfl
  have f0 := D2.1.frozen 0
  have G := grownSet w2 w.heap.size 0 (.slice ab h.ks.length cb)
  have zq : StB (w2.setCell ⟨w.heap.size, 0, none⟩ (.slice ab h.ks.length cb)) w.heap.size 28 (hdA (.slice ab h.ks.length cb) h) := D2.1.put 0 _ rfl
  have zz : StB (w2.setCell ⟨w.heap.size, 0, none⟩ (.slice ab h.ks.length cb)) (w.heap.size + 1) 28 #[.slice none 0 0, .int .i64 0, .int .i64 0, .int .i64 0] := D2.2.1.kept G (by intro e; have := Option.some.inj e; omega)
  have HF : Hid (Own (w2.setCell ⟨w.heap.size, 0, none⟩ (.slice ab h.ks.length cb)) w1.heap.size (.slice ab h.ks.length cb) h.ks ∧ Below w.heap.size w (w2.setCell ⟨w.heap.size, 0, none⟩ (.slice ab h.ks.length cb)) ∧ w.heap.size + 2 ≤ w1.heap.size) := by
    refine ⟨o2.keptLt G (by have := HB.out.2.2.2.1; omega), D2.2.2.1.setCell (Nat.le_refl _) _, HB.out.2.2.2.1⟩
  clear D2 G o2 b2 HB c1
  go_wp2_with (first | (refine wpList_getS Try.isH rfl _ rfl w.heap.size rfl (hdA (.slice ab h.ks.length cb) h) rfl zq ?_) | (refine wpList_putS Try.isH rfl _ _ rfl (w.heap.size + 1) (hdA (.slice ab h.ks.length cb) h) #[.slice none 0 0, .int .i64 0, .int .i64 0, .int .i64 0] rfl rfl rfl rfl (hdA_one _ rfl) zz ?_; intro we se ge))
  refine bodyPost_ret (results_S Try.isH rfl _ _ (w.heap.size + 1) _ rfl rfl se) rfl ?_
  exact ⟨_, rfl, (HF.out.1.keptLt ge (by have := HF.out.2.2; omega)).mono (by have := HF.out.2.2; omega), HF.out.2.1.grown ge HF.out.2.1.size (fun x e => by cases e; omega)⟩

set_option maxRecDepth 20000 in
set_option maxHeartbeats 1000000 in
theorem istoreok_any (u v q : Value) (xs ys : List Int) (h : Hd) (w : World) (hu : Reads w u xs) (hv : Reads w v ys) (hq : Reads w q h.ks) (gx : xs.length ≤ 1099511627776) (gy : ys.length ≤ 1099511627776) (gk : h.ks.length ≤ 1099511627776) :
    Calls Try.prog 18 #[SRV u v q h] w fun e w' => e = .returned (.bool (Sr.ok ⟨xs, ys, h⟩)) ∧ Below w.heap.size w w' := by
  have B1 : Hid (Below w.heap.size w (w.alloc (.cells (srA u v q h) 30))) := (Below.refl _ _).alloc (Nat.le_refl _) _
  have P1 : Hid (StB (w.alloc (.cells (srA u v q h) 30)) w.heap.size 30 (srA u v q h)) := StB.new _ _ _
  have c1 := diskOk_any u v xs ys _ (hu.below B1.out (Nat.le_refl _)) (hv.below B1.out (Nat.le_refl _)) gx gy
  have c2 : Hid (∀ wx, Below w.heap.size w wx → Calls Try.prog 45 #[HV q h] wx fun e w' => e = .returned (.bool h.ok) ∧ Below wx.heap.size wx w') := fun wx b => iholdok_any q h wx (hq.below b (Nat.le_refl _)) gk
  have HE : Hid (Sr.ok ⟨xs, ys, h⟩ = (bothOk xs ys && h.ok)) := rfl
  obtain ⟨r, hr⟩ : ∃ r, r = Sr.ok ⟨xs, ys, h⟩ := ⟨_, rfl⟩
  rw [← hr] at HE ⊢
  obtain ⟨b, hb⟩ : ∃ b, b = bothOk xs ys := ⟨_, rfl⟩
  obtain ⟨o, ho⟩ : ∃ o, o = h.ok := ⟨_, rfl⟩
  rw [← hb, ← ho] at HE
  rw [← hb] at c1
  rw [← ho] at c2
  obtain ⟨uo, uc, rfl⟩ := reads_form hu
  obtain ⟨vo, vc, rfl⟩ := reads_form hv
  obtain ⟨qo, qc, rfl⟩ := reads_form hq
  clear hu hv hq gx gy gk hr hb ho
  unfold SRV srA at *
  unfold HV hdA at c2
  go_enter Try.func18, Try.ntmps18
  go_wp2_with fail
  refine c1.mono ?_
  rintro e w2 ⟨rfl, b2⟩
  have B2 : Hid (Below w.heap.size w w2) := B1.out.trans (b2.mono B1.out.size)
  have P2 := P1.out.below b2
  have k2 := P2.cell 2 rfl
  have k3 := P2.cell 3 rfl
  have k4 := P2.cell 4 rfl
  have k5 := P2.cell 5 rfl
  clear b2 c1 B1 P1 P2
  cases b with
  | false =>
    go_wp2
    go_ret
    exact ⟨ret_bool (by rw [HE.out]; rfl), B2.out⟩
  | true =>
    go_wp2_with fail
    refine (c2.out _ B2.out).mono ?_
    rintro e w3 ⟨rfl, b3⟩
    have B3 : Hid (Below w.heap.size w w3) := B2.out.trans (b3.mono B2.out.size)
    clear b3 k2 k3 k4 k5 c2
    go_wp2
    go_ret
    exact ⟨ret_bool (by rw [HE.out]; simp), B3.out⟩
end Go.Proofs.Ytpdggofaobmnlaa
