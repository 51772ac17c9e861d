/- The program's store: two lists held against each other (slices.Equal), a holding anew, StoreOk. -/
import Derived.Test.YtjbfncjdedigdaaM18
import Derived.Test.YtjbfncjdedigdaaM20
import Derived.Test.YtjbfncjdedigdaaM2
import Derived.Test.YtjbfncjdedigdaaM16
import Derived.ArgAppend
import Derived.Test.YtjbfncjdedigdaaM4
import Derived.Test.YtjbfncjdedigdaaMem
namespace Go.Proofs.Ytjbfncjdedigdaa
open Go.ChangeShapes Go.WideShapes Go.ChangeAt Go.RowKit

set_option maxRecDepth 20000 in
set_option maxHeartbeats 400000 in
theorem iequal_any (va vb : Value) (xs ys : List Int) (w : World) (ha : Reads w va xs) (hb : Reads w vb ys) (hbig : xs.length ≤ 1099511627776) :
    Calls Try.prog 85 #[va, vb] w fun e w' => e = .returned (.bool (decide (xs = ys))) ∧ ∃ n, w' = w.drewN n := by
  obtain ⟨ao, ca, rfl, hla, ⟨hma, -⟩, hca⟩ := ha
  obtain ⟨bo, cb, rfl, hlb, ⟨hmb, -⟩, hcb⟩ := hb
  by_cases hlen : xs.length = ys.length
  · obtain ⟨n, hn⟩ : ∃ n, n = xs.length := ⟨_, rfl⟩
    rw [← hlen] at hlb hcb ⊢
    rw [← hn] at hla hlb hca hcb hbig ⊢
    have HN : Hid (n = xs.length ∧ n = ys.length) := ⟨hn, hn.trans hlen⟩
    clear hn hlen hma hmb
    have hcell : ∀ j, j < n → ∃ b off b' off', ao = some ⟨b, off, none⟩ ∧ bo = some ⟨b', off', none⟩ ∧ w.cell? ⟨b, off + j, none⟩ = some (.int .i64 (xs.getD j 0)) ∧ w.cell? ⟨b', off' + j, none⟩ = some (.int .i64 (ys.getD j 0)) := by
      intro j hj
      rcases hca with e | ⟨b, off, e, h4⟩
      · have := HN.out.1; rw [e] at this; simp at this; omega
      · rcases hcb with e' | ⟨b', off', e', h4'⟩
        · have := HN.out.2; rw [e'] at this; simp at this; omega
        · exact ⟨b, off, b', off', e, e', h4 j hj, h4' j hj⟩
    clear hca hcb
    go_enter Try.func85, Try.ntmps85
    go_wp2
    go_loopw [13] (fun i wr => ∃ j q : Nat, j ≤ n ∧ i = .int .i64 j ∧ Hid (xs.take j = ys.take j) ∧ wr = w.drewN q) (fun i _ => n - (intOf i).toNat)
    case atStart => exact ⟨0, 0, Nat.zero_le _, rfl, by simp [Hid], rfl⟩
    case round =>
      obtain ⟨j, q, hj, rfl, ht, rfl⟩ := hrel
      by_cases hlt : (j : Int) < (n : Int)
      · obtain ⟨b, off, b', off', rfl, rfl, hc1, hc2⟩ := hcell j (by omega)
        clear hcell
        obtain ⟨x, hx⟩ : ∃ x, x = xs.getD j 0 := ⟨_, rfl⟩
        obtain ⟨y, hy⟩ : ∃ y, y = ys.getD j 0 := ⟨_, rfl⟩
        rw [← hx] at hc1
        rw [← hy] at hc2
        have HX : Hid (x = xs.getD j 0 ∧ y = ys.getD j 0) := ⟨hx, hy⟩
        clear hx hy
        by_cases hxy : (x != y) = true
        · go_wp2
          go_quiet (fail)
          go_wp2
          go_ret
          exact ⟨ret_bool (by
            have h1 : x ≠ y := by simpa using hxy
            have h2 : xs ≠ ys := ne_of_getD (j := j) (by rw [← HX.out.1, ← HX.out.2]; exact h1)
            simp [h2]), ⟨_, World.drewN_drewN ..⟩⟩
        · go_wp2
          go_quiet (fail)
          go_wp2
          go_roundw
          case rel =>
            have h1 : x = y := by simpa using hxy
            exact ⟨j + 1, _, by omega, by go_num, take_step ht (by have := HN.out.1; omega) (by have := HN.out.2; omega) (by rw [← HX.out.1, ← HX.out.2]; exact h1), rfl⟩
          case measure => simp [intOf]; omega
      · go_wp2
        go_ret
        exact ⟨ret_bool (by
          have h1 : xs = ys := by
            have h2 := ht.out
            rw [List.take_of_length_le (by have := HN.out.1; omega), List.take_of_length_le (by have := HN.out.2; omega)] at h2
            exact h2
          simp [h1]), ⟨_, rfl⟩⟩
  · have hne : ((xs.length : Int) != (ys.length : Int)) = true := by simp; omega
    have he : decide (xs = ys) = false := by
      have : xs ≠ ys := fun h => hlen (by rw [h])
      simp [this]
    rw [he]
    clear he hlen hca hcb
    go_enter Try.func85, Try.ntmps85
    go_wp2
    go_ret
    exact ⟨rfl, 0, rfl⟩

set_option maxRecDepth 20000 in
set_option maxHeartbeats 1000000 in
theorem ifreshH_any (v : Value) (h : Hd) (w : World) (hr : Reads w v h.ks) (h1 : 1 ≤ h.ks.length) (hl : h.ks.length ≤ 1099511627776) :
    Calls Try.prog 54 #[HV v h] w fun e w' => ∃ u, e = .returned (HV u h) ∧ Own w' w.heap.size u h.ks ∧ Below w.heap.size w w' := by
  obtain ⟨ao, cap, rfl⟩ := reads_form hr
  obtain ⟨w1, hw1⟩ : ∃ w1, w1 = (w.alloc (.cells (hdA (.slice ao h.ks.length cap) h) 33)).alloc (.cells #[.slice none 0 0, .int .i64 0, .int .i64 0, .int .i64 0] 33) := ⟨_, rfl⟩
  have HB : Hid (Bx w w1 (.slice ao h.ks.length cap) h) := by rw [hw1]; exact Bx.start hr
  have c1 := fresh_any (.slice ao h.ks.length cap) h.ks w1 HB.out.2.2.2.2 h1 hl
  have HW : Hid (w1 = (w.alloc (.cells #[.slice ao h.ks.length cap, .int .i64 h.kd, .int .i64 h.ho, .int .i64 h.tu] 33)).alloc (.cells #[.slice none 0 0, .int .i64 0, .int .i64 0, .int .i64 0] 33)) := hw1
  clear hw1 hr hl h1
  unfold HV
  conv in hdA (.slice ao h.ks.length cap) h => unfold hdA
  go_enter Try.func54, Try.ntmps54
  go_wp2_with fail
  rw [← HW.out]
  clear HW
  refine c1.mono ?_
  rintro e w2 ⟨u, rfl, o2, b2⟩
  have D2 : Bx w w2 (.slice ao h.ks.length cap) h := HB.out.next b2
  obtain ⟨ab, cb, rfl⟩ := reads_form o2.reads
  have k0 : w2.cell? ⟨w.heap.size, 0, none⟩ = some (.slice ao h.ks.length cap) := D2.1.cell 0 rfl
  have f0 := D2.1.frozen 0
  have G := grownSet w2 w.heap.size 0 (.slice ab h.ks.length cb)
  have zq : StB (w2.setCell ⟨w.heap.size, 0, none⟩ (.slice ab h.ks.length cb)) w.heap.size 33 (hdA (.slice ab h.ks.length cb) h) := D2.1.put 0 _ rfl
  have zz : StB (w2.setCell ⟨w.heap.size, 0, none⟩ (.slice ab h.ks.length cb)) (w.heap.size + 1) 33 #[.slice none 0 0, .int .i64 0, .int .i64 0, .int .i64 0] := D2.2.1.kept G (by intro e; have := Option.some.inj e; omega)
  have HF : Hid (Own (w2.setCell ⟨w.heap.size, 0, none⟩ (.slice ab h.ks.length cb)) w1.heap.size (.slice ab h.ks.length cb) h.ks ∧ Below w.heap.size w (w2.setCell ⟨w.heap.size, 0, none⟩ (.slice ab h.ks.length cb)) ∧ w.heap.size + 2 ≤ w1.heap.size) := by
    refine ⟨o2.keptLt G (by have := HB.out.2.2.2.1; omega), D2.2.2.1.setCell (Nat.le_refl _) _, HB.out.2.2.2.1⟩
  clear D2 G o2 b2 HB c1
  go_wp2_with (first | (refine wpList_getS Try.isH rfl _ rfl w.heap.size rfl (hdA (.slice ab h.ks.length cb) h) rfl zq ?_) | (refine wpList_putS Try.isH rfl _ _ rfl (w.heap.size + 1) (hdA (.slice ab h.ks.length cb) h) #[.slice none 0 0, .int .i64 0, .int .i64 0, .int .i64 0] rfl rfl rfl rfl (hdA_one _ rfl) zz ?_; intro we se ge))
  refine bodyPost_ret (results_S Try.isH rfl _ _ (w.heap.size + 1) _ rfl rfl se) rfl ?_
  exact ⟨_, rfl, (HF.out.1.keptLt ge (by have := HF.out.2.2; omega)).mono (by have := HF.out.2.2; omega), HF.out.2.1.grown ge HF.out.2.1.size (fun x e => by cases e; omega)⟩
end Go.Proofs.Ytjbfncjdedigdaa
/- The program's stores held against each other: disksAlike, holdingsAlike, Alike. -/
namespace Go.Proofs.Ytjbfncjdedigdaa
open Go.ChangeShapes Go.WideShapes Go.ChangeAt Go.RowKit

set_option maxRecDepth 20000 in
set_option maxHeartbeats 2000000 in
theorem iholdsAlike_any (q k : Value) (h j : Hd) (w : World) (hq : Reads w q h.ks) (hk : Reads w k j.ks) (gk : h.ks.length ≤ 1099511627776) :
    Calls Try.prog 73 #[HV q h, HV k j] w fun e w' => e = .returned (.bool (h.eqB j)) ∧ Below w.heap.size w w' := by
  obtain ⟨w1, hw1⟩ : ∃ w1, w1 = (w.alloc (.cells (hdA q h) 33)).alloc (.cells (hdA k j) 33) := ⟨_, rfl⟩
  have b1 : Below w.heap.size w w1 := by rw [hw1]; exact ((Below.refl _ _).alloc (Nat.le_refl _) _).alloc (by simp) _
  have S1 : Hid (StB w1 w.heap.size 33 (hdA q h) ∧ StB w1 (w.heap.size + 1) 33 (hdA k j) ∧ Below w.heap.size w w1) := by
    have a2 := StB.new (w.alloc (.cells (hdA q h) 33)) 33 (hdA k j)
    simp only [World.size_alloc] at a2
    exact ⟨by rw [hw1]; exact (StB.new w _ _).alloc _, by rw [hw1]; exact a2, b1⟩
  have C3 : Hid (∀ wx, Below w.heap.size w wx → Calls Try.prog 85 #[q, k] wx fun e w' => e = .returned (.bool (decide (h.ks = j.ks))) ∧ ∃ n, w' = wx.drewN n) := fun wx e => iequal_any q k h.ks j.ks wx (hq.below e (Nat.le_refl _)) (hk.below e (Nat.le_refl _)) gk
  have HE : Hid (h.eqB j = (decide (h.ks = j.ks) && decide (h.kd = j.kd) && decide (h.ho = j.ho) && decide (h.tu = j.tu))) := rfl
  obtain ⟨r, hr⟩ : ∃ r, r = h.eqB j := ⟨_, rfl⟩
  rw [← hr] at HE ⊢
  obtain ⟨e3, he3⟩ : ∃ e3, e3 = decide (h.ks = j.ks) := ⟨_, rfl⟩
  rw [← he3] at HE C3
  obtain ⟨qo, qc, rfl⟩ := reads_form hq
  obtain ⟨ko, kc, rfl⟩ := reads_form hk
  clear hq hk gk hr he3 b1
  unfold HV hdA at *
  go_enter Try.func73, Try.ntmps73
  go_upto_region 1 with fail
  rw [← hw1]
  clear hw1
  have k2 : w1.cell? ⟨w.heap.size, 0, none⟩ = some (.slice qo h.ks.length qc) := S1.out.1.cell 0 rfl
  have l2 : w1.cell? ⟨w.heap.size + 1, 0, none⟩ = some (.slice ko j.ks.length kc) := S1.out.2.1.cell 0 rfl
  go_wp2_with fail
  refine (C3.out _ S1.out.2.2).mono ?_
  rintro e w4 ⟨rfl, hw4⟩
  have S4 : Hid (StB w4 w.heap.size 33 #[.slice qo h.ks.length qc, .int .i64 h.kd, .int .i64 h.ho, .int .i64 h.tu] ∧ StB w4 (w.heap.size + 1) 33 #[.slice ko j.ks.length kc, .int .i64 j.kd, .int .i64 j.ho, .int .i64 j.tu] ∧ Below w.heap.size w w4) := by
    obtain ⟨n, rfl⟩ := hw4
    exact ⟨S1.out.1, S1.out.2.1, below_drewN S1.out.2.2 n⟩
  have B4 : Hid (Below w.heap.size w w4) := S4.out.2.2
  clear S1 hw4 k2 l2 C3
  have k3 : w4.cell? ⟨w.heap.size, 1, none⟩ = some (.int .i64 h.kd) := S4.out.1.cell 1 rfl
  have k4 : w4.cell? ⟨w.heap.size, 2, none⟩ = some (.int .i64 h.ho) := S4.out.1.cell 2 rfl
  have k5 : w4.cell? ⟨w.heap.size, 3, none⟩ = some (.int .i64 h.tu) := S4.out.1.cell 3 rfl
  have l3 : w4.cell? ⟨w.heap.size + 1, 1, none⟩ = some (.int .i64 j.kd) := S4.out.2.1.cell 1 rfl
  have l4 : w4.cell? ⟨w.heap.size + 1, 2, none⟩ = some (.int .i64 j.ho) := S4.out.2.1.cell 2 rfl
  have l5 : w4.cell? ⟨w.heap.size + 1, 3, none⟩ = some (.int .i64 j.tu) := S4.out.2.1.cell 3 rfl
  clear S4
  cases e3 with
  | false =>
    have HR : Hid (r = false) := by rw [Hid, HE.out]; rfl
    clear HE
    go_wp2
    go_ret
    exact ⟨ret_bool (by rw [HR.out]), B4.out⟩
  | true =>
    replace HE : Hid (r = (decide (h.kd = j.kd) && decide (h.ho = j.ho) && decide (h.tu = j.tu))) := by rw [Hid, HE.out]; simp
    obtain ⟨n3, hn3⟩ : ∃ n3, n3 = h.kd := ⟨_, rfl⟩
    obtain ⟨n4, hn4⟩ : ∃ n4, n4 = h.ho := ⟨_, rfl⟩
    obtain ⟨n5, hn5⟩ : ∃ n5, n5 = h.tu := ⟨_, rfl⟩
    obtain ⟨m3, hm3⟩ : ∃ m3, m3 = j.kd := ⟨_, rfl⟩
    obtain ⟨m4, hm4⟩ : ∃ m4, m4 = j.ho := ⟨_, rfl⟩
    obtain ⟨m5, hm5⟩ : ∃ m5, m5 = j.tu := ⟨_, rfl⟩
    rw [← hn3, ← hn4, ← hn5, ← hm3, ← hm4, ← hm5] at HE
    rw [← hn3] at k3
    rw [← hn4] at k4
    rw [← hn5] at k5
    rw [← hm3] at l3
    rw [← hm4] at l4
    rw [← hm5] at l5
    clear hn3 hn4 hn5 hm3 hm4 hm5
    by_cases h3 : n3 = m3
    · by_cases h4 : n4 = m4
      · have HR : Hid (r = decide (n5 = m5)) := by rw [Hid, HE.out]; simp [h3, h4]
        clear HE
        go_wp2
        go_ret
        exact ⟨ret_bool (by rw [HR.out]; by_cases e : n5 = m5 <;> simp [e]), B4.out⟩
      · have HR : Hid (r = false) := by rw [Hid, HE.out]; simp [h4]
        clear HE
        go_wp2
        go_ret
        exact ⟨ret_bool (by rw [HR.out]), B4.out⟩
    · have HR : Hid (r = false) := by rw [Hid, HE.out]; simp [h3]
      clear HE
      go_wp2
      go_ret
      exact ⟨ret_bool (by rw [HR.out]), B4.out⟩
end Go.Proofs.Ytjbfncjdedigdaa
/- The program's copy of a list (fresh). -/
namespace Go.Proofs.Ytjbfncjdedigdaa
open Go.ChangeShapes Go.WideShapes Go.ChangeAt Go.RowKit

set_option maxRecDepth 20000 in
set_option maxHeartbeats 1000000 in
theorem ifresh1_any (v : Value) (xs : List Int) (w : World) (h : Reads w v xs) (h1 : 1 ≤ xs.length) (hbig : xs.length ≤ 1099511627776) :
    Calls Try.prog 74 #[v] w fun e w' => ∃ u, e = .returned u ∧ Own w' w.heap.size u xs ∧ Below w.heap.size w w' := by
  obtain ⟨i0, hi, hz0, hz1, hz2⟩ := info_parts Try.infoI
  obtain ⟨ao, cap, rfl, hl, hm, hc⟩ := h
  obtain ⟨b, off, hab, hcell⟩ : ∃ b off, ao = some ⟨b, off, none⟩ ∧ ∀ j, j < xs.length → w.cell? ⟨b, off + j, none⟩ = some (.int .i64 (xs.getD j 0)) := by
    rcases hc with e | h
    · subst e; simp at h1
    · exact h
  subst hab
  have hnews : ∀ j u, (xs.map (Value.int .i64))[j]? = some u → w.cell? ((⟨b, off, none⟩ : Addr).add j) = some u := by
    intro j u hj
    have hlt : j < xs.length := by
      rcases Nat.lt_or_ge j xs.length with h | h
      · exact h
      · rw [List.getElem?_eq_none (by simpa using h)] at hj; cases hj
    rw [show (⟨b, off, none⟩ : Addr).add j = ⟨b, off + j, none⟩ by unfold Addr.add; split <;> simp_all]
    rw [hcell j hlt]
    simp [List.getD, hlt] at hj ⊢
    exact hj
  have hone : ∀ u ∈ xs.map (Value.int .i64), u.oneCell' = true := by
    intro u hu
    obtain ⟨x, _, rfl⟩ := List.mem_map.1 hu
    rfl
  obtain ⟨hm1, -⟩ := hm
  unfold maxLen at hm1
  obtain ⟨n, hn⟩ : ∃ n, n = xs.length := ⟨_, rfl⟩
  have hll : (xs.map (Value.int .i64)).length = n * 1 := by simp [hn]
  rw [← hn] at hbig hl h1 ⊢
  have HN : Hid (n = xs.length) := hn
  clear hn hc hcell
  go_enter Try.func74, Try.ntmps74
  go_wp2_with (at_builtin; refine wpList_append_grows _ rfl _ _ 31 rfl 2 i0 (.int .i64 0) 1 8 Try.underlying31 hi hz0 hz1 hz2 rfl (by decide) (some ⟨b, off, none⟩) 0 0 [] rfl (by intro e; cases e) (by simp) (by intro b' _ j u hj; simp at hj) ⟨b, off, none⟩ n cap (xs.map (Value.int .i64)) rfl hll hnews hone (by omega) (by unfold maxLen; omega) (by omega) ?_)
  intro v' w1 hown hgrow
  go_wp2_with fail
  go_ret
  refine ⟨_, rfl, ?_, (Below.refl w.heap.size w).grown hgrow (Nat.le_refl _) (fun k e => by cases e)⟩
  unfold Own
  rw [← HN.out]
  exact hown

set_option maxRecDepth 20000 in
set_option maxHeartbeats 1000000 in
theorem ifresh0_any (v : Value) (w : World) (h : Reads w v []) :
    Calls Try.prog 74 #[v] w fun e w' => ∃ u, e = .returned u ∧ Mine w' w.heap.size u [] ∧ Below w.heap.size w w' := by
  obtain ⟨ao, cap, rfl, hl, ⟨hm, hz⟩, -⟩ := h
  unfold maxLen at hm
  simp only [List.length_nil] at hl ⊢
  rcases ao with _ | ad
  · have e0 : cap = 0 := hz rfl
    subst e0
    clear hz hm hl
    go_enter Try.func74, Try.ntmps74
    go_wp2
    go_ret
    exact ⟨_, rfl, .inr ⟨rfl, _, _, rfl, Nat.zero_le _, fun _ => rfl⟩, Below.refl _ _⟩
  · clear hz
    go_enter Try.func74, Try.ntmps74
    go_wp2
    go_ret
    exact ⟨_, rfl, .inr ⟨rfl, _, _, rfl, Nat.zero_le _, fun _ => rfl⟩, Below.refl _ _⟩

theorem ifresh_any (v : Value) (xs : List Int) (w : World) (h : Reads w v xs) (hbig : xs.length ≤ 1099511627776) :
    Calls Try.prog 74 #[v] w fun e w' => ∃ u, e = .returned u ∧ Mine w' w.heap.size u xs ∧ Below w.heap.size w w' := by
  by_cases h1 : 1 ≤ xs.length
  · refine (ifresh1_any v xs w h h1 hbig).mono ?_
    rintro e w' ⟨u, rfl, o, b⟩
    exact ⟨u, rfl, .inl o, b⟩
  · have e0 : xs = [] := List.eq_nil_of_length_eq_zero (by omega)
    subst e0
    exact ifresh0_any v w h
end Go.Proofs.Ytjbfncjdedigdaa
/- idOk of the program. -/
namespace Go.Proofs.Ytjbfncjdedigdaa
open Go.ChangeShapes Go.WideShapes Go.ChangeAt Go.RowKit

set_option maxRecDepth 20000 in
set_option maxHeartbeats 400000 in
theorem iidok_any (x : Int) (w : World) :
    Calls Try.prog 67 #[.int .i64 x] w fun e w' => e = .returned (.bool (inI x 0 1)) ∧ w' = w := by
  by_cases h0 : 0 ≤ x
  · by_cases h1 : x ≤ 1
    · rw [show inI x 0 1 = true by simp [inI, h0, h1]]
      go_enter Try.func67, Try.ntmps67
      go_wp2
      go_ret
      exact ⟨ret_bool (by simp <;> omega), rfl⟩
    · rw [show inI x 0 1 = false by simp [inI]; omega]
      go_enter Try.func67, Try.ntmps67
      go_wp2
      go_ret
      exact ⟨ret_bool (by simp <;> omega), rfl⟩
  · rw [show inI x 0 1 = false by simp [inI]; omega]
    go_enter Try.func67, Try.ntmps67
    go_wp2
    go_ret
    exact ⟨ret_bool (by simp <;> omega), rfl⟩
end Go.Proofs.Ytjbfncjdedigdaa
