/- The program's heap of blocks, on: what container/heap's down and Pop make of it; the first one is taken. -/
import Derived.Test.YtelfpdjidppblaaIHeapB
namespace Go.Proofs.Ytelfpdjidppblaa
open Go.ChangeShapes Go.WideShapes Go.ChangeAt Go.RowKit

set_option maxRecDepth 20000 in
set_option maxHeartbeats 4000000 in
theorem hdown_any (v : Value) (l : List Int) (base g n : Nat) (w : World) (h : HpB w base g v l) (hn : l.length = n + 1) (hl : n ≤ 1000) :
    Calls Try.prog 96 #[hpIs g, .int .i64 0, .int .i64 n] w fun e w' => ∃ b, e = .returned (.bool b) ∧ ∃ m, HpB w' base g v m ∧ m.Perm l ∧ m.getD n 0 = l.getD n 0 ∧ Below base w w' := by
  have HH : Hid (HpB w base g v l) := h
  have HN : Hid (l.length = n + 1) := hn
  clear h hn
  unfold hpIs
  go_enter Try.func96, Try.ntmps96
  go_wp2
  go_loopw [7] (fun i wr => ∃ (k : Nat) (m : List Int), i = .int .i64 k ∧ k ≤ n ∧ Hid (HpB wr base g v m ∧ m.Perm l ∧ m.getD n 0 = l.getD n 0 ∧ Below base w wr)) (fun i _ => n - (intOf i).toNat)
  case atStart => exact ⟨0, l, rfl, Nat.zero_le _, HH.out, List.Perm.refl _, rfl, Below.refl _ _⟩
  case round =>
    obtain ⟨k, m, rfl, hk, HR⟩ := hrel
    have n1 := Try.nilLess ⟨g, 0, none⟩
    have n2 := Try.nilSwap ⟨g, 0, none⟩
    have hml : m.length = n + 1 := by rw [← HN.out]; exact HR.out.2.1.length_eq
    by_cases hend : (n : Int) ≤ 2 * (k : Int) + 1
    · clear n1 n2
      go_wp2
      go_ret
      exact ⟨_, rfl, m, HR.out⟩
    · have HS : Hid (HpB wr base g v m ∧ Below base w wr) := ⟨HR.out.1, HR.out.2.2.2⟩
      by_cases h2 : 2 * (k : Int) + 1 + 1 < (n : Int)
      · have c1 := hless_any v m (2 * k + 2) (2 * k + 1) wr HS.out.1.own.reads (by omega) (by omega)
        have m1 := Try.methLess HS.out.1.cell
        rw [show ((2 * k + 2 : Nat) : Int) = 2 * (k : Int) + 1 + 1 by omega, show ((2 * k + 1 : Nat) : Int) = 2 * (k : Int) + 1 by omega] at c1
        obtain ⟨b1, hb1⟩ : ∃ b1, b1 = decide (m.getD (2 * k + 2) 0 < m.getD (2 * k + 1) 0) := ⟨_, rfl⟩
        rw [← hb1] at c1
        clear hb1
        go_wp2_with fail
        refine c1.mono ?_
        rintro e wx ⟨rfl, q1, hq1⟩
        replace HS : Hid (HpB wx base g v m ∧ Below base w wx) := ⟨HS.out.1.drew hq1, by rw [hq1]; exact below_drewN HS.out.2 q1⟩
        clear c1 m1 hq1
        cases b1 with
        | true =>
          have c3 := hless_any v m (2 * k + 2) k wx HS.out.1.own.reads (by omega) (by omega)
          have m3 := Try.methLess HS.out.1.cell
          rw [show (((2 * k + 2) : Nat) : Int) = 2 * (k : Int) + 1 + 1 by omega] at c3
          obtain ⟨b3, hb3⟩ : ∃ b3, b3 = decide (m.getD (2 * k + 2) 0 < m.getD k 0) := ⟨_, rfl⟩
          rw [← hb3] at c3
          clear hb3
          go_wp2_with fail
          refine c3.mono ?_
          rintro e wy ⟨rfl, q3, hq3⟩
          have HT : Hid (HpB wy base g v m ∧ Below base w wy) := ⟨HS.out.1.drew hq3, by rw [hq3]; exact below_drewN HS.out.2 q3⟩
          clear c3 m3 hq3 HS
          cases b3 with
          | false =>
            go_wp2
            go_ret
            exact ⟨_, rfl, m, HT.out.1, HR.out.2.1, HR.out.2.2.1, HT.out.2⟩
          | true =>
            have c4 := hswap_any v m k (2 * k + 2) wy base HT.out.1.own (by omega) (by omega)
            rw [show (((2 * k + 2) : Nat) : Int) = 2 * (k : Int) + 1 + 1 by omega] at c4
            have m4 := Try.methSwap HT.out.1.cell
            go_wp2_with fail
            refine c4.mono ?_
            rintro e wz ⟨rfl, o4, g4⟩
            obtain ⟨z1, z2⟩ := HT.out.1.swap o4 g4
            have HZ : Hid (HpB wz base g v (swapL m k (2 * k + 2)) ∧ (swapL m k (2 * k + 2)).Perm l ∧ (swapL m k (2 * k + 2)).getD n 0 = l.getD n 0 ∧ Below base w wz) := by
              refine ⟨z1, (swapL_perm m k (2 * k + 2) (by omega) (by omega)).trans HR.out.2.1, ?_, HT.out.2.trans z2⟩
              rw [swapL_get m k (2 * k + 2) (by omega) (by omega) n (by omega), if_neg (by omega), if_neg (by omega)]
              exact HR.out.2.2.1
            clear c4 o4 g4 z1 z2 m4 HT
            go_wp2
            go_roundw
            case rel => exact ⟨2 * k + 2, _, by rw [show (((2 * k + 2) : Nat) : Int) = 2 * (k : Int) + 1 + 1 by omega], by omega, HZ.out⟩
            case measure => simp [intOf]; omega
        | false =>
          have c3 := hless_any v m (2 * k + 1) k wx HS.out.1.own.reads (by omega) (by omega)
          have m3 := Try.methLess HS.out.1.cell
          rw [show (((2 * k + 1) : Nat) : Int) = 2 * (k : Int) + 1 by omega] at c3
          obtain ⟨b3, hb3⟩ : ∃ b3, b3 = decide (m.getD (2 * k + 1) 0 < m.getD k 0) := ⟨_, rfl⟩
          rw [← hb3] at c3
          clear hb3
          go_wp2_with fail
          refine c3.mono ?_
          rintro e wy ⟨rfl, q3, hq3⟩
          have HT : Hid (HpB wy base g v m ∧ Below base w wy) := ⟨HS.out.1.drew hq3, by rw [hq3]; exact below_drewN HS.out.2 q3⟩
          clear c3 m3 hq3 HS
          cases b3 with
          | false =>
            go_wp2
            go_ret
            exact ⟨_, rfl, m, HT.out.1, HR.out.2.1, HR.out.2.2.1, HT.out.2⟩
          | true =>
            have c4 := hswap_any v m k (2 * k + 1) wy base HT.out.1.own (by omega) (by omega)
            rw [show (((2 * k + 1) : Nat) : Int) = 2 * (k : Int) + 1 by omega] at c4
            have m4 := Try.methSwap HT.out.1.cell
            go_wp2_with fail
            refine c4.mono ?_
            rintro e wz ⟨rfl, o4, g4⟩
            obtain ⟨z1, z2⟩ := HT.out.1.swap o4 g4
            have HZ : Hid (HpB wz base g v (swapL m k (2 * k + 1)) ∧ (swapL m k (2 * k + 1)).Perm l ∧ (swapL m k (2 * k + 1)).getD n 0 = l.getD n 0 ∧ Below base w wz) := by
              refine ⟨z1, (swapL_perm m k (2 * k + 1) (by omega) (by omega)).trans HR.out.2.1, ?_, HT.out.2.trans z2⟩
              rw [swapL_get m k (2 * k + 1) (by omega) (by omega) n (by omega), if_neg (by omega), if_neg (by omega)]
              exact HR.out.2.2.1
            clear c4 o4 g4 z1 z2 m4 HT
            go_wp2
            go_roundw
            case rel => exact ⟨2 * k + 1, _, by rw [show (((2 * k + 1) : Nat) : Int) = 2 * (k : Int) + 1 by omega], by omega, HZ.out⟩
            case measure => simp [intOf]; omega
      · skip
        have c3 := hless_any v m (2 * k + 1) k wr HS.out.1.own.reads (by omega) (by omega)
        have m3 := Try.methLess HS.out.1.cell
        rw [show (((2 * k + 1) : Nat) : Int) = 2 * (k : Int) + 1 by omega] at c3
        obtain ⟨b3, hb3⟩ : ∃ b3, b3 = decide (m.getD (2 * k + 1) 0 < m.getD k 0) := ⟨_, rfl⟩
        rw [← hb3] at c3
        clear hb3
        go_wp2_with fail
        refine c3.mono ?_
        rintro e wy ⟨rfl, q3, hq3⟩
        have HT : Hid (HpB wy base g v m ∧ Below base w wy) := ⟨HS.out.1.drew hq3, by rw [hq3]; exact below_drewN HS.out.2 q3⟩
        clear c3 m3 hq3 HS
        cases b3 with
        | false =>
          go_wp2
          go_ret
          exact ⟨_, rfl, m, HT.out.1, HR.out.2.1, HR.out.2.2.1, HT.out.2⟩
        | true =>
          have c4 := hswap_any v m k (2 * k + 1) wy base HT.out.1.own (by omega) (by omega)
          rw [show (((2 * k + 1) : Nat) : Int) = 2 * (k : Int) + 1 by omega] at c4
          have m4 := Try.methSwap HT.out.1.cell
          go_wp2_with fail
          refine c4.mono ?_
          rintro e wz ⟨rfl, o4, g4⟩
          obtain ⟨z1, z2⟩ := HT.out.1.swap o4 g4
          have HZ : Hid (HpB wz base g v (swapL m k (2 * k + 1)) ∧ (swapL m k (2 * k + 1)).Perm l ∧ (swapL m k (2 * k + 1)).getD n 0 = l.getD n 0 ∧ Below base w wz) := by
            refine ⟨z1, (swapL_perm m k (2 * k + 1) (by omega) (by omega)).trans HR.out.2.1, ?_, HT.out.2.trans z2⟩
            rw [swapL_get m k (2 * k + 1) (by omega) (by omega) n (by omega), if_neg (by omega), if_neg (by omega)]
            exact HR.out.2.2.1
          clear c4 o4 g4 z1 z2 m4 HT
          go_wp2
          go_roundw
          case rel => exact ⟨2 * k + 1, _, by rw [show (((2 * k + 1) : Nat) : Int) = 2 * (k : Int) + 1 by omega], by omega, HZ.out⟩
          case measure => simp [intOf]; omega

theorem getD_last (l : List Int) (n : Nat) (h : l.length = n + 1) : l = l.take n ++ [l.getD n 0] := by
  have e := List.take_succ_eq_append_getElem (l := l) (i := n) (by omega)
  rw [List.take_of_length_le (by omega)] at e
  rw [List.getD_eq_getElem?_getD, List.getElem?_eq_getElem (by omega)]
  exact e

set_option maxRecDepth 20000 in
set_option maxHeartbeats 2000000 in
theorem heapPop_any (a : Int) (t : List Int) (v : Value) (base g : Nat) (w : World) (h : HpB w base g v (a :: t)) (hl : t.length ≤ 900) :
    Calls Try.prog 84 #[hpIs g] w fun e w' => e = .returned (.iface 2 (.int .i64 a)) ∧ ∃ u m, HpB w' base g u m ∧ m.Perm t ∧ Below base w w' := by
  obtain ⟨n, hn⟩ : ∃ n, n = t.length := ⟨_, rfl⟩
  have hlen : (a :: t).length = n + 1 := by rw [hn]; rfl
  have c1 := hlen_any v (a :: t) w h.own.reads
  rw [show (((a :: t).length : Nat) : Int) = (n : Int) + 1 by omega] at c1
  have c2 := hswap_any v (a :: t) 0 n w base h.own (by omega) (by omega)
  have n1 := Try.nilLen ⟨g, 0, none⟩
  have n2 := Try.nilSwap ⟨g, 0, none⟩
  have n3 := Try.nilPop ⟨g, 0, none⟩
  have m1 := Try.methLen h.cell
  have m2 := Try.methSwap h.cell
  have m3 := Try.methPop ⟨g, 0, none⟩
  obtain ⟨s, hs⟩ : ∃ s, s = swapL (a :: t) 0 n := ⟨_, rfl⟩
  rw [← hs] at c2
  have HS : Hid (s.length = n + 1 ∧ s.Perm (a :: t) ∧ s.getD n 0 = a) := by
    refine ⟨by rw [hs, swapL_length]; exact hlen, by rw [hs]; exact swapL_perm _ _ _ (by omega) (by omega), ?_⟩
    rw [hs, swapL_get _ _ _ (by omega) (by omega) n (by omega), if_pos rfl]
    rfl
  have c3 : ∀ w', HpB w' base g v s → _ := fun w' h' => hdown_any v s base g n w' h' HS.out.1 (by omega)
  have HC : Hid _ := c3
  have HH : Hid (HpB w base g v (a :: t)) := h
  have hn' : n ≤ 900 := by omega
  clear c3 hs h hlen hn hl
  unfold hpIs at HC ⊢
  go_enter Try.func84, Try.ntmps84
  go_wp2_with fail
  refine c1.mono ?_
  rintro e w' ⟨rfl, hw⟩; subst w'
  clear c1 m1 n1
  have e3 : (n : Int) + 1 - 1 = n := by omega
  go_wp2_with fail
  refine c2.mono ?_
  rintro e w2 ⟨rfl, o2, g2⟩
  obtain ⟨h2, b2⟩ := HH.out.swap o2 g2
  have c3 := HC.out w2 h2
  have HB : Hid (Below base w w2) := b2
  clear HC c2 m2 n2 o2 g2 h2 b2
  go_wp2_with fail
  refine c3.mono ?_
  rintro e w3 ⟨b, rfl, m, h3, p3, d3, b3⟩
  have el : m = m.take n ++ [a] := by
    have := getD_last m n (by rw [p3.length_eq]; exact HS.out.1)
    rw [d3, HS.out.2.2] at this
    exact this
  have HP : Hid ((m.take n).Perm t) := by
    have := p3.trans HS.out.2.1
    rw [el] at this
    have e5 := (List.perm_append_comm (l₁ := m.take n) (l₂ := [a])).symm.trans this
    exact (List.perm_cons a).1 e5
  rw [el] at h3
  have c4 := hpop_any a v (m.take n) base g w3 h3
  replace HB : Hid (Below base w w3) := HB.out.trans b3
  clear c3 h3 p3 d3 b3 el
  go_wp2_with fail
  refine c4.mono ?_
  rintro e w4 ⟨rfl, u, h4, b4⟩
  have HE : Hid (HpB w4 base g u (m.take n) ∧ Below base w w4) := ⟨h4, HB.out.trans b4⟩
  clear c4 h4 b4
  go_wp2
  go_ret
  exact ⟨rfl, u, _, HE.out.1, HP.out, HE.out.2⟩

set_option maxRecDepth 20000 in
set_option maxHeartbeats 1000000 in
theorem htake_any (a : Int) (t : List Int) (v : Value) (base g : Nat) (w : World) (h : HpB w base g v (a :: t)) (hl : t.length ≤ 900) :
    Calls Try.prog 49 #[.pointer (some ⟨g, 0, none⟩)] w fun e w' => e = .returned (.int .i64 a) ∧ ∃ u m, HpB w' base g u m ∧ m.Perm t ∧ Below base w w' := by
  have c1 := heapPop_any a t v base g w h hl
  have hasI := Try.asInt (.int .i64 a)
  unfold hpIs at c1
  clear h hl
  go_enter Try.func49, Try.ntmps49
  go_wp2_with fail
  refine c1.mono ?_
  rintro e w1 ⟨rfl, u, m, h1, p1, b1⟩
  have HE : Hid (HpB w1 base g u m ∧ m.Perm t ∧ Below base w w1) := ⟨h1, p1, b1⟩
  clear c1 h1 p1 b1
  go_wp2
  go_ret
  exact ⟨rfl, u, m, HE.out⟩

set_option maxRecDepth 20000 in
set_option maxHeartbeats 400000 in
theorem hfirst_any (a : Int) (t : List Int) (v : Value) (w : World) (h : Reads w v (a :: t)) :
    Calls Try.prog 48 #[v] w fun e w' => e = .returned (.int .i64 a) ∧ w' = w := by
  obtain ⟨ao, cap, rfl⟩ := reads_form h
  obtain ⟨-, hc1, hc2, hcell⟩ := reads_cells h
  unfold maxLen at hc2
  obtain ⟨b, off, rfl, k1⟩ := hcell 0 (by simp)
  rw [show (a :: t).getD 0 0 = a from rfl, Nat.add_zero] at k1
  have e1 : (a :: t).length = t.length + 1 := rfl
  rw [e1] at hc1 ⊢
  obtain ⟨n, hn⟩ : ∃ n, n = t.length := ⟨_, rfl⟩
  rw [← hn] at hc1 ⊢
  clear h hcell e1 hn
  go_enter Try.func48, Try.ntmps48
  go_wp2
  go_ret
  exact ⟨rfl, rfl⟩
end Go.Proofs.Ytelfpdjidppblaa
