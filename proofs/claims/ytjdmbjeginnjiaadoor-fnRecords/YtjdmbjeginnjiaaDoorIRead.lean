/- What the program reads of a number: readNumber. -/
import Derived.Test.YtjdmbjeginnjiaaDoorSRead
namespace Go.Proofs.YtjdmbjeginnjiaaDoor
open Go.ChangeShapes Go.WideShapes Go.ChangeAt Go.RowKit

theorem nozero {l : Bs} {k : Nat} (ho : offN l = k) (hk : k < l.length) (h : l[k] ≠ 48 ∨ l.length ≤ 1) : ¬ ((digs l).head? = some 48 ∧ 1 < l.length) := by
  rintro ⟨h1, h2⟩
  subst ho
  rw [head_digs l hk] at h1
  rcases h with h | h
  · exact h (by simpa using h1)
  · omega
theorem leadzero {l : Bs} {k : Nat} (ho : offN l = k) (hk : k < l.length) (h : l[k] = 48) (h1 : 1 < l.length) : okN l = false := by
  subst ho
  rw [← Bool.not_eq_true, okN_iff]
  rintro ⟨_, _, _, h4⟩
  exact h4 ⟨by rw [head_digs l hk, h], h1⟩

set_option maxRecDepth 20000 in
set_option maxHeartbeats 4000000 in
theorem iread_any (l : Bs) (w : World) (hl : l.length ≤ 1048576) :
    Calls Tryd.prog 39 #[S l] w fun e w' => e = .returned (.tuple #[.int .i64 (num l), .bool (okN l)]) ∧ w' = w := by
  have hsz : (⟨l.toArray⟩ : ByteArray).size = l.length := rfl
  unfold S
  go_enter Tryd.func39, Tryd.ntmps39
  go_wp2
  go_loop [4, 5, 6, 7, 12] (fun st sg v dg i => ∃ j : Nat, (j : Int) ≤ l.length ∧ i = .int .i64 j ∧
    ((j = 0 ∧ st = .int .i64 0 ∧ sg = .int .i64 1 ∧ v = .int .i64 0 ∧ dg = .int .i64 0) ∨
     (j = 1 ∧ st = .int .i64 1 ∧ sg = .int .i64 (-1) ∧ v = .int .i64 0 ∧ dg = .int .i64 0 ∧ Hid (neg l = true)) ∨
     (∃ (x d : Int) (k : Nat) (s : Int), st = .int .i64 2 ∧ sg = .int .i64 s ∧ v = .int .i64 x ∧ dg = .int .i64 d ∧ (j : Int) = offN l + d ∧ 1 ≤ d ∧ d ≤ 9 ∧ 0 ≤ x ∧ x < 1000000000 ∧ s = (if neg l then -1 else 1) ∧ RdInv l j x ∧ ¬ ((digs l).head? = some 48 ∧ 1 < l.length)))) (fun _ _ _ _ i => l.length - (intOf i).toNat)
  case atStart => exact ⟨0, by omega, rfl, .inl ⟨rfl, rfl, rfl, rfl, rfl⟩⟩
  case round =>
    obtain ⟨j, hj1, rfl, hcase⟩ := hrel
    rcases hcase with ⟨rfl, rfl, rfl, rfl, rfl⟩ | ⟨rfl, rfl, rfl, rfl, rfl, HG⟩ | ⟨x, d, k, sg, rfl, rfl, rfl, rfl, hjd, hd1, hd9, hx0, hx1, hsg, hI, hZ⟩
    · by_cases hlt : (0 : Int) < (l.length : Int)
      · have hj : 0 < l.length := by omega
        have ht := byteAt_is l 0 hj 45 45 rfl
        by_cases hb : l[0] = 45
        · have HG : Hid (neg l = true) := by rw [Hid, neg_at l hj]; simp [hb]
          rw [show decide (l[0] = 45) = true by simp [hb]] at ht
          clear hb
          go_wp2
          go_round
          case rel => exact ⟨1, by omega, by go_num, .inr (.inl ⟨rfl, rfl, rfl, rfl, rfl, HG⟩)⟩
          case measure => simp [intOf]; omega
        · have hng : neg l = false := by rw [neg_at l hj]; simp [hb]
          have HO : Hid (offN l = 0 ∧ neg l = false) := ⟨by unfold offN; rw [hng]; rfl, hng⟩
          rw [show decide (l[0] = 45) = false by simp [hb]] at ht
          have ht0 := byteAt_is l 0 hj 48 48 rfl
          clear hng hb
          have hbv := byteV_is l 0 hj
          by_cases hz : l[0] = 48
          · rw [show decide (l[0] = 48) = true by simp [hz]] at ht0
            by_cases h1l : 1 < (l.length : Int)
            · have HE : Hid (okN l = false ∧ num l = 0) := by
                have := leadzero HO.out.1 hj hz (by omega)
                exact ⟨this, num_not this⟩
              clear hz hbv
              go_wp2
              go_ret2
              rw [HE.out.1, HE.out.2]
              exact ⟨rfl, rfl⟩
            · have HZ : Hid (¬ ((digs l).head? = some 48 ∧ 1 < l.length)) := nozero HO.out.1 hj (.inr (by omega))
              clear hz
              by_cases hlo : byteV l 0 hj < 48
              · have HE : Hid (okN l = false ∧ num l = 0) := by
                  have := RdInv.bad (l := l) (j := 0) (by rw [HO.out.1]; omega) hj (by rw [hbv] at hlo; simp [isDig]; omega)
                  exact ⟨this, num_not this⟩
                unfold byteV at *
                clear hbv
                go_wp2
                go_ret2
                rw [HE.out.1, HE.out.2]
                exact ⟨rfl, rfl⟩
              · by_cases hhi : 57 < byteV l 0 hj
                · have HE : Hid (okN l = false ∧ num l = 0) := by
                    have := RdInv.bad (l := l) (j := 0) (by rw [HO.out.1]; omega) hj (by rw [hbv] at hhi; simp [isDig]; omega)
                    exact ⟨this, num_not this⟩
                  unfold byteV at *
                  clear hbv
                  go_wp2
                  go_ret2
                  rw [HE.out.1, HE.out.2]
                  exact ⟨rfl, rfl⟩
                · have HN : Hid (∀ y, y = 0 * 10 + (byteV l 0 hj - 48) → RdInv l (0 + 1) y) := by
                    intro y hy
                    rw [hy, hbv]
                    exact RdInv.next (by have := RdInv.start l; rwa [HO.out.1] at this) (by rw [HO.out.1]; omega) hj (by rw [hbv] at hlo hhi; simp [isDig]; omega)
                  have hlo2 : 48 ≤ byteV l 0 hj := by omega
                  have hhi2 : byteV l 0 hj ≤ 57 := by omega
                  clear hbv
                  unfold byteV at *
                  go_wp2
                  go_round
                  case rel => exact ⟨0 + 1, by omega, by go_num, .inr (.inr ⟨_, _, 1, 1, rfl, rfl, rfl, rfl, by rw [HO.out.1]; omega, by omega, by omega, by omega, by omega, by simp [HO.out.2], HN.out _ (by omega), HZ.out⟩)⟩
                  case measure => simp [intOf]; omega
          · rw [show decide (l[0] = 48) = false by simp [hz]] at ht0
            have HZ : Hid (¬ ((digs l).head? = some 48 ∧ 1 < l.length)) := nozero HO.out.1 hj (.inl hz)
            clear hz
            by_cases hlo : byteV l 0 hj < 48
            · have HE : Hid (okN l = false ∧ num l = 0) := by
                have := RdInv.bad (l := l) (j := 0) (by rw [HO.out.1]; omega) hj (by rw [hbv] at hlo; simp [isDig]; omega)
                exact ⟨this, num_not this⟩
              unfold byteV at *
              clear hbv
              go_wp2
              go_ret2
              rw [HE.out.1, HE.out.2]
              exact ⟨rfl, rfl⟩
            · by_cases hhi : 57 < byteV l 0 hj
              · have HE : Hid (okN l = false ∧ num l = 0) := by
                  have := RdInv.bad (l := l) (j := 0) (by rw [HO.out.1]; omega) hj (by rw [hbv] at hhi; simp [isDig]; omega)
                  exact ⟨this, num_not this⟩
                unfold byteV at *
                clear hbv
                go_wp2
                go_ret2
                rw [HE.out.1, HE.out.2]
                exact ⟨rfl, rfl⟩
              · have HN : Hid (∀ y, y = 0 * 10 + (byteV l 0 hj - 48) → RdInv l (0 + 1) y) := by
                  intro y hy
                  rw [hy, hbv]
                  exact RdInv.next (by have := RdInv.start l; rwa [HO.out.1] at this) (by rw [HO.out.1]; omega) hj (by rw [hbv] at hlo hhi; simp [isDig]; omega)
                have hlo2 : 48 ≤ byteV l 0 hj := by omega
                have hhi2 : byteV l 0 hj ≤ 57 := by omega
                clear hbv
                unfold byteV at *
                go_wp2
                go_round
                case rel => exact ⟨0 + 1, by omega, by go_num, .inr (.inr ⟨_, _, 1, 1, rfl, rfl, rfl, rfl, by rw [HO.out.1]; omega, by omega, by omega, by omega, by omega, by simp [HO.out.2], HN.out _ (by omega), HZ.out⟩)⟩
                case measure => simp [intOf]; omega
      · have HE : Hid (okN l = false ∧ num l = 0) := by
          have := okN_short l (by omega)
          exact ⟨this, num_not this⟩
        go_wp2
        go_ret2
        rw [HE.out.1, HE.out.2]
        exact ⟨rfl, rfl⟩
    · have HO : Hid (offN l = 1 ∧ neg l = true) := ⟨by unfold offN; rw [HG.out]; rfl, HG.out⟩
      clear HG
      by_cases hlt : (1 : Int) < (l.length : Int)
      · have hj : 1 < l.length := by omega
        have ht0 := byteAt_is l 1 hj 48 48 rfl
        have hbv := byteV_is l 1 hj
        by_cases hz : l[1] = 48
        · rw [show decide (l[1] = 48) = true by simp [hz]] at ht0
          have HE : Hid (okN l = false ∧ num l = 0) := by
            have := leadzero HO.out.1 hj hz (by omega)
            exact ⟨this, num_not this⟩
          clear hz hbv
          go_wp2
          go_ret2
          rw [HE.out.1, HE.out.2]
          exact ⟨rfl, rfl⟩
        · rw [show decide (l[1] = 48) = false by simp [hz]] at ht0
          have HZ : Hid (¬ ((digs l).head? = some 48 ∧ 1 < l.length)) := nozero HO.out.1 hj (.inl hz)
          clear hz
          by_cases hlo : byteV l 1 hj < 48
          · have HE : Hid (okN l = false ∧ num l = 0) := by
              have := RdInv.bad (l := l) (j := 1) (by rw [HO.out.1]; omega) hj (by rw [hbv] at hlo; simp [isDig]; omega)
              exact ⟨this, num_not this⟩
            unfold byteV at *
            clear hbv
            go_wp2
            go_ret2
            rw [HE.out.1, HE.out.2]
            exact ⟨rfl, rfl⟩
          · by_cases hhi : 57 < byteV l 1 hj
            · have HE : Hid (okN l = false ∧ num l = 0) := by
                have := RdInv.bad (l := l) (j := 1) (by rw [HO.out.1]; omega) hj (by rw [hbv] at hhi; simp [isDig]; omega)
                exact ⟨this, num_not this⟩
              unfold byteV at *
              clear hbv
              go_wp2
              go_ret2
              rw [HE.out.1, HE.out.2]
              exact ⟨rfl, rfl⟩
            · have HN : Hid (∀ y, y = 0 * 10 + (byteV l 1 hj - 48) → RdInv l (1 + 1) y) := by
                intro y hy
                rw [hy, hbv]
                exact RdInv.next (by have := RdInv.start l; rwa [HO.out.1] at this) (by rw [HO.out.1]; omega) hj (by rw [hbv] at hlo hhi; simp [isDig]; omega)
              have hlo2 : 48 ≤ byteV l 1 hj := by omega
              have hhi2 : byteV l 1 hj ≤ 57 := by omega
              clear hbv
              unfold byteV at *
              go_wp2
              go_round
              case rel => exact ⟨1 + 1, by omega, by go_num, .inr (.inr ⟨_, _, 1, (-1), rfl, rfl, rfl, rfl, by rw [HO.out.1]; omega, by omega, by omega, by omega, by omega, by simp [HO.out.2], HN.out _ (by omega), HZ.out⟩)⟩
              case measure => simp [intOf]; omega
      · have HE : Hid (okN l = false ∧ num l = 0) := by
          have := okN_short l (by have := HO.out.1; omega)
          exact ⟨this, num_not this⟩
        go_wp2
        go_ret2
        rw [HE.out.1, HE.out.2]
        exact ⟨rfl, rfl⟩
    · have HI : Hid (RdInv l j x ∧ ¬ ((digs l).head? = some 48 ∧ 1 < l.length) ∧ (j : Int) = offN l + d ∧ sg = (if neg l then -1 else 1)) := ⟨hI, hZ, hjd, hsg⟩
      have hoj : offN l ≤ j := by omega
      have HJ : Hid (offN l ≤ j) := hoj
      clear hI hZ hsg hjd hoj
      by_cases hlt : (j : Int) < (l.length : Int)
      · have hj : j < l.length := by omega
        have hbv := byteV_is l j hj
        by_cases hlo : byteV l j hj < 48
        · have HE : Hid (okN l = false ∧ num l = 0) := by
            have := RdInv.bad (l := l) (j := j) HJ.out hj (by rw [hbv] at hlo; simp [isDig]; omega)
            exact ⟨this, num_not this⟩
          unfold byteV at *
          clear hbv
          go_wp2
          go_ret2
          rw [HE.out.1, HE.out.2]
          exact ⟨rfl, rfl⟩
        · by_cases hhi : 57 < byteV l j hj
          · have HE : Hid (okN l = false ∧ num l = 0) := by
              have := RdInv.bad (l := l) (j := j) HJ.out hj (by rw [hbv] at hhi; simp [isDig]; omega)
              exact ⟨this, num_not this⟩
            unfold byteV at *
            clear hbv
            go_wp2
            go_ret2
            rw [HE.out.1, HE.out.2]
            exact ⟨rfl, rfl⟩
          · by_cases hd : d = 9
            · have HE : Hid (okN l = false ∧ num l = 0) := by
                have := okN_long l (by have := HI.out.2.2.1; omega)
                exact ⟨this, num_not this⟩
              unfold byteV at *
              clear hbv
              subst hd
              go_wp2
              go_ret2
              rw [HE.out.1, HE.out.2]
              exact ⟨rfl, rfl⟩
            · have hdn : (d == 9) = false := by simpa using hd
              have HN : Hid (∀ y, y = x * 10 + (byteV l j hj - 48) → RdInv l (j + 1) y ∧ 0 ≤ y ∧ y < 1000000000) := by
                intro y hy
                have h1 : RdInv l (j + 1) y := by
                  rw [hy, hbv]
                  exact HI.out.1.next HJ.out hj (by rw [hbv] at hlo hhi; simp [isDig]; omega)
                exact ⟨h1, h1.bd (by have := HI.out.2.2.1; omega)⟩
              have hlo2 : 48 ≤ byteV l j hj := by omega
              have hhi2 : byteV l j hj ≤ 57 := by omega
              clear hbv
              unfold byteV at *
              go_wp2
              go_round
              case rel =>
                refine ⟨j + 1, by omega, by go_num, .inr (.inr ⟨_, _, 1, sg, rfl, rfl, rfl, rfl, by have := HI.out.2.2.1; omega, by omega, by omega, ?_, ?_, HI.out.2.2.2, ?_, HI.out.2.1⟩)⟩
                · exact (HN.out _ (by omega)).2.1
                · exact (HN.out _ (by omega)).2.2
                · exact (HN.out _ (by omega)).1
              case measure => simp [intOf]; omega
      · obtain rfl : j = l.length := by omega
        have hdn := HI.out.1.done (by have := HI.out.2.2.1; omega) (by have := HI.out.2.2.1; omega)
        have hok : okN l = true := by
          rw [hdn.1]
          have := HI.out.2.1
          simp only [Bool.not_eq_true', Bool.and_eq_false_iff, decide_eq_false_iff_not]
          by_cases h : (digs l).head? = some 48
          · exact .inr (fun h' => this ⟨h, h'⟩)
          · exact .inl h
        have HE : Hid (okN l = true ∧ num l = sg * x) := by
          refine ⟨hok, ?_⟩
          rw [num, hok, HI.out.2.2.2, hdn.2]
          cases neg l <;> simp
        have hs2 : sg = 1 ∨ sg = -1 := by rw [HI.out.2.2.2]; cases neg l <;> simp
        clear hdn hok
        rcases hs2 with rfl | rfl
        all_goals
          go_wp2
          go_ret2
          rw [HE.out.1, HE.out.2]
          exact ⟨by simp, rfl⟩
end Go.Proofs.YtjdmbjeginnjiaaDoor
