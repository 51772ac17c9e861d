/- What the model reads of a number of at most ten digits: l1Digits. -/
import Derived.Test.YtifffiekibdgnaaGreatDoorTextses
namespace Go.Proofs.YtifffiekibdgnaaGreatDoor
open Go.ChangeShapes Go.WideShapes Go.ChangeAt Go.RowKit

set_option maxRecDepth 20000 in
set_option maxHeartbeats 2000000 in
theorem sdigitsT_any (l : Bs) (w : World) (hl : l.length ≤ 1048576) :
    Calls Tryz.prog 30 #[S l, .int .i64 10] w fun e w' => e = .returned (.tuple #[.int .i64 (numT l), .bool (okT l)]) ∧ w' = w := by
  have hsz : (⟨l.toArray⟩ : ByteArray).size = l.length := rfl
  unfold S
  by_cases h0 : l = []
  · subst h0
    have HE : Hid (okT [] = false ∧ numT [] = 0) := by
      have := okT_short [] (by simp)
      exact ⟨this, numT_not this⟩
    go_enter Tryz.func30, Tryz.ntmps30
    go_wp2
    go_ret2
    rw [HE.out.1, HE.out.2]
    exact ⟨rfl, rfl⟩
  · have hie : l.isEmpty = false := by simpa using h0
    have hpos : 0 < l.length := List.length_pos_iff.2 h0
    have ht := byteAt_is l 0 hpos 45 45 rfl
    have hng := neg_at l hpos
    rw [← hng] at ht
    clear h0
    by_cases hneg : neg l = true
    · rw [hneg] at ht
      clear hng
      have hng := hneg
      clear hneg
      have ho : offN l = 1 := by unfold offN; rw [hng]; rfl
      by_cases hs1 : (l.length : Int) - 1 < 1
      · have HE : Hid (okT l = false ∧ numT l = 0) := by
          have := okT_short l (by omega)
          exact ⟨this, numT_not this⟩
        clear hng ho
        go_enter Tryz.func30, Tryz.ntmps30
        go_wp2
        go_ret2
        rw [HE.out.1, HE.out.2]
        exact ⟨rfl, rfl⟩
      · by_cases hs2 : 10 < (l.length : Int) - 1
        · have HE : Hid (okT l = false ∧ numT l = 0) := by
            have := okT_long l (by omega)
            exact ⟨this, numT_not this⟩
          clear hng ho
          go_enter Tryz.func30, Tryz.ntmps30
          go_wp2
          go_ret2
          rw [HE.out.1, HE.out.2]
          exact ⟨rfl, rfl⟩
        · have HO : Hid (offN l = 1 ∧ neg l = true) := ⟨ho, hng⟩
          clear hng ho
          go_enter Tryz.func30, Tryz.ntmps30
          go_wp2
          go_loop [8, 9] (fun n k => ∃ (j : Nat) (x : Int), (1 : Int) ≤ j ∧ (j : Int) ≤ l.length ∧ k = .int .i64 j ∧ n = .int .i64 x ∧ 0 ≤ x ∧ x < 10000000000 ∧ Hid (RdInv l j x)) (fun _ k => l.length - (intOf k).toNat)
          case atStart => exact ⟨1, 0, by omega, by omega, rfl, rfl, by omega, by omega, by rw [Hid, ← HO.out.1]; exact RdInv.start l⟩
          case round =>
            obtain ⟨j, x, hj0, hj1, rfl, rfl, hx0, hx1, HI⟩ := hrel
            by_cases hlt : (j : Int) < (l.length : Int)
            · have hj : j < l.length := by omega
              have hbv := byteV_is l j hj
              by_cases hlo : byteV l j hj < 48
              · have HE : Hid (okT l = false ∧ numT l = 0) := by
                  have := RdInv.badT (l := l) (j := j) (by rw [HO.out.1]; omega) hj (by rw [hbv] at hlo; simp [isDig]; omega)
                  exact ⟨this, numT_not this⟩
                unfold byteV at hlo
                clear hbv
                go_wp2
                go_ret2
                rw [HE.out.1, HE.out.2]
                exact ⟨rfl, rfl⟩
              · by_cases hhi : 57 < byteV l j hj
                · have HE : Hid (okT l = false ∧ numT l = 0) := by
                    have := RdInv.badT (l := l) (j := j) (by rw [HO.out.1]; omega) hj (by rw [hbv] at hhi; simp [isDig]; omega)
                    exact ⟨this, numT_not this⟩
                  unfold byteV at hlo hhi
                  clear hbv
                  go_wp2
                  go_ret2
                  rw [HE.out.1, HE.out.2]
                  exact ⟨rfl, rfl⟩
                · have HN : Hid (RdInv l (j + 1) (x * 10 + (byteV l j hj - 48))) := by
                    rw [Hid, hbv]
                    exact HI.out.next (by rw [HO.out.1]; omega) hj (by rw [hbv] at hlo hhi; simp [isDig]; omega)
                  have HNb := HN.out.bdT (by rw [HO.out.1]; omega)
                  have hlo2 : 48 ≤ byteV l j hj := by omega
                  have hhi2 : byteV l j hj ≤ 57 := by omega
                  clear hbv
                  unfold byteV at hlo hhi hlo2 hhi2 HN HNb
                  go_wp2
                  go_round
                  case rel => exact ⟨j + 1, _, by omega, by omega, by go_num, rfl, HNb.1, HNb.2, HN⟩
                  case measure => simp [intOf]; omega
            · obtain rfl : j = l.length := by omega
              have h1l : 1 < l.length := by omega
              have hh := head_digs l (by rw [HO.out.1]; exact h1l)
              have he1 : l[offN l]'(by rw [HO.out.1]; exact h1l) = l[1] := by congr 1; exact HO.out.1
              rw [he1] at hh
              have hdn := HI.out.doneT (by rw [HO.out.1]; omega) (by rw [HO.out.1]; omega)
              rw [hh] at hdn
              have ht0 := byteAt_is l 1 h1l 48 48 rfl
              by_cases hz : l[1] = 48
              · have HE : Hid (okT l = false ∧ numT l = 0) := by
                  have : okT l = false := by rw [hdn.1]; simp [hz, h1l]
                  exact ⟨this, numT_not this⟩
                rw [show decide (l[1] = 48) = true by simp [hz]] at ht0
                clear hdn hh he1 hz
                go_wp2
                go_ret2
                rw [HE.out.1, HE.out.2]
                exact ⟨rfl, rfl⟩
              · have HE : Hid (okT l = true ∧ numT l = -x) := by
                  have : okT l = true := by rw [hdn.1]; simp [hz]
                  exact ⟨this, by rw [numT, this, HO.out.2, hdn.2]; rfl⟩
                rw [show decide (l[1] = 48) = false by simp [hz]] at ht0
                clear hdn hh he1 hz
                go_wp2
                go_ret2
                rw [HE.out.1, HE.out.2]
                exact ⟨rfl, rfl⟩
    · have hng' : neg l = false := by simpa using hneg
      rw [hng'] at ht
      clear hng hneg
      have hng := hng'
      clear hng'
      have ho : offN l = 0 := by unfold offN; rw [hng]; rfl
      by_cases hs1 : (l.length : Int) - 0 < 1
      · exact absurd hs1 (by omega)
      · by_cases hs2 : 10 < (l.length : Int) - 0
        · have HE : Hid (okT l = false ∧ numT l = 0) := by
            have := okT_long l (by omega)
            exact ⟨this, numT_not this⟩
          clear hng ho
          go_enter Tryz.func30, Tryz.ntmps30
          go_wp2
          go_ret2
          rw [HE.out.1, HE.out.2]
          exact ⟨rfl, rfl⟩
        · have HO : Hid (offN l = 0 ∧ neg l = false) := ⟨ho, hng⟩
          clear hng ho
          go_enter Tryz.func30, Tryz.ntmps30
          go_wp2
          go_loop [8, 9] (fun n k => ∃ (j : Nat) (x : Int), (0 : Int) ≤ j ∧ (j : Int) ≤ l.length ∧ k = .int .i64 j ∧ n = .int .i64 x ∧ 0 ≤ x ∧ x < 10000000000 ∧ Hid (RdInv l j x)) (fun _ k => l.length - (intOf k).toNat)
          case atStart => exact ⟨0, 0, by omega, by omega, rfl, rfl, by omega, by omega, by rw [Hid, ← HO.out.1]; exact RdInv.start l⟩
          case round =>
            obtain ⟨j, x, hj0, hj1, rfl, rfl, hx0, hx1, HI⟩ := hrel
            by_cases hlt : (j : Int) < (l.length : Int)
            · have hj : j < l.length := by omega
              have hbv := byteV_is l j hj
              by_cases hlo : byteV l j hj < 48
              · have HE : Hid (okT l = false ∧ numT l = 0) := by
                  have := RdInv.badT (l := l) (j := j) (by rw [HO.out.1]; omega) hj (by rw [hbv] at hlo; simp [isDig]; omega)
                  exact ⟨this, numT_not this⟩
                unfold byteV at hlo
                clear hbv
                go_wp2
                go_ret2
                rw [HE.out.1, HE.out.2]
                exact ⟨rfl, rfl⟩
              · by_cases hhi : 57 < byteV l j hj
                · have HE : Hid (okT l = false ∧ numT l = 0) := by
                    have := RdInv.badT (l := l) (j := j) (by rw [HO.out.1]; omega) hj (by rw [hbv] at hhi; simp [isDig]; omega)
                    exact ⟨this, numT_not this⟩
                  unfold byteV at hlo hhi
                  clear hbv
                  go_wp2
                  go_ret2
                  rw [HE.out.1, HE.out.2]
                  exact ⟨rfl, rfl⟩
                · have HN : Hid (RdInv l (j + 1) (x * 10 + (byteV l j hj - 48))) := by
                    rw [Hid, hbv]
                    exact HI.out.next (by rw [HO.out.1]; omega) hj (by rw [hbv] at hlo hhi; simp [isDig]; omega)
                  have HNb := HN.out.bdT (by rw [HO.out.1]; omega)
                  have hlo2 : 48 ≤ byteV l j hj := by omega
                  have hhi2 : byteV l j hj ≤ 57 := by omega
                  clear hbv
                  unfold byteV at hlo hhi hlo2 hhi2 HN HNb
                  go_wp2
                  go_round
                  case rel => exact ⟨j + 1, _, by omega, by omega, by go_num, rfl, HNb.1, HNb.2, HN⟩
                  case measure => simp [intOf]; omega
            · obtain rfl : j = l.length := by omega
              have hh := head_digs l (by rw [HO.out.1]; exact hpos)
              have he1 : l[offN l]'(by rw [HO.out.1]; exact hpos) = l[0] := by congr 1; exact HO.out.1
              rw [he1] at hh
              have hdn := HI.out.doneT (by rw [HO.out.1]; omega) (by rw [HO.out.1]; omega)
              rw [hh] at hdn
              have ht0 := byteAt_is l 0 hpos 48 48 rfl
              by_cases hz : l[0] = 48
              · rw [show decide (l[0] = 48) = true by simp [hz]] at ht0
                by_cases h1l : 1 < (l.length : Int)
                · have HE : Hid (okT l = false ∧ numT l = 0) := by
                    have h2 : 1 < l.length := by omega
                    have : okT l = false := by rw [hdn.1]; simp [hz, h2]
                    exact ⟨this, numT_not this⟩
                  clear hdn hh he1 hz ht
                  go_wp2
                  go_ret2
                  rw [HE.out.1, HE.out.2]
                  exact ⟨rfl, rfl⟩
                · have HE : Hid (okT l = true ∧ numT l = x) := by
                    have h2 : ¬ 1 < l.length := by omega
                    have : okT l = true := by rw [hdn.1]; simp [h2]
                    exact ⟨this, by rw [numT, this, HO.out.2, hdn.2]; rfl⟩
                  clear hdn hh he1 hz ht
                  go_wp2
                  go_ret2
                  rw [HE.out.1, HE.out.2]
                  exact ⟨rfl, rfl⟩
              · have HE : Hid (okT l = true ∧ numT l = x) := by
                  have : okT l = true := by rw [hdn.1]; simp [hz]
                  exact ⟨this, by rw [numT, this, HO.out.2, hdn.2]; rfl⟩
                rw [show decide (l[0] = 48) = false by simp [hz]] at ht0
                clear hdn hh he1 hz ht
                go_wp2
                go_ret2
                rw [HE.out.1, HE.out.2]
                exact ⟨rfl, rfl⟩
end Go.Proofs.YtifffiekibdgnaaGreatDoor
