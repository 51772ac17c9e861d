/- What the model reads of a number: l1Digits, l1Read. -/
import Derived.Test.YtjdmbjeginnjiaaDoorSRec
namespace Go.Proofs.YtjdmbjeginnjiaaDoor
open Go.ChangeShapes Go.WideShapes Go.ChangeAt Go.RowKit

def byteV (l : Bs) (j : Nat) (h : j < l.length) : Int := ((((⟨l.toArray⟩ : ByteArray)[j]'(show j < (⟨l.toArray⟩ : ByteArray).size from h)).toNat : Nat) : Int)
theorem byteV_is (l : Bs) (j : Nat) (h : j < l.length) : byteV l j h = byteI l[j] := rfl
theorem neg_cons (b : UInt8) (t : Bs) : neg (b :: t) = decide (b = 45) := by unfold neg; by_cases h : b = 45 <;> simp [h]
theorem neg_at (l : Bs) (h : 0 < l.length) : neg l = decide (l[0] = 45) := by
  cases l with
  | nil => simp at h
  | cons b t => exact neg_cons b t
theorem okN_short (l : Bs) (h : l.length - offN l < 1) : okN l = false := by
  rw [← Bool.not_eq_true, okN_iff, digs_len]; omega
theorem okN_long (l : Bs) (h : 9 < l.length - offN l) : okN l = false := by
  rw [← Bool.not_eq_true, okN_iff, digs_len]; omega
theorem num_not {l : Bs} (h : okN l = false) : num l = 0 := by simp [num, h]
theorem digs_at (l : Bs) (j : Nat) (h0 : offN l ≤ j) (h : j < l.length) : ∃ h' : j - offN l < (digs l).length, (digs l)[j - offN l] = l[j] := by
  have hl := digs_len l
  refine ⟨by omega, ?_⟩
  unfold digs
  rw [List.getElem_drop]
  congr 1
  omega
def RdInv (l : Bs) (j : Nat) (x : Int) : Prop := x = val ((digs l).take (j - offN l)) ∧ ((digs l).take (j - offN l)).all isDig = true
theorem RdInv.start (l : Bs) : RdInv l (offN l) 0 := by simp [RdInv, val]
theorem RdInv.next {l : Bs} {j : Nat} {x : Int} (h : RdInv l j x) (h0 : offN l ≤ j) (hj : j < l.length) (hd : isDig l[j] = true) : RdInv l (j + 1) (x * 10 + (byteI l[j] - 48)) := by
  obtain ⟨h1, h2⟩ := digs_at l j h0 hj
  unfold RdInv at h ⊢
  rw [show j + 1 - offN l = j - offN l + 1 by omega, take_snocB _ _ h1, val_snoc, List.all_append, h.2, h2, h.1]
  simp [hd]
theorem RdInv.bd {l : Bs} {j : Nat} {x : Int} (h : RdInv l j x) (hj : j - offN l ≤ 9) : 0 ≤ x ∧ x < 1000000000 := by
  rw [h.1]
  exact val_small _ h.2 (by simp; omega)
theorem RdInv.bad {l : Bs} {j : Nat} (h0 : offN l ≤ j) (hj : j < l.length) (hd : isDig l[j] = false) : okN l = false := by
  obtain ⟨h1, h2⟩ := digs_at l j h0 hj
  rw [← Bool.not_eq_true, okN_iff]
  rintro ⟨_, _, h3, _⟩
  have := List.all_eq_true.1 h3 _ (List.getElem_mem h1)
  rw [h2, hd] at this
  cases this
theorem head_digs (l : Bs) (h : offN l < l.length) : (digs l).head? = some l[offN l] := by
  unfold digs
  rw [List.head?_drop]
  simp [h]
theorem RdInv.done {l : Bs} {x : Int} (h : RdInv l l.length x) (h1 : 1 ≤ l.length - offN l) (h2 : l.length - offN l ≤ 9) : okN l = !(decide ((digs l).head? = some 48) && decide (1 < l.length)) ∧ x = val (digs l) := by
  have hl := digs_len l
  unfold RdInv at h
  rw [← hl, List.take_length] at h
  refine ⟨?_, h.1⟩
  unfold okN
  rw [h.2, hl]
  simp [h1, h2]

set_option maxRecDepth 20000 in
set_option maxHeartbeats 2000000 in
theorem sdigits_any (l : Bs) (w : World) (hl : l.length ≤ 1048576) :
    Calls Tryd.prog 63 #[S l, .int .i64 9] w fun e w' => e = .returned (.tuple #[.int .i64 (num l), .bool (okN l)]) ∧ w' = w := by
  have hsz : (⟨l.toArray⟩ : ByteArray).size = l.length := rfl
  unfold S
  by_cases h0 : l = []
  · subst h0
    have HE : Hid (okN [] = false ∧ num [] = 0) := by
      have := okN_short [] (by simp)
      exact ⟨this, num_not this⟩
    go_enter Tryd.func63, Tryd.ntmps63
    go_wp2
    go_ret2
    rw [HE.out.1, HE.out.2]
    exact ⟨rfl, rfl⟩
  · have hie : l.isEmpty = false := by simpa using h0
    have hpos : 0 < l.length := List.length_pos_iff.2 h0
    have ht := byteAt_is l 0 hpos 45 45 rfl
    have hng := neg_at l hpos
    rw [← hng] at ht
    clear h0
    by_cases hneg : neg l = true
    · rw [hneg] at ht
      clear hng
      have hng := hneg
      clear hneg
      have ho : offN l = 1 := by unfold offN; rw [hng]; rfl
      by_cases hs1 : (l.length : Int) - 1 < 1
      · have HE : Hid (okN l = false ∧ num l = 0) := by
          have := okN_short l (by omega)
          exact ⟨this, num_not this⟩
        clear hng ho
        go_enter Tryd.func63, Tryd.ntmps63
        go_wp2
        go_ret2
        rw [HE.out.1, HE.out.2]
        exact ⟨rfl, rfl⟩
      · by_cases hs2 : 9 < (l.length : Int) - 1
        · have HE : Hid (okN l = false ∧ num l = 0) := by
            have := okN_long l (by omega)
            exact ⟨this, num_not this⟩
          clear hng ho
          go_enter Tryd.func63, Tryd.ntmps63
          go_wp2
          go_ret2
          rw [HE.out.1, HE.out.2]
          exact ⟨rfl, rfl⟩
        · have HO : Hid (offN l = 1 ∧ neg l = true) := ⟨ho, hng⟩
          clear hng ho
          go_enter Tryd.func63, Tryd.ntmps63
          go_wp2
          go_loop [8, 9] (fun n k => ∃ (j : Nat) (x : Int), (1 : Int) ≤ j ∧ (j : Int) ≤ l.length ∧ k = .int .i64 j ∧ n = .int .i64 x ∧ 0 ≤ x ∧ x < 1000000000 ∧ Hid (RdInv l j x)) (fun _ k => l.length - (intOf k).toNat)
          case atStart => exact ⟨1, 0, by omega, by omega, rfl, rfl, by omega, by omega, by rw [Hid, ← HO.out.1]; exact RdInv.start l⟩
          case round =>
            obtain ⟨j, x, hj0, hj1, rfl, rfl, hx0, hx1, HI⟩ := hrel
            by_cases hlt : (j : Int) < (l.length : Int)
            · have hj : j < l.length := by omega
              have hbv := byteV_is l j hj
              by_cases hlo : byteV l j hj < 48
              · have HE : Hid (okN l = false ∧ num l = 0) := by
                  have := RdInv.bad (l := l) (j := j) (by rw [HO.out.1]; omega) hj (by rw [hbv] at hlo; simp [isDig]; omega)
                  exact ⟨this, num_not this⟩
                unfold byteV at hlo
                clear hbv
                go_wp2
                go_ret2
                rw [HE.out.1, HE.out.2]
                exact ⟨rfl, rfl⟩
              · by_cases hhi : 57 < byteV l j hj
                · have HE : Hid (okN l = false ∧ num l = 0) := by
                    have := RdInv.bad (l := l) (j := j) (by rw [HO.out.1]; omega) hj (by rw [hbv] at hhi; simp [isDig]; omega)
                    exact ⟨this, num_not this⟩
                  unfold byteV at hlo hhi
                  clear hbv
                  go_wp2
                  go_ret2
                  rw [HE.out.1, HE.out.2]
                  exact ⟨rfl, rfl⟩
                · have HN : Hid (RdInv l (j + 1) (x * 10 + (byteV l j hj - 48))) := by
                    rw [Hid, hbv]
                    exact HI.out.next (by rw [HO.out.1]; omega) hj (by rw [hbv] at hlo hhi; simp [isDig]; omega)
                  have HNb := HN.out.bd (by rw [HO.out.1]; omega)
                  have hlo2 : 48 ≤ byteV l j hj := by omega
                  have hhi2 : byteV l j hj ≤ 57 := by omega
                  clear hbv
                  unfold byteV at hlo hhi hlo2 hhi2 HN HNb
                  go_wp2
                  go_round
                  case rel => exact ⟨j + 1, _, by omega, by omega, by go_num, rfl, HNb.1, HNb.2, HN⟩
                  case measure => simp [intOf]; omega
            · obtain rfl : j = l.length := by omega
              have h1l : 1 < l.length := by omega
              have hh := head_digs l (by rw [HO.out.1]; exact h1l)
              have he1 : l[offN l]'(by rw [HO.out.1]; exact h1l) = l[1] := by congr 1; exact HO.out.1
              rw [he1] at hh
              have hdn := HI.out.done (by rw [HO.out.1]; omega) (by rw [HO.out.1]; omega)
              rw [hh] at hdn
              have ht0 := byteAt_is l 1 h1l 48 48 rfl
              by_cases hz : l[1] = 48
              · have HE : Hid (okN l = false ∧ num l = 0) := by
                  have : okN l = false := by rw [hdn.1]; simp [hz, h1l]
                  exact ⟨this, num_not this⟩
                rw [show decide (l[1] = 48) = true by simp [hz]] at ht0
                clear hdn hh he1 hz
                go_wp2
                go_ret2
                rw [HE.out.1, HE.out.2]
                exact ⟨rfl, rfl⟩
              · have HE : Hid (okN l = true ∧ num l = -x) := by
                  have : okN l = true := by rw [hdn.1]; simp [hz]
                  exact ⟨this, by rw [num, this, HO.out.2, hdn.2]; rfl⟩
                rw [show decide (l[1] = 48) = false by simp [hz]] at ht0
                clear hdn hh he1 hz
                go_wp2
                go_ret2
                rw [HE.out.1, HE.out.2]
                exact ⟨rfl, rfl⟩
    · have hng' : neg l = false := by simpa using hneg
      rw [hng'] at ht
      clear hng hneg
      have hng := hng'
      clear hng'
      have ho : offN l = 0 := by unfold offN; rw [hng]; rfl
      by_cases hs1 : (l.length : Int) - 0 < 1
      · exact absurd hs1 (by omega)
      · by_cases hs2 : 9 < (l.length : Int) - 0
        · have HE : Hid (okN l = false ∧ num l = 0) := by
            have := okN_long l (by omega)
            exact ⟨this, num_not this⟩
          clear hng ho
          go_enter Tryd.func63, Tryd.ntmps63
          go_wp2
          go_ret2
          rw [HE.out.1, HE.out.2]
          exact ⟨rfl, rfl⟩
        · have HO : Hid (offN l = 0 ∧ neg l = false) := ⟨ho, hng⟩
          clear hng ho
          go_enter Tryd.func63, Tryd.ntmps63
          go_wp2
          go_loop [8, 9] (fun n k => ∃ (j : Nat) (x : Int), (0 : Int) ≤ j ∧ (j : Int) ≤ l.length ∧ k = .int .i64 j ∧ n = .int .i64 x ∧ 0 ≤ x ∧ x < 1000000000 ∧ Hid (RdInv l j x)) (fun _ k => l.length - (intOf k).toNat)
          case atStart => exact ⟨0, 0, by omega, by omega, rfl, rfl, by omega, by omega, by rw [Hid, ← HO.out.1]; exact RdInv.start l⟩
          case round =>
            obtain ⟨j, x, hj0, hj1, rfl, rfl, hx0, hx1, HI⟩ := hrel
            by_cases hlt : (j : Int) < (l.length : Int)
            · have hj : j < l.length := by omega
              have hbv := byteV_is l j hj
              by_cases hlo : byteV l j hj < 48
              · have HE : Hid (okN l = false ∧ num l = 0) := by
                  have := RdInv.bad (l := l) (j := j) (by rw [HO.out.1]; omega) hj (by rw [hbv] at hlo; simp [isDig]; omega)
                  exact ⟨this, num_not this⟩
                unfold byteV at hlo
                clear hbv
                go_wp2
                go_ret2
                rw [HE.out.1, HE.out.2]
                exact ⟨rfl, rfl⟩
              · by_cases hhi : 57 < byteV l j hj
                · have HE : Hid (okN l = false ∧ num l = 0) := by
                    have := RdInv.bad (l := l) (j := j) (by rw [HO.out.1]; omega) hj (by rw [hbv] at hhi; simp [isDig]; omega)
                    exact ⟨this, num_not this⟩
                  unfold byteV at hlo hhi
                  clear hbv
                  go_wp2
                  go_ret2
                  rw [HE.out.1, HE.out.2]
                  exact ⟨rfl, rfl⟩
                · have HN : Hid (RdInv l (j + 1) (x * 10 + (byteV l j hj - 48))) := by
                    rw [Hid, hbv]
                    exact HI.out.next (by rw [HO.out.1]; omega) hj (by rw [hbv] at hlo hhi; simp [isDig]; omega)
                  have HNb := HN.out.bd (by rw [HO.out.1]; omega)
                  have hlo2 : 48 ≤ byteV l j hj := by omega
                  have hhi2 : byteV l j hj ≤ 57 := by omega
                  clear hbv
                  unfold byteV at hlo hhi hlo2 hhi2 HN HNb
                  go_wp2
                  go_round
                  case rel => exact ⟨j + 1, _, by omega, by omega, by go_num, rfl, HNb.1, HNb.2, HN⟩
                  case measure => simp [intOf]; omega
            · obtain rfl : j = l.length := by omega
              have hh := head_digs l (by rw [HO.out.1]; exact hpos)
              have he1 : l[offN l]'(by rw [HO.out.1]; exact hpos) = l[0] := by congr 1; exact HO.out.1
              rw [he1] at hh
              have hdn := HI.out.done (by rw [HO.out.1]; omega) (by rw [HO.out.1]; omega)
              rw [hh] at hdn
              have ht0 := byteAt_is l 0 hpos 48 48 rfl
              by_cases hz : l[0] = 48
              · rw [show decide (l[0] = 48) = true by simp [hz]] at ht0
                by_cases h1l : 1 < (l.length : Int)
                · have HE : Hid (okN l = false ∧ num l = 0) := by
                    have h2 : 1 < l.length := by omega
                    have : okN l = false := by rw [hdn.1]; simp [hz, h2]
                    exact ⟨this, num_not this⟩
                  clear hdn hh he1 hz ht
                  go_wp2
                  go_ret2
                  rw [HE.out.1, HE.out.2]
                  exact ⟨rfl, rfl⟩
                · have HE : Hid (okN l = true ∧ num l = x) := by
                    have h2 : ¬ 1 < l.length := by omega
                    have : okN l = true := by rw [hdn.1]; simp [h2]
                    exact ⟨this, by rw [num, this, HO.out.2, hdn.2]; rfl⟩
                  clear hdn hh he1 hz ht
                  go_wp2
                  go_ret2
                  rw [HE.out.1, HE.out.2]
                  exact ⟨rfl, rfl⟩
              · have HE : Hid (okN l = true ∧ num l = x) := by
                  have : okN l = true := by rw [hdn.1]; simp [hz]
                  exact ⟨this, by rw [num, this, HO.out.2, hdn.2]; rfl⟩
                rw [show decide (l[0] = 48) = false by simp [hz]] at ht0
                clear hdn hh he1 hz ht
                go_wp2
                go_ret2
                rw [HE.out.1, HE.out.2]
                exact ⟨rfl, rfl⟩

set_option maxRecDepth 20000 in
set_option maxHeartbeats 400000 in
theorem sread_any (l : Bs) (w : World) (hl : l.length ≤ 1048576) :
    Calls Tryd.prog 47 #[S l] w fun e w' => e = .returned (.tuple #[.int .i64 (num l), .bool (okN l)]) ∧ w' = w := by
  have c1 := sdigits_any l w hl
  go_enter Tryd.func47, Tryd.ntmps47
  go_wp2_with fail
  refine c1.mono ?_
  rintro e w' ⟨rfl, hw⟩; subst w'
  clear c1
  go_wp2_with fail
  go_ret2
  exact ⟨rfl, rfl⟩
end Go.Proofs.YtjdmbjeginnjiaaDoor
