/- Holdings by the model, on: l8Registered, Registered, l8Holds, Holds, l8May, May. -/
import Derived.Test.YtppkncmlloelbaaSHold
namespace Go.Proofs.Ytppkncmlloelbaa
open Go.ChangeShapes Go.WideShapes Go.ChangeAt Go.RowKit

set_option maxRecDepth 20000 in
set_option maxHeartbeats 1000000 in
theorem s8reg_any (v : Value) (h : Hd) (i : Int) (w : World) (hr : Reads w v h.ks) (h0 : 0 ≤ i) (hi : i < (h.ks.length : Int)) :
    Calls Try.prog 52 #[HV v h, .int .i64 i] w fun e w' => e = .returned (.bool (regI h.ks i)) ∧ Below w.heap.size w w' := by
  have HE : Hid (regI h.ks i = decide (h.ks.getD i.toNat 0 ≠ 0)) := rfl
  obtain ⟨ao, cap, rfl⟩ := reads_form hr
  obtain ⟨w1, hw1⟩ : ∃ w1, w1 = w.alloc (.cells (hdA (.slice ao h.ks.length cap) h) 26) := ⟨_, rfl⟩
  have H1 : HdB w1 w.heap.size 26 (.slice ao h.ks.length cap) h := by rw [hw1]; exact HdB.new _ hr
  have HB : Hid (Below w.heap.size w w1) := by rw [hw1]; exact (Below.refl _ _).alloc (Nat.le_refl _) _
  obtain ⟨-, hc1, hc2, hcell⟩ := reads_cells H1.2
  obtain ⟨b, off, rfl, hcj⟩ := hcell i.toNat (by omega)
  obtain ⟨y, hy⟩ : ∃ y, y = h.ks.getD i.toNat 0 := ⟨_, rfl⟩
  rw [← hy] at hcj HE
  have hic : ((i.toNat : Nat) : Int) = i := by omega
  have k0 : w1.cell? ⟨w.heap.size, 0, none⟩ = some (.slice (some ⟨b, off, none⟩) h.ks.length cap) := H1.1.cell 0 rfl
  have HW : Hid (w1 = w.alloc (.cells #[.slice (some ⟨b, off, none⟩) h.ks.length cap, .int .i64 h.kd, .int .i64 h.ho, .int .i64 h.tu] 26)) := hw1
  unfold maxLen at hc2
  unfold HV hdA
  obtain ⟨n, hn⟩ : ∃ n, n = h.ks.length := ⟨_, rfl⟩
  rw [← hn] at k0 HW hi hc1 ⊢
  clear hcell hy hr hw1 H1 hn
  have hw := HW.out
  subst hw
  by_cases hy0 : y = 0
  · go_enter Try.func52, Try.ntmps52
    go_wp2
    go_ret
    exact ⟨ret_bool (by rw [HE.out]; simp [hy0]), HB.out⟩
  · have hyn : (y != 0) = true := by simpa using hy0
    go_enter Try.func52, Try.ntmps52
    go_wp2
    go_ret
    exact ⟨ret_bool (by rw [HE.out]; simp [hy0]), HB.out⟩

set_option maxRecDepth 20000 in
set_option maxHeartbeats 1000000 in
theorem s8holds_any (v : Value) (h : Hd) (i : Int) (w : World) (hr : Reads w v h.ks) (h0 : 0 ≤ i) (hi : i < (h.ks.length : Int)) :
    Calls Try.prog 63 #[HV v h, .int .i64 i] w fun e w' => e = .returned (.bool (h.holds i)) ∧ Below w.heap.size w w' := by
  have HE : Hid (h.holds i = (decide (h.kd ≠ 0) && (decide (h.ho = i) || (allI h.kd && regI h.ks i)))) := rfl
  have B1 : Below w.heap.size w (w.alloc (.cells (hdA v h) 26)) := (Below.refl _ _).alloc (Nat.le_refl _) _
  have cf := fun wx => sall_any h.kd wx
  have cr := s8reg_any v h i (w.alloc (.cells (hdA v h) 26)) (hr.below B1 (Nat.le_refl _)) h0 hi
  obtain ⟨x, hx⟩ : ∃ x, x = h.holds i := ⟨_, rfl⟩
  obtain ⟨bf, hbf⟩ : ∃ bf, bf = allI h.kd := ⟨_, rfl⟩
  obtain ⟨br, hbr⟩ : ∃ br, br = regI h.ks i := ⟨_, rfl⟩
  rw [← hx] at HE ⊢
  rw [← hbf, ← hbr] at HE
  rw [← hbr] at cr
  simp only [← hbf] at cf
  have hone := reads_one hr
  obtain ⟨ao, cap, rfl⟩ := reads_form hr
  clear hx hbf hbr hr hone
  unfold HV hdA at *
  by_cases hk : h.kd = 0
  · have HX : Hid (x = false) := by rw [Hid, HE.out]; simp [hk]
    clear HE cf cr
    go_enter Try.func63, Try.ntmps63
    go_wp2
    go_ret
    exact ⟨ret_bool (by rw [HX.out]), by first | exact B1 | (rw [hk] at B1; exact B1)⟩
  · have hkn : (h.kd != 0) = true := by simpa using hk
    by_cases hoi : h.ho = i
    · have HX : Hid (x = true) := by rw [Hid, HE.out]; simp [hk, hoi]
      clear HE cf cr
      subst hoi
      go_enter Try.func63, Try.ntmps63
      go_wp2
      go_ret
      exact ⟨ret_bool (by rw [HX.out]), B1⟩
    · have HX : Hid (x = (bf && br)) := by rw [Hid, HE.out]; simp [hk, hoi]
      clear HE
      have hon : (h.ho == i) = false := by simpa using hoi
      cases bf with
      | false =>
        clear cr
        go_enter Try.func63, Try.ntmps63
        go_wp2_with fail
        refine (cf _).mono ?_
        rintro e w' ⟨rfl, hw⟩; subst w'
        go_wp2
        go_ret
        exact ⟨ret_bool (by rw [HX.out]; rfl), B1⟩
      | true =>
        go_enter Try.func63, Try.ntmps63
        go_wp2_with fail
        refine (cf _).mono ?_
        rintro e w' ⟨rfl, hw⟩; subst w'
        go_wp2_with fail
        refine cr.mono ?_
        rintro e w2 ⟨rfl, b2⟩
        have B2 := B1.trans (b2.mono B1.size)
        clear b2 B1 cr cf
        go_wp2
        go_ret
        exact ⟨ret_bool (by rw [HX.out]; simp), B2⟩

set_option maxRecDepth 20000 in
set_option maxHeartbeats 1000000 in
theorem sReg_any (v : Value) (h : Hd) (i : Int) (w : World) (hr : Reads w v h.ks) (hl : h.ks.length ≤ 1099511627776) :
    Calls Try.prog 21 #[HV v h, .int .i64 i] w fun e w' => e = .returned (.bool (h.Reg i)) ∧ Below w.heap.size w w' := by
  have HE : Hid (h.Reg i = (h.ok && inI i 0 3 && regI h.ks i)) := rfl
  have B1 : Below w.heap.size w (w.alloc (.cells (hdA v h) 26)) := (Below.refl _ _).alloc (Nat.le_refl _) _
  have H1 := HdB.new (v := v) (h := h) 26 hr
  have co := sholdok_any v h (w.alloc (.cells (hdA v h) 26)) H1.2 hl
  have cw := fun wx => swho_any i wx
  have cr := fun wx (k : Reads wx v h.ks) (a1 : 0 ≤ i) (b1 : i < (h.ks.length : Int)) => s8reg_any v h i wx k a1 b1
  have HL : Hid (h.ok = true → h.ks.length = 4) := Hd.ok_len
  obtain ⟨x, hx⟩ : ∃ x, x = h.Reg i := ⟨_, rfl⟩
  obtain ⟨bo, hbo⟩ : ∃ bo, bo = h.ok := ⟨_, rfl⟩
  obtain ⟨bw, hbw⟩ : ∃ bw, bw = inI i 0 3 := ⟨_, rfl⟩
  obtain ⟨br, hbr⟩ : ∃ br, br = regI h.ks i := ⟨_, rfl⟩
  have HWR : Hid (bw = true → 0 ≤ i ∧ i ≤ 3) := fun e => (inI_iff _ _ _).1 (by rw [← hbw, e])
  rw [← hx] at HE ⊢
  rw [← hbo, ← hbw, ← hbr] at HE
  rw [← hbo] at co HL
  simp only [← hbw] at cw
  simp only [← hbr] at cr
  obtain ⟨ao, cap, rfl⟩ := reads_form hr
  clear hx hbo hbw hbr hr hl
  have Hcr : Hid _ := cr
  have HH : Hid _ := H1
  clear cr H1
  unfold HV hdA at *
  go_enter Try.func21, Try.ntmps21
  go_wp2_with fail
  refine co.mono ?_
  rintro e w2 ⟨rfl, b2⟩
  have H2 : Hid (HdB w2 w.heap.size 26 (.slice ao h.ks.length cap) h) := HdB.below HH.out b2
  have B2 := B1.trans (b2.mono B1.size)
  clear HH b2 B1 co
  cases bo with
  | false =>
    go_wp2
    go_ret
    exact ⟨ret_bool (by rw [HE.out]; rfl), B2⟩
  | true =>
    have hlen := HL.out rfl
    go_wp2_with fail
    refine (cw _).mono ?_
    rintro e w' ⟨rfl, hw⟩; subst w'
    clear cw
    cases bw with
    | false =>
      clear hlen
      go_wp2
      go_ret
      exact ⟨ret_bool (by rw [HE.out]; rfl), B2⟩
    | true =>
      obtain ⟨hi0, hi3⟩ := HWR.out rfl
      have cr := Hcr.out w2 H2.out.2 hi0 (by omega)
      have k0 : w2.cell? ⟨w.heap.size, 0, none⟩ = some (.slice ao h.ks.length cap) := H2.out.1.cell 0 rfl
      have k1 : w2.cell? ⟨w.heap.size, 1, none⟩ = some (.int .i64 h.kd) := H2.out.1.cell 1 rfl
      have k2 : w2.cell? ⟨w.heap.size, 2, none⟩ = some (.int .i64 h.ho) := H2.out.1.cell 2 rfl
      have k3 : w2.cell? ⟨w.heap.size, 3, none⟩ = some (.int .i64 h.tu) := H2.out.1.cell 3 rfl
      clear hlen Hcr HL
      go_wp2_with fail
      refine cr.mono ?_
      rintro e w3 ⟨rfl, b3⟩
      have B3 := B2.trans (b3.mono B2.size)
      clear k0 k1 k2 k3 b3 cr H2
      go_wp2
      go_ret
      exact ⟨ret_bool (by rw [HE.out]; simp), B3⟩

set_option maxRecDepth 20000 in
set_option maxHeartbeats 1000000 in
theorem sHol_any (v : Value) (h : Hd) (i : Int) (w : World) (hr : Reads w v h.ks) (hl : h.ks.length ≤ 1099511627776) :
    Calls Try.prog 34 #[HV v h, .int .i64 i] w fun e w' => e = .returned (.bool (h.Hol i)) ∧ Below w.heap.size w w' := by
  have HE : Hid (h.Hol i = (h.ok && inI i 0 3 && h.holds i)) := rfl
  have B1 : Below w.heap.size w (w.alloc (.cells (hdA v h) 26)) := (Below.refl _ _).alloc (Nat.le_refl _) _
  have H1 := HdB.new (v := v) (h := h) 26 hr
  have co := sholdok_any v h (w.alloc (.cells (hdA v h) 26)) H1.2 hl
  have cw := fun wx => swho_any i wx
  have cr := fun wx (k : Reads wx v h.ks) (a1 : 0 ≤ i) (b1 : i < (h.ks.length : Int)) => s8holds_any v h i wx k a1 b1
  have HL : Hid (h.ok = true → h.ks.length = 4) := Hd.ok_len
  obtain ⟨x, hx⟩ : ∃ x, x = h.Hol i := ⟨_, rfl⟩
  obtain ⟨bo, hbo⟩ : ∃ bo, bo = h.ok := ⟨_, rfl⟩
  obtain ⟨bw, hbw⟩ : ∃ bw, bw = inI i 0 3 := ⟨_, rfl⟩
  obtain ⟨br, hbr⟩ : ∃ br, br = h.holds i := ⟨_, rfl⟩
  have HWR : Hid (bw = true → 0 ≤ i ∧ i ≤ 3) := fun e => (inI_iff _ _ _).1 (by rw [← hbw, e])
  rw [← hx] at HE ⊢
  rw [← hbo, ← hbw, ← hbr] at HE
  rw [← hbo] at co HL
  simp only [← hbw] at cw
  simp only [← hbr] at cr
  obtain ⟨ao, cap, rfl⟩ := reads_form hr
  clear hx hbo hbw hbr hr hl
  have Hcr : Hid _ := cr
  have HH : Hid _ := H1
  clear cr H1
  unfold HV hdA at *
  go_enter Try.func34, Try.ntmps34
  go_wp2_with fail
  refine co.mono ?_
  rintro e w2 ⟨rfl, b2⟩
  have H2 : Hid (HdB w2 w.heap.size 26 (.slice ao h.ks.length cap) h) := HdB.below HH.out b2
  have B2 := B1.trans (b2.mono B1.size)
  clear HH b2 B1 co
  cases bo with
  | false =>
    go_wp2
    go_ret
    exact ⟨ret_bool (by rw [HE.out]; rfl), B2⟩
  | true =>
    have hlen := HL.out rfl
    go_wp2_with fail
    refine (cw _).mono ?_
    rintro e w' ⟨rfl, hw⟩; subst w'
    clear cw
    cases bw with
    | false =>
      clear hlen
      go_wp2
      go_ret
      exact ⟨ret_bool (by rw [HE.out]; rfl), B2⟩
    | true =>
      obtain ⟨hi0, hi3⟩ := HWR.out rfl
      have cr := Hcr.out w2 H2.out.2 hi0 (by omega)
      have k0 : w2.cell? ⟨w.heap.size, 0, none⟩ = some (.slice ao h.ks.length cap) := H2.out.1.cell 0 rfl
      have k1 : w2.cell? ⟨w.heap.size, 1, none⟩ = some (.int .i64 h.kd) := H2.out.1.cell 1 rfl
      have k2 : w2.cell? ⟨w.heap.size, 2, none⟩ = some (.int .i64 h.ho) := H2.out.1.cell 2 rfl
      have k3 : w2.cell? ⟨w.heap.size, 3, none⟩ = some (.int .i64 h.tu) := H2.out.1.cell 3 rfl
      clear hlen Hcr HL
      go_wp2_with fail
      refine cr.mono ?_
      rintro e w3 ⟨rfl, b3⟩
      have B3 := B2.trans (b3.mono B2.size)
      clear k0 k1 k2 k3 b3 cr H2
      go_wp2
      go_ret
      exact ⟨ret_bool (by rw [HE.out]; simp), B3⟩
end Go.Proofs.Ytppkncmlloelbaa
