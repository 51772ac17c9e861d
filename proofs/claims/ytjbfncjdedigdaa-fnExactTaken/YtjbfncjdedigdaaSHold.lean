/- Holdings by the model: l8Who, l8Any, HoldingOk, l8Registered, Registered, l8Holds, Holds, l8May, May, NewHolding. -/
import Derived.Test.YtjbfncjdedigdaaM4
import Derived.Test.YtjbfncjdedigdaaM6
import Derived.BigRegion
import Derived.Deep.RegionHeld3
namespace Go.Proofs.Ytjbfncjdedigdaa
open Go.ChangeShapes Go.WideShapes Go.ChangeAt Go.RowKit

def hdA (v : Value) (h : Hd) : Array Value := #[v, .int .i64 h.kd, .int .i64 h.ho, .int .i64 h.tu]
def HV (v : Value) (h : Hd) : Value := .agg (hdA v h)
theorem Try.isH : IsS 33 4 := ⟨⟨_, Try.underlying33⟩, by kernel_rfl⟩
/- A holding lies in a block of the call's own, and its keys can be read. -/
def HdB (w : World) (g : Nat) (t : TypeId) (v : Value) (h : Hd) : Prop := StB w g t (hdA v h) ∧ Reads w v h.ks
theorem HdB.new {w : World} {v : Value} {h : Hd} (t : TypeId) (hr : Reads w v h.ks) : HdB (w.alloc (.cells (hdA v h) t)) w.heap.size t v h :=
  ⟨StB.new w t _, hr.below ((Below.refl _ _).alloc (Nat.le_refl _) _) (Nat.le_refl _)⟩
theorem HdB.below {w w' : World} {g : Nat} {t : TypeId} {v : Value} {h : Hd} (k : HdB w g t v h) (hb : Below w.heap.size w w') : HdB w' g t v h := ⟨k.1.below hb, k.2.below hb (Nat.le_refl _)⟩
theorem HdB.alloc {w : World} {g : Nat} {t : TypeId} {v : Value} {h : Hd} (k : HdB w g t v h) (o : Obj) : HdB (w.alloc o) g t v h := k.below ((Below.refl _ _).alloc (Nat.le_refl _) _)
theorem HdB.drewN {w : World} {g : Nat} {t : TypeId} {v : Value} {h : Hd} (k : HdB w g t v h) (n : Nat) : HdB (w.drewN n) g t v h := k.below (below_drewN (Below.refl _ _) n)

set_option maxRecDepth 20000 in
set_option maxHeartbeats 400000 in
theorem swho_any (k : Int) (w : World) :
    Calls Try.prog 79 #[.int .i64 k] w fun e w' => e = .returned (.bool (inI k 0 3)) ∧ w' = w := by
  have c1 := sin6_any k 0 3 w
  go_enter Try.func79, Try.ntmps79
  go_wp2_with fail
  refine c1.mono ?_
  rintro e w' ⟨rfl, hw⟩; subst w'
  clear c1
  go_wp2_with fail
  go_ret
  exact ⟨rfl, rfl⟩

set_option maxRecDepth 20000 in
set_option maxHeartbeats 1000000 in
theorem s8any_any (v : Value) (h : Hd) (w : World) (hr : Reads w v h.ks) (hl : h.ks.length ≤ 1099511627776) :
    Calls Try.prog 77 #[HV v h] w fun e w' => e = .returned (.bool (anyI h.ks)) ∧ Below w.heap.size w w' := by
  obtain ⟨ao, cap, rfl⟩ := reads_form hr
  obtain ⟨w1, hw1⟩ : ∃ w1, w1 = w.alloc (.cells (hdA (.slice ao h.ks.length cap) h) 33) := ⟨_, rfl⟩
  have H1 : HdB w1 w.heap.size 33 (.slice ao h.ks.length cap) h := by rw [hw1]; exact HdB.new _ hr
  have HB : Hid (Below w.heap.size w w1) := by rw [hw1]; exact (Below.refl _ _).alloc (Nat.le_refl _) _
  have HW : Hid (w1 = w.alloc (.cells #[.slice ao h.ks.length cap, .int .i64 h.kd, .int .i64 h.ho, .int .i64 h.tu] 33)) := hw1
  have k0 : w1.cell? ⟨w.heap.size, 0, none⟩ = some (.slice ao h.ks.length cap) := H1.1.cell 0 rfl
  obtain ⟨-, hc1, hc2, hcell⟩ := reads_cells H1.2
  obtain ⟨n, hn⟩ : ∃ n, n = h.ks.length := ⟨_, rfl⟩
  rw [← hn] at hl k0 hc1 hcell HW
  unfold HV hdA
  rw [← hn]
  have HN : Hid (n = h.ks.length) := hn
  unfold maxLen at hc2
  clear hw1 H1 hr hn
  go_enter Try.func77, Try.ntmps77
  go_wp2
  rw [← HW.out]
  go_loop [3] (fun i => ∃ j : Nat, j ≤ n ∧ i = .int .i64 j ∧ Hid (anyI (h.ks.take j) = false)) (fun i => n - (intOf i).toNat)
  case atStart => exact ⟨0, Nat.zero_le _, rfl, by simp [Hid, anyI]⟩
  case round =>
    obtain ⟨j, hj, rfl, HT⟩ := hrel
    by_cases hlt : (j : Int) < (n : Int)
    · obtain ⟨b, off, rfl, hcj⟩ := hcell j (by omega)
      clear hcell
      have hjl : j < h.ks.length := by have := HN.out; omega
      have HA : Hid (h.ks.getD j 0 ≠ 0 → anyI h.ks = true) := any_at h.ks j hjl
      have HZ : Hid (h.ks.getD j 0 = 0 → anyI (h.ks.take (j + 1)) = false) := any_take h.ks j hjl HT.out
      obtain ⟨x, hx⟩ : ∃ x, x = h.ks.getD j 0 := ⟨_, rfl⟩
      rw [← hx] at hcj HA HZ
      clear hx hjl
      by_cases h0 : x = 0
      · go_wp2
        go_round
        case rel => exact ⟨j + 1, by omega, by go_num, HZ.out h0⟩
        case measure => simp [intOf]; omega
      · have hne : (x != 0) = true := by simpa using h0
        go_wp2
        go_ret
        rw [HA.out h0]
        exact ⟨rfl, HB.out⟩
    · have HE : Hid (anyI h.ks = false) := by
        have := HT.out
        rwa [List.take_of_length_le (by have := HN.out; omega)] at this
      go_wp2
      go_ret
      rw [HE.out]
      exact ⟨rfl, HB.out⟩

set_option maxRecDepth 20000 in
set_option maxHeartbeats 2000000 in
theorem sholdok_any (v : Value) (h : Hd) (w : World) (hr : Reads w v h.ks) (hl : h.ks.length ≤ 1099511627776) :
    Calls Try.prog 59 #[HV v h] w fun e w' => e = .returned (.bool h.ok) ∧ Below w.heap.size w w' := by
  have HE : Hid (h.ok = (decide (h.ks.length = 4) && inI h.tu 0 1000000000 && keysI h.ks && h.mid)) := rfl
  have HM : Hid (h.mid = if h.kd = 0 then decide (h.ho = -1) else if allI h.kd then decide (h.ho = -1) && anyI h.ks else kiI h.kd && inI h.ho 0 3 && regI h.ks h.ho) := rfl
  obtain ⟨ao, cap, rfl⟩ := reads_form hr
  obtain ⟨w1, hw1⟩ : ∃ w1, w1 = w.alloc (.cells (hdA (.slice ao h.ks.length cap) h) 33) := ⟨_, rfl⟩
  have H1 : HdB w1 w.heap.size 33 (.slice ao h.ks.length cap) h := by rw [hw1]; exact HdB.new _ hr
  have HB : Hid (Below w.heap.size w w1) := by rw [hw1]; exact (Below.refl _ _).alloc (Nat.le_refl _) _
  have HW : Hid (w1 = w.alloc (.cells #[.slice ao h.ks.length cap, .int .i64 h.kd, .int .i64 h.ho, .int .i64 h.tu] 33)) := hw1
  have k0 : w1.cell? ⟨w.heap.size, 0, none⟩ = some (.slice ao h.ks.length cap) := H1.1.cell 0 rfl
  have k1 : w1.cell? ⟨w.heap.size, 1, none⟩ = some (.int .i64 h.kd) := H1.1.cell 1 rfl
  have k2 : w1.cell? ⟨w.heap.size, 2, none⟩ = some (.int .i64 h.ho) := H1.1.cell 2 rfl
  have k3 : w1.cell? ⟨w.heap.size, 3, none⟩ = some (.int .i64 h.tu) := H1.1.cell 3 rfl
  obtain ⟨-, hc1, hc2, hcell⟩ := reads_cells H1.2
  have ct := fun wx => sin6_any h.tu 0 1000000000 wx
  have ck := fun x wx => s6key_any x wx
  have cf := fun wx => sall_any h.kd wx
  have ca := fun wx => s8any_any (.slice ao h.ks.length cap) h wx
  have ci := fun wx => skind_any h.kd wx
  have cw := fun wx => swho_any h.ho wx
  have HR : Hid (Reads w1 (.slice ao h.ks.length cap) h.ks) := H1.2
  have HREG : Hid (regI h.ks h.ho = decide (h.ks.getD h.ho.toNat 0 ≠ 0)) := rfl
  obtain ⟨bt, hbt⟩ : ∃ bt, bt = inI h.tu 0 1000000000 := ⟨_, rfl⟩
  obtain ⟨bf, hbf⟩ : ∃ bf, bf = allI h.kd := ⟨_, rfl⟩
  obtain ⟨bi, hbi⟩ : ∃ bi, bi = kiI h.kd := ⟨_, rfl⟩
  obtain ⟨bw, hbw⟩ : ∃ bw, bw = inI h.ho 0 3 := ⟨_, rfl⟩
  have HWR : Hid (bw = true → 0 ≤ h.ho ∧ h.ho ≤ 3) := fun e => (inI_iff _ _ _).1 (by rw [← hbw, e])
  rw [← hbt] at HE
  rw [← hbf, ← hbi, ← hbw] at HM
  simp only [← hbt] at ct
  simp only [← hbf] at cf
  simp only [← hbi] at ci
  simp only [← hbw] at cw
  obtain ⟨x, hx⟩ : ∃ x, x = h.ok := ⟨_, rfl⟩
  rw [← hx] at HE ⊢
  obtain ⟨n, hn⟩ : ∃ n, n = h.ks.length := ⟨_, rfl⟩
  rw [← hn] at hl k0 hc1 hcell HW HE HR
  simp only [← hn] at ca
  unfold HV hdA at ca
  unfold HV hdA
  rw [← hn]
  have Hca : Hid _ := ca
  have HN : Hid (n = h.ks.length) := hn
  unfold maxLen at hc2
  clear hw1 H1 hr hn hx hbt hbf hbi hbw ca
  by_cases hn4 : (n : Int) = 4
  case neg =>
    have HX : Hid (x = false) := by rw [Hid, HE.out, show decide (n = 4) = false by simp; omega]; rfl
    have hne : ((n : Int) != 4) = true := by simpa using hn4
    clear hcell
    go_enter Try.func59, Try.ntmps59
    go_wp2
    rw [← HW.out]
    go_ret
    rw [HX.out]
    exact ⟨rfl, HB.out⟩
  obtain rfl : n = 4 := by omega
  cases bt with
  | false =>
    have HX : Hid (x = false) := by rw [Hid, HE.out]; rfl
    clear hcell
    go_enter Try.func59, Try.ntmps59
    go_wp2_with fail
    rw [← HW.out]
    refine (ct _).mono ?_
    rintro e w' ⟨rfl, hw⟩; subst w'
    go_wp2
    go_ret
    rw [HX.out]
    exact ⟨rfl, HB.out⟩
  | true =>
    have HY : Hid (x = (keysI h.ks && h.mid)) := by rw [Hid, HE.out]; simp
    clear HE
    go_enter Try.func59, Try.ntmps59
    go_wp2_with fail
    rw [← HW.out]
    refine (ct _).mono ?_
    rintro e w' ⟨rfl, hw⟩; subst w'
    clear ct HW
    go_wp2
    go_loop [3] (fun i => ∃ j : Nat, (j : Int) ≤ 4 ∧ i = .int .i64 j ∧ Hid (keysI (h.ks.take j) = true)) (fun i => 4 - (intOf i).toNat)
    case atStart => exact ⟨0, by omega, rfl, by simp [Hid, keysI]⟩
    case round =>
      obtain ⟨j, hj, rfl, HT⟩ := hrel
      by_cases hlt : (j : Int) < 4
      · obtain ⟨b, off, rfl, hcj⟩ := hcell j (by omega)
        clear hcell
        have hjl : j < h.ks.length := by have := HN.out; omega
        have HA : Hid (inI (h.ks.getD j 0) 0 9999 = false → keysI h.ks = false) := keys_not h.ks j hjl
        have HZ : Hid (inI (h.ks.getD j 0) 0 9999 = true → keysI (h.ks.take (j + 1)) = true) := keys_take h.ks j hjl HT.out
        have ckj := fun wx => ck (h.ks.getD j 0) wx
        obtain ⟨y, hy⟩ : ∃ y, y = h.ks.getD j 0 := ⟨_, rfl⟩
        rw [← hy] at hcj HA HZ
        simp only [← hy] at ckj
        obtain ⟨by1, hby⟩ : ∃ by1, by1 = inI y 0 9999 := ⟨_, rfl⟩
        rw [← hby] at HA HZ
        simp only [← hby] at ckj
        clear hy hjl hby ck
        go_wp2_with fail
        refine (ckj _).mono ?_
        rintro e w' ⟨rfl, hw⟩; subst w'
        cases by1 with
        | true =>
          have HZ2 : Hid (keysI (h.ks.take (j + 1)) = true) := HZ.out rfl
          clear HZ HA
          go_wp2
          go_round
          case rel => exact ⟨j + 1, by omega, by go_num, HZ2.out⟩
          case measure => simp [intOf]; omega
        | false =>
          have HX : Hid (x = false) := by rw [Hid, HY.out, HA.out rfl]; rfl
          clear HZ HA
          go_wp2
          go_ret
          rw [HX.out]
          exact ⟨rfl, HB.out⟩
      · have HK : Hid (x = h.mid) := by
          have := HT.out
          rw [List.take_of_length_le (by have := HN.out; omega)] at this
          rw [Hid, HY.out, this]; rfl
        clear HY HT ck
        by_cases hk0 : h.kd = 0
        · have HX : Hid (x = decide (h.ho = -1)) := by rw [Hid, HK.out, HM.out, if_pos hk0]
          clear HK HM Hca cf ci cw hcell
          by_cases hm1 : h.ho = -1
          · go_wp2
            go_ret
            exact ⟨ret_bool (by rw [HX.out]; simp [hm1]), HB.out⟩
          · go_wp2
            go_ret
            exact ⟨ret_bool (by rw [HX.out]; simp [hm1]), HB.out⟩
        · cases bf with
          | true =>
            have HX : Hid (x = (decide (h.ho = -1) && anyI h.ks)) := by rw [Hid, HK.out, HM.out, if_neg hk0, if_pos rfl]
            clear HK HM ci cw hcell
            go_wp2_with fail
            refine (cf _).mono ?_
            rintro e w' ⟨rfl, hw⟩; subst w'
            clear cf
            by_cases hm1 : h.ho = -1
            · have HX2 : Hid (x = anyI h.ks) := by rw [Hid, HX.out]; simp [hm1]
              have ca := Hca.out w1 HR.out (by have := HN.out; omega)
              rw [hm1] at ca
              clear HX Hca
              go_wp2_with fail
              refine ca.mono ?_
              rintro e w2 ⟨rfl, b2⟩
              go_wp2
              go_ret
              rw [HX2.out]
              exact ⟨rfl, HB.out.trans (b2.mono HB.out.size)⟩
            · have HX2 : Hid (x = false) := by rw [Hid, HX.out]; simp [hm1]
              clear HX Hca
              go_wp2
              go_ret
              exact ⟨ret_bool (by rw [HX2.out]), HB.out⟩
          | false =>
            have HX : Hid (x = (bi && bw && regI h.ks h.ho)) := by rw [Hid, HK.out, HM.out, if_neg hk0, if_neg (by decide)]
            clear HK HM Hca
            go_wp2_with fail
            refine (cf _).mono ?_
            rintro e w' ⟨rfl, hw⟩; subst w'
            clear cf
            go_wp2_with fail
            refine (ci _).mono ?_
            rintro e w' ⟨rfl, hw⟩; subst w'
            clear ci
            cases bi with
            | false =>
              go_wp2
              go_ret
              exact ⟨ret_bool (by rw [HX.out]; rfl), HB.out⟩
            | true =>
              go_wp2_with fail
              refine (cw _).mono ?_
              rintro e w' ⟨rfl, hw⟩; subst w'
              clear cw
              cases bw with
              | false =>
                go_wp2
                go_ret
                exact ⟨ret_bool (by rw [HX.out]; rfl), HB.out⟩
              | true =>
                obtain ⟨hw0, hw3⟩ := HWR.out rfl
                obtain ⟨b, off, rfl, hcj⟩ := hcell h.ho.toNat (by omega)
                have HX2 : Hid (x = decide (h.ks.getD h.ho.toNat 0 ≠ 0)) := by rw [Hid, HX.out, HREG.out]; rfl
                obtain ⟨y, hy⟩ : ∃ y, y = h.ks.getD h.ho.toNat 0 := ⟨_, rfl⟩
                rw [← hy] at hcj HX2
                clear hcell hy HX HREG
                have hoc : ((h.ho.toNat : Nat) : Int) = h.ho := by omega
                by_cases hy0 : y = 0
                · go_wp2
                  go_ret
                  exact ⟨ret_bool (by rw [HX2.out]; simp [hy0]), HB.out⟩
                · have hyn : (y != 0) = true := by simpa using hy0
                  go_wp2
                  go_ret
                  exact ⟨ret_bool (by rw [HX2.out]; simp [hy0]), HB.out⟩
end Go.Proofs.Ytjbfncjdedigdaa
