/- Copiers by the model: l13Turns, CopierOk, Clean. -/
import Derived.Test.YtdcdfhklnhaimaaCp
import Derived.Test.YtdcdfhklnhaimaaStB
import Derived.Test.YtdcdfhklnhaimaaSIn
import Derived.Test.YtdcdfhklnhaimaaWith
import Derived.Test.YtdcdfhklnhaimaaLists
import Derived.Test.YtdcdfhklnhaimaaSta
import Derived.Test.YtdcdfhklnhaimaaSz
import Derived.BigRegion
import Derived.Deep.RegionHeld3
import Derived.Deep.DeepCutAuto
namespace Go.Proofs.Ytdcdfhklnhaimaa
open Go.ChangeShapes Go.WideShapes Go.ChangeAt Go.RowKit

set_option maxRecDepth 20000 in
set_option maxHeartbeats 1000000 in
theorem sturns_any (v : Value) (ts : List Int) (w : World) (hr : Reads w v ts) (hl : ts.length ≤ 1099511627776) :
    Calls Try.prog 40 #[v] w fun e w' => e = .returned (.bool (turnsI ts && inI ts.length 1 8)) ∧ w' = w := by
  have HE : Hid (∀ b : Bool, turnsI ts = b → (turnsI ts && inI ts.length 1 8) = (b && inI ts.length 1 8)) := fun b h => by rw [h]
  obtain ⟨ao, cap, rfl⟩ := reads_form hr
  obtain ⟨-, hc1, hc2, hcell⟩ := reads_cells hr
  have ck := fun x wx => sin6_any x 0 1000000000 wx
  have cl := fun wx => sin6_any (ts.length : Int) 1 8 wx
  obtain ⟨x, hx⟩ : ∃ x, x = (turnsI ts && inI ts.length 1 8) := ⟨_, rfl⟩
  simp only [← hx] at HE ⊢
  obtain ⟨y, hy⟩ : ∃ y, y = inI ts.length 1 8 := ⟨_, rfl⟩
  simp only [← hy] at HE cl
  obtain ⟨n, hn⟩ : ∃ n, n = ts.length := ⟨_, rfl⟩
  rw [← hn] at hl hc1 hcell
  simp only [← hn] at cl ⊢
  have HN : Hid (n = ts.length) := hn
  unfold maxLen at hc2
  clear hr hn hx hy
  go_enter Try.func40, Try.ntmps40
  go_wp2
  go_loop [3] (fun i => ∃ j : Nat, j ≤ n ∧ i = .int .i64 j ∧ Hid (turnsI (ts.take j) = true)) (fun i => n - (intOf i).toNat)
  case atStart => exact ⟨0, Nat.zero_le _, rfl, by simp [Hid, turnsI]⟩
  case round =>
    obtain ⟨j, hj, rfl, HT⟩ := hrel
    by_cases hlt : (j : Int) < (n : Int)
    · obtain ⟨b, off, rfl, hcj⟩ := hcell j (by omega)
      clear hcell cl
      have hjl : j < ts.length := by have := HN.out; omega
      have HA : Hid (inI (ts.getD j 0) 0 1000000000 = false → turnsI ts = false) := turns_not ts j hjl
      have HZ : Hid (inI (ts.getD j 0) 0 1000000000 = true → turnsI (ts.take (j + 1)) = true) := turns_take ts j hjl HT.out
      have ckj := fun wx => ck (ts.getD j 0) wx
      obtain ⟨z, hz⟩ : ∃ z, z = ts.getD j 0 := ⟨_, rfl⟩
      rw [← hz] at hcj HA HZ
      simp only [← hz] at ckj
      obtain ⟨bz, hbz⟩ : ∃ bz, bz = inI z 0 1000000000 := ⟨_, rfl⟩
      rw [← hbz] at HA HZ
      simp only [← hbz] at ckj
      clear hz hjl hbz ck
      go_wp2_with fail
      refine (ckj _).mono ?_
      rintro e w' ⟨rfl, hw⟩; subst w'
      cases bz with
      | true =>
        have HZ2 : Hid (turnsI (ts.take (j + 1)) = true) := HZ.out rfl
        clear HZ HA
        go_wp2
        go_round
        case rel => exact ⟨j + 1, by omega, by go_num, HZ2.out⟩
        case measure => simp [intOf]; omega
      | false =>
        have HX : Hid (x = false) := by rw [Hid, HE.out false (HA.out rfl)]; rfl
        clear HZ HA
        go_wp2
        go_ret
        rw [HX.out]
        exact ⟨rfl, rfl⟩
    · have HX : Hid (x = y) := by
        have := HT.out
        rw [List.take_of_length_le (by have := HN.out; omega)] at this
        rw [Hid, HE.out true this]; rfl
      clear HT ck
      go_wp2_with fail
      refine (cl _).mono ?_
      rintro e w' ⟨rfl, hw⟩; subst w'
      go_wp2
      go_ret
      rw [HX.out]
      exact ⟨rfl, rfl⟩
end Go.Proofs.Ytdcdfhklnhaimaa
