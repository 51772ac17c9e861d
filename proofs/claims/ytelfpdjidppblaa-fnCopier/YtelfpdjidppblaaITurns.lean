/- The program's numbers of copiers and sinks: how many, which try, which turn, a row of turns. -/
import Derived.Test.YtelfpdjidppblaaSCop
import Derived.Test.YtelfpdjidppblaaMine
namespace Go.Proofs.Ytelfpdjidppblaa
open Go.ChangeShapes Go.WideShapes Go.ChangeAt Go.RowKit

set_option maxRecDepth 20000 in
set_option maxHeartbeats 400000 in
theorem icount_any (x : Int) (w : World) :
    Calls Try.prog 61 #[.int .i64 x] w fun e w' => e = .returned (.bool (inI x 1 8)) ∧ w' = w := by
  by_cases h0 : 1 ≤ x
  · by_cases h1 : x ≤ 8
    · rw [show inI x 1 8 = true by simp [inI, h0, h1]]
      go_enter Try.func61, Try.ntmps61
      go_wp2
      go_ret
      exact ⟨ret_bool (by simp), rfl⟩
    · rw [show inI x 1 8 = false by simp [inI]; omega]
      go_enter Try.func61, Try.ntmps61
      go_wp2
      go_ret
      exact ⟨ret_bool (by simp), rfl⟩
  · rw [show inI x 1 8 = false by simp [inI]; omega]
    go_enter Try.func61, Try.ntmps61
    go_wp2
    go_ret
    exact ⟨ret_bool (by simp), rfl⟩

set_option maxRecDepth 20000 in
set_option maxHeartbeats 400000 in
theorem itry_any (x : Int) (w : World) :
    Calls Try.prog 62 #[.int .i64 x] w fun e w' => e = .returned (.bool (inI x 1 100000)) ∧ w' = w := by
  by_cases h0 : 1 ≤ x
  · by_cases h1 : x ≤ 100000
    · rw [show inI x 1 100000 = true by simp [inI, h0, h1]]
      go_enter Try.func62, Try.ntmps62
      go_wp2
      go_ret
      exact ⟨ret_bool (by simp), rfl⟩
    · rw [show inI x 1 100000 = false by simp [inI]; omega]
      go_enter Try.func62, Try.ntmps62
      go_wp2
      go_ret
      exact ⟨ret_bool (by simp), rfl⟩
  · rw [show inI x 1 100000 = false by simp [inI]; omega]
    go_enter Try.func62, Try.ntmps62
    go_wp2
    go_ret
    exact ⟨ret_bool (by simp), rfl⟩

set_option maxRecDepth 20000 in
set_option maxHeartbeats 400000 in
theorem iturnC_any (x : Int) (w : World) :
    Calls Try.prog 92 #[.int .i64 x] w fun e w' => e = .returned (.bool (inI x 0 1000000000)) ∧ w' = w := by
  by_cases h0 : 0 ≤ x
  · by_cases h1 : x ≤ 1000000000
    · rw [show inI x 0 1000000000 = true by simp [inI, h0, h1]]
      go_enter Try.func92, Try.ntmps92
      go_wp2
      go_ret
      exact ⟨ret_bool (by simp), rfl⟩
    · rw [show inI x 0 1000000000 = false by simp [inI]; omega]
      go_enter Try.func92, Try.ntmps92
      go_wp2
      go_ret
      exact ⟨ret_bool (by simp), rfl⟩
  · rw [show inI x 0 1000000000 = false by simp [inI]; omega]
    go_enter Try.func92, Try.ntmps92
    go_wp2
    go_ret
    exact ⟨ret_bool (by simp), rfl⟩

set_option maxRecDepth 20000 in
set_option maxHeartbeats 1000000 in
theorem iturns_any (v : Value) (ts : List Int) (w : World) (hr : Reads w v ts) (hl : ts.length ≤ 1099511627776) :
    Calls Try.prog 69 #[v] w fun e w' => e = .returned (.bool (turnsI ts && inI ts.length 1 8)) ∧ w' = w := by
  have HE : Hid (∀ b : Bool, turnsI ts = b → (turnsI ts && inI ts.length 1 8) = (b && inI ts.length 1 8)) := fun b h => by rw [h]
  have HF : Hid (inI ts.length 1 8 = false → (turnsI ts && inI ts.length 1 8) = false) := fun h => by rw [h, Bool.and_false]
  obtain ⟨ao, cap, rfl⟩ := reads_form hr
  obtain ⟨-, hc1, hc2, hcell⟩ := reads_cells hr
  have ck := fun x wx => iturnC_any x wx
  have cl := fun wx => icount_any (ts.length : Int) wx
  obtain ⟨x, hx⟩ : ∃ x, x = (turnsI ts && inI ts.length 1 8) := ⟨_, rfl⟩
  simp only [← hx] at HE HF ⊢
  obtain ⟨y, hy⟩ : ∃ y, y = inI ts.length 1 8 := ⟨_, rfl⟩
  simp only [← hy] at HE HF cl
  obtain ⟨n, hn⟩ : ∃ n, n = ts.length := ⟨_, rfl⟩
  rw [← hn] at hl hc1 hcell
  simp only [← hn] at cl ⊢
  have HN : Hid (n = ts.length) := hn
  unfold maxLen at hc2
  clear hr hn hx hy
  go_enter Try.func69, Try.ntmps69
  go_wp2_with fail
  refine (cl _).mono ?_
  rintro e w' ⟨rfl, hw⟩; subst w'
  clear cl
  cases y with
  | false =>
    have HX : Hid (x = false) := HF.out rfl
    clear HE HF
    go_wp2
    go_ret
    rw [HX.out]
    exact ⟨rfl, rfl⟩
  | true =>
    clear HF
    go_wp2
    go_loop [11] (fun i => ∃ j : Nat, j ≤ n ∧ i = .int .i64 j ∧ Hid (turnsI (ts.take j) = true)) (fun i => n - (intOf i).toNat)
    case atStart => exact ⟨0, Nat.zero_le _, rfl, by simp [Hid, turnsI]⟩
    case round =>
      obtain ⟨j, hj, rfl, HT⟩ := hrel
      by_cases hlt : (j : Int) < (n : Int)
      · obtain ⟨b, off, rfl, hcj⟩ := hcell j (by omega)
        clear hcell
        have hjl : j < ts.length := by have := HN.out; omega
        have HA : Hid (inI (ts.getD j 0) 0 1000000000 = false → turnsI ts = false) := turns_not ts j hjl
        have HZ : Hid (inI (ts.getD j 0) 0 1000000000 = true → turnsI (ts.take (j + 1)) = true) := turns_take ts j hjl HT.out
        have ckj := fun wx => ck (ts.getD j 0) wx
        obtain ⟨z, hz⟩ : ∃ z, z = ts.getD j 0 := ⟨_, rfl⟩
        rw [← hz] at hcj HA HZ
        simp only [← hz] at ckj
        obtain ⟨bz, hbz⟩ : ∃ bz, bz = inI z 0 1000000000 := ⟨_, rfl⟩
        rw [← hbz] at HA HZ
        simp only [← hbz] at ckj
        clear hz hjl hbz ck
        go_wp2_with fail
        refine (ckj _).mono ?_
        rintro e w' ⟨rfl, hw⟩; subst w'
        cases bz with
        | true =>
          have HZ2 : Hid (turnsI (ts.take (j + 1)) = true) := HZ.out rfl
          clear HZ HA
          go_wp2
          go_round
          case rel => exact ⟨j + 1, by omega, by go_num, HZ2.out⟩
          case measure => simp [intOf]; omega
        | false =>
          have HX : Hid (x = false) := by rw [Hid, HE.out false (HA.out rfl)]; rfl
          clear HZ HA
          go_wp2
          go_ret
          rw [HX.out]
          exact ⟨rfl, rfl⟩
      · have HX : Hid (x = true) := by
          have := HT.out
          rw [List.take_of_length_le (by have := HN.out; omega)] at this
          rw [Hid, HE.out true this]; rfl
        clear HT ck
        go_wp2
        go_ret
        rw [HX.out]
        exact ⟨rfl, rfl⟩
end Go.Proofs.Ytelfpdjidppblaa
