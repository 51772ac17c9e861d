/- Strings as lists of bytes; what Check and l4Plain of the model answer. -/
import Derived.Test.YtjdmbjeginnjiaaDoorRows
import Derived.Test.YtjdmbjeginnjiaaDoorSets
import Derived.WalkKit
import Derived.ProofKit
import Derived.OpenShut
import Derived.WalkSmall
import Derived.WalkSpells
import Derived.BigQuiet
namespace Go.Proofs.YtjdmbjeginnjiaaDoor
open Go.ChangeShapes Go.WideShapes Go.ChangeAt Go.RowKit

abbrev Bs := List UInt8
def S (l : Bs) : Value := .string ⟨l.toArray⟩
def byteI (b : UInt8) : Int := (b.toNat : Int)
def chk : Bs → Int := fun l => l.foldl (fun h b => (31 * h + byteI b + 1) % 999983) 19

theorem byteAt_is (l : Bs) (j : Nat) (h : j < l.length) (c : UInt8) (n : Int) (hc : byteI c = n) : (((((⟨l.toArray⟩ : ByteArray)[j]'(show j < (⟨l.toArray⟩ : ByteArray).size from h)).toNat : Nat) : Int) == n) = decide (l[j] = c) := by
  have e : ((((⟨l.toArray⟩ : ByteArray)[j]'(show j < (⟨l.toArray⟩ : ByteArray).size from h)).toNat : Nat) : Int) = byteI l[j] := rfl
  rw [e, ← hc]
  by_cases hb : l[j] = c
  · simp [hb]
  · have : byteI l[j] ≠ byteI c := fun h => hb (by
      unfold byteI at h
      exact UInt8.toNat_inj.1 (by omega))
    simp [hb, this]
theorem byteI_bd (b : UInt8) : 0 ≤ byteI b ∧ byteI b < 256 := by
  have := b.toNat_lt
  unfold byteI; omega
theorem wrap_small {x : Int} (h0 : 0 ≤ x) (h1 : x < 9223372036854775808) : wrap64 x = x := by
  unfold wrap64; omega
theorem chk_snoc (l : Bs) (b : UInt8) : chk (l ++ [b]) = (31 * chk l + byteI b + 1) % 999983 := by
  simp [chk]
theorem chk_bd (l : Bs) : 0 ≤ chk l ∧ chk l < 999983 := by
  rcases List.eq_nil_or_concat l with rfl | ⟨m, b, rfl⟩
  · simp [chk]
  · rw [List.concat_eq_append, chk_snoc]; omega
theorem take_snocB (l : Bs) (j : Nat) (h : j < l.length) : l.take (j + 1) = l.take j ++ [l[j]] := List.take_succ_eq_append_getElem h
theorem chk_step (l : Bs) (j : Nat) (h : j < l.length) : (wrap64 (wrap64 (31 * chk (l.take j) + wrap64 (byteI l[j])) + 1)).tmod 999983 = chk (l.take (j + 1)) := by
  have h1 := chk_bd (l.take j)
  have h2 := byteI_bd l[j]
  rw [take_snocB l j h, chk_snoc]
  rw [wrap_small (x := byteI l[j]) h2.1 (by omega), wrap_small (x := 31 * chk (l.take j) + byteI l[j]) (by omega) (by omega), wrap_small (by omega) (by omega)]
  exact Int.tmod_eq_emod_of_nonneg (by omega)

set_option maxRecDepth 20000 in
set_option maxHeartbeats 1000000 in
theorem scheck_any (l : Bs) (w : World) (hl : l.length ≤ 1099511627776) :
    Calls Tryd.prog 61 #[S l] w fun e w' => e = .returned (.int .i64 (chk l)) ∧ w' = w := by
  unfold S
  go_enter Tryd.func61, Tryd.ntmps61
  go_wp2
  go_loop [3, 4] (fun h i => ∃ j : Nat, j ≤ l.length ∧ i = .int .i64 j ∧ ∃ x : Int, h = .int .i64 x ∧ 0 ≤ x ∧ x < 999983 ∧ Hid (x = chk (l.take j))) (fun _ i => l.length - (intOf i).toNat)
  case atStart => exact ⟨0, Nat.zero_le _, rfl, 19, rfl, by omega, by omega, by simp [Hid, chk]⟩
  case round =>
    obtain ⟨j, hj, rfl, x, rfl, hx0, hx1, HX⟩ := hrel
    by_cases hlt : (j : Int) < (l.length : Int)
    · go_wp2
      go_round
      case rel =>
        have h1 : j < l.length := by omega
        have h2 := chk_bd (l.take (j + 1))
        have h3 := chk_step l j h1
        rw [← HX.out] at h3
        exact ⟨j + 1, by omega, by go_num, _, congrArg (Value.int .i64) h3, h2.1, h2.2, rfl⟩
      case measure => simp [intOf]; omega
    · go_wp2
      go_ret
      have e : j = l.length := by omega
      have := HX.out
      rw [e, List.take_length] at this
      exact ⟨ret_int this, rfl⟩

def plainB (l : Bs) : Bool := l.all (fun b => b != 10) && decide (l.length ≤ 300)
theorem plain_not {l : Bs} {j : Nat} (h : j < l.length) (e : l[j] = 10) : plainB l = false := by
  have : l.all (fun b => b != 10) = false := by
    rw [List.all_eq_false]
    exact ⟨l[j], List.getElem_mem h, by simp [e]⟩
  simp [plainB, this]

set_option maxRecDepth 20000 in
set_option maxHeartbeats 1000000 in
theorem splain_any (l : Bs) (w : World) (hl : l.length ≤ 1099511627776) :
    Calls Tryd.prog 64 #[S l] w fun e w' => e = .returned (.bool (plainB l)) ∧ w' = w := by
  unfold S
  go_enter Tryd.func64, Tryd.ntmps64
  go_wp2
  go_loop [3] (fun i => ∃ j : Nat, j ≤ l.length ∧ i = .int .i64 j ∧ Hid ((l.take j).all (fun b => b != 10) = true)) (fun i => l.length - (intOf i).toNat)
  case atStart => exact ⟨0, Nat.zero_le _, rfl, by simp [Hid]⟩
  case round =>
    obtain ⟨j, hj, rfl, HX⟩ := hrel
    by_cases hlt : (j : Int) < (l.length : Int)
    · have h1 : j < l.length := by omega
      have ht := byteAt_is l j h1 10 10 rfl
      by_cases hb : l[j] = 10
      · have HN : Hid (plainB l = false) := plain_not h1 hb
        rw [show decide (l[j] = 10) = true by simp [hb]] at ht
        clear hb HX
        go_wp2
        go_ret
        exact ⟨ret_bool HN.out.symm, rfl⟩
      · rw [show decide (l[j] = 10) = false by simp [hb]] at ht
        have HS : Hid ((l.take (j + 1)).all (fun b => b != 10) = true) := by
          rw [Hid, take_snocB l j h1, List.all_append, HX.out]; simp [hb]
        clear hb HX
        go_wp2
        go_round
        case rel => exact ⟨j + 1, by omega, by go_num, HS⟩
        case measure => simp [intOf]; omega
    · go_wp2
      go_ret
      have e : j = l.length := by omega
      have := HX.out
      rw [e, List.take_length] at this
      refine ⟨ret_bool ?_, rfl⟩
      simp [plainB, this]
      omega
end Go.Proofs.YtjdmbjeginnjiaaDoor
