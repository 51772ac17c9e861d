/- Strings as lists of bytes; what Check and l4Plain of the model answer. -/
import Derived.Test.YtdcdfhklnhaimaaRows
import Derived.Test.YtdcdfhklnhaimaaSets
import Derived.WalkKit
import Derived.ProofKit
import Derived.OpenShut
import Derived.WalkSmall
import Derived.WalkSpells
import Derived.BigQuiet
namespace Go.Proofs.Ytdcdfhklnhaimaa
open Go.ChangeShapes Go.WideShapes Go.ChangeAt Go.RowKit

abbrev Bs := List UInt8
def S (l : Bs) : Value := .string ⟨l.toArray⟩
def byteI (b : UInt8) : Int := (b.toNat : Int)
def chk : Bs → Int := fun l => l.foldl (fun h b => (31 * h + byteI b + 1) % 999983) 19

theorem byteAt_is (l : Bs) (j : Nat) (h : j < l.length) (c : UInt8) (n : Int) (hc : byteI c = n) : (((((⟨l.toArray⟩ : ByteArray)[j]'(show j < (⟨l.toArray⟩ : ByteArray).size from h)).toNat : Nat) : Int) == n) = decide (l[j] = c) := by
  have e : ((((⟨l.toArray⟩ : ByteArray)[j]'(show j < (⟨l.toArray⟩ : ByteArray).size from h)).toNat : Nat) : Int) = byteI l[j] := rfl
  rw [e, ← hc]
  by_cases hb : l[j] = c
  · simp [hb]
  · have : byteI l[j] ≠ byteI c := fun h => hb (by
      unfold byteI at h
      exact UInt8.toNat_inj.1 (by omega))
    simp [hb, this]
theorem byteI_bd (b : UInt8) : 0 ≤ byteI b ∧ byteI b < 256 := by
  have := b.toNat_lt
  unfold byteI; omega
theorem wrap_small {x : Int} (h0 : 0 ≤ x) (h1 : x < 9223372036854775808) : wrap64 x = x := by
  unfold wrap64; omega
theorem chk_snoc (l : Bs) (b : UInt8) : chk (l ++ [b]) = (31 * chk l + byteI b + 1) % 999983 := by
  simp [chk]
theorem chk_bd (l : Bs) : 0 ≤ chk l ∧ chk l < 999983 := by
  rcases List.eq_nil_or_concat l with rfl | ⟨m, b, rfl⟩
  · simp [chk]
  · rw [List.concat_eq_append, chk_snoc]; omega
theorem take_snocB (l : Bs) (j : Nat) (h : j < l.length) : l.take (j + 1) = l.take j ++ [l[j]] := List.take_succ_eq_append_getElem h
theorem chk_step (l : Bs) (j : Nat) (h : j < l.length) : (wrap64 (wrap64 (31 * chk (l.take j) + wrap64 (byteI l[j])) + 1)).tmod 999983 = chk (l.take (j + 1)) := by
  have h1 := chk_bd (l.take j)
  have h2 := byteI_bd l[j]
  rw [take_snocB l j h, chk_snoc]
  rw [wrap_small (x := byteI l[j]) h2.1 (by omega), wrap_small (x := 31 * chk (l.take j) + byteI l[j]) (by omega) (by omega), wrap_small (by omega) (by omega)]
  exact Int.tmod_eq_emod_of_nonneg (by omega)

def plainB (l : Bs) : Bool := l.all (fun b => b != 10) && decide (l.length ≤ 300)
theorem plain_not {l : Bs} {j : Nat} (h : j < l.length) (e : l[j] = 10) : plainB l = false := by
  have : l.all (fun b => b != 10) = false := by
    rw [List.all_eq_false]
    exact ⟨l[j], List.getElem_mem h, by simp [e]⟩
  simp [plainB, this]
end Go.Proofs.Ytdcdfhklnhaimaa
