/- Sets of blocks as plain numbers: what is in one, what it is with one more or one less, its least, and that Go's bit operations on them are just that. -/
import Derived.WalkKit
import Derived.Test.YtpdggofaobmnlaaRows
import Derived.ProofKit
import Derived.OpenShut
import Derived.WalkSmall
import Derived.WalkSpells
import Derived.BigQuiet
namespace Go.Proofs.Ytpdggofaobmnlaa
open Go.RowKit

theorem ret_int {k : IntKind} {a b : Int} (h : a = b) : Ending.returned (.int k a) = .returned (.int k b) := by rw [h]
theorem ret_bool {a b : Bool} (h : a = b) : Ending.returned (.bool a) = .returned (.bool b) := by rw [h]

def setOk (s : Int) : Bool := decide (0 ≤ s) && decide (s < 256)
def itemOk (i : Int) : Bool := decide (0 ≤ i) && decide (i < 8)
def inN (s i : Nat) : Bool := s / 2 ^ i % 2 == 1
def inB (s i : Int) : Bool := setOk s && itemOk i && inN s.toNat i.toNat
def withI (s i : Int) : Int := if setOk s then (if itemOk i then ((s.toNat ||| 2 ^ i.toNat : Nat) : Int) else s) else -1
def withoutI (s i : Int) : Int := if setOk s then (if itemOk i then (if inN s.toNat i.toNat then s - 2 ^ i.toNat else s) else s) else -1
def fullI (n : Int) : Int := if 0 ≤ n ∧ n ≤ 8 then 2 ^ n.toNat - 1 else -1

theorem setOk_pos {s : Int} (h0 : 0 ≤ s) (h1 : s < 256) : setOk s = true := by simp [setOk, h0, h1]
theorem setOk_neg {s : Int} (h : s < 0 ∨ 256 ≤ s) : setOk s = false := by
  simp [setOk]; omega
theorem itemOk_pos {s : Int} (h0 : 0 ≤ s) (h1 : s < 8) : itemOk s = true := by simp [itemOk, h0, h1]
theorem itemOk_neg {s : Int} (h : s < 0 ∨ 8 ≤ s) : itemOk s = false := by
  simp [itemOk]; omega
theorem inB_pos {s i : Int} (h0 : 0 ≤ s) (h1 : s < 256) (h2 : 0 ≤ i) (h3 : i < 8) : inB s i = inN s.toNat i.toNat := by
  simp [inB, setOk_pos h0 h1, itemOk_pos h2 h3]
theorem inB_noset {s i : Int} (h : s < 0 ∨ 256 ≤ s) : inB s i = false := by simp [inB, setOk_neg h]
theorem inB_noitem {s i : Int} (h : i < 0 ∨ 8 ≤ i) : inB s i = false := by simp [inB, itemOk_neg h]

theorem wrap_pow (k : Nat) (h : k < 9) : wrap64 (2 ^ k) = 2 ^ k := by
  have : ∀ k : Nat, k < 9 → wrap64 (2 ^ k) = 2 ^ k := by decide +kernel
  exact this k h
theorem and_all : ∀ n : Nat, n < 256 → ∀ k : Nat, k < 8 → (bits BinOp.and IntKind.i64 (n : Int) (wrap64 (2 ^ k)) != 0) = inN n k := by decide +kernel
theorem shr_all : ∀ n : Nat, n < 256 → ∀ k : Nat, k < 8 → (((n : Int) / 2 ^ k).tmod 2 == 1) = inN n k := by decide +kernel
theorem or_all : ∀ n : Nat, n < 256 → ∀ k : Nat, k < 8 → bits BinOp.or IntKind.i64 (n : Int) (wrap64 (2 ^ k)) = ((n ||| 2 ^ k : Nat) : Int) := by decide +kernel
theorem andNot_all : ∀ n : Nat, n < 256 → ∀ k : Nat, k < 8 → bits BinOp.andNot IntKind.i64 (n : Int) (wrap64 (2 ^ k)) = if inN n k then (n : Int) - 2 ^ k else (n : Int) := by decide +kernel

theorem nat_of {s : Int} (h0 : 0 ≤ s) : ∃ n : Nat, s = n := ⟨s.toNat, by omega⟩

theorem and_in {s i : Int} (h0 : 0 ≤ s) (h1 : s < 256) (h2 : 0 ≤ i) (h3 : i < 8) : (bits BinOp.and IntKind.i64 s (wrap64 (2 ^ i.toNat)) != 0) = inB s i := by
  rw [inB_pos h0 h1 h2 h3]
  obtain ⟨n, rfl⟩ := nat_of h0
  exact and_all n (by omega) i.toNat (by omega)
theorem shr_in {s i : Int} (h0 : 0 ≤ s) (h1 : s < 256) (h2 : 0 ≤ i) (h3 : i < 8) : ((s / 2 ^ i.toNat).tmod 2 == 1) = inB s i := by
  rw [inB_pos h0 h1 h2 h3]
  obtain ⟨n, rfl⟩ := nat_of h0
  exact shr_all n (by omega) i.toNat (by omega)
theorem or_in {s i : Int} (h0 : 0 ≤ s) (h1 : s < 256) (h2 : 0 ≤ i) (h3 : i < 8) : bits BinOp.or IntKind.i64 s (wrap64 (2 ^ i.toNat)) = withI s i := by
  simp only [withI, setOk_pos h0 h1, itemOk_pos h2 h3, if_true]
  obtain ⟨n, rfl⟩ := nat_of h0
  exact or_all n (by omega) i.toNat (by omega)
theorem andNot_in {s i : Int} (h0 : 0 ≤ s) (h1 : s < 256) (h2 : 0 ≤ i) (h3 : i < 8) : bits BinOp.andNot IntKind.i64 s (wrap64 (2 ^ i.toNat)) = withoutI s i := by
  simp only [withoutI, setOk_pos h0 h1, itemOk_pos h2 h3, if_true]
  obtain ⟨n, rfl⟩ := nat_of h0
  exact andNot_all n (by omega) i.toNat (by omega)
theorem withI_noset {s i : Int} (h : s < 0 ∨ 256 ≤ s) : withI s i = -1 := by simp [withI, setOk_neg h]
theorem withI_noitem {s i : Int} (h0 : 0 ≤ s) (h1 : s < 256) (h : i < 0 ∨ 8 ≤ i) : withI s i = s := by simp [withI, setOk_pos h0 h1, itemOk_neg h]
theorem withoutI_noset {s i : Int} (h : s < 0 ∨ 256 ≤ s) : withoutI s i = -1 := by simp [withoutI, setOk_neg h]
theorem withoutI_noitem {s i : Int} (h0 : 0 ≤ s) (h1 : s < 256) (h : i < 0 ∨ 8 ≤ i) : withoutI s i = s := by simp [withoutI, setOk_pos h0 h1, itemOk_neg h]
end Go.Proofs.Ytpdggofaobmnlaa
/- Strings as lists of bytes; what Check and l4Plain of the model answer. -/
namespace Go.Proofs.Ytpdggofaobmnlaa
open Go.ChangeShapes Go.WideShapes Go.ChangeAt Go.RowKit

abbrev Bs := List UInt8
def S (l : Bs) : Value := .string ⟨l.toArray⟩
def byteI (b : UInt8) : Int := (b.toNat : Int)
def chk : Bs → Int := fun l => l.foldl (fun h b => (31 * h + byteI b + 1) % 999983) 19

theorem byteAt_is (l : Bs) (j : Nat) (h : j < l.length) (c : UInt8) (n : Int) (hc : byteI c = n) : (((((⟨l.toArray⟩ : ByteArray)[j]'(show j < (⟨l.toArray⟩ : ByteArray).size from h)).toNat : Nat) : Int) == n) = decide (l[j] = c) := by
  have e : ((((⟨l.toArray⟩ : ByteArray)[j]'(show j < (⟨l.toArray⟩ : ByteArray).size from h)).toNat : Nat) : Int) = byteI l[j] := rfl
  rw [e, ← hc]
  by_cases hb : l[j] = c
  · simp [hb]
  · have : byteI l[j] ≠ byteI c := fun h => hb (by
      unfold byteI at h
      exact UInt8.toNat_inj.1 (by omega))
    simp [hb, this]
theorem byteI_bd (b : UInt8) : 0 ≤ byteI b ∧ byteI b < 256 := by
  have := b.toNat_lt
  unfold byteI; omega
theorem wrap_small {x : Int} (h0 : 0 ≤ x) (h1 : x < 9223372036854775808) : wrap64 x = x := by
  unfold wrap64; omega
theorem chk_snoc (l : Bs) (b : UInt8) : chk (l ++ [b]) = (31 * chk l + byteI b + 1) % 999983 := by
  simp [chk]
theorem chk_bd (l : Bs) : 0 ≤ chk l ∧ chk l < 999983 := by
  rcases List.eq_nil_or_concat l with rfl | ⟨m, b, rfl⟩
  · simp [chk]
  · rw [List.concat_eq_append, chk_snoc]; omega
theorem take_snocB (l : Bs) (j : Nat) (h : j < l.length) : l.take (j + 1) = l.take j ++ [l[j]] := List.take_succ_eq_append_getElem h
theorem chk_step (l : Bs) (j : Nat) (h : j < l.length) : (wrap64 (wrap64 (31 * chk (l.take j) + wrap64 (byteI l[j])) + 1)).tmod 999983 = chk (l.take (j + 1)) := by
  have h1 := chk_bd (l.take j)
  have h2 := byteI_bd l[j]
  rw [take_snocB l j h, chk_snoc]
  rw [wrap_small (x := byteI l[j]) h2.1 (by omega), wrap_small (x := 31 * chk (l.take j) + byteI l[j]) (by omega) (by omega), wrap_small (by omega) (by omega)]
  exact Int.tmod_eq_emod_of_nonneg (by omega)

def plainB (l : Bs) : Bool := l.all (fun b => b != 10) && decide (l.length ≤ 300)
theorem plain_not {l : Bs} {j : Nat} (h : j < l.length) (e : l[j] = 10) : plainB l = false := by
  have : l.all (fun b => b != 10) = false := by
    rw [List.all_eq_false]
    exact ⟨l[j], List.getElem_mem h, by simp [e]⟩
  simp [plainB, this]
end Go.Proofs.Ytpdggofaobmnlaa
