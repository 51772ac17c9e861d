/- Sets of blocks as plain numbers: what is in one, what it is with one more or one less, its least, and that Go's bit operations on them are just that. -/
import Derived.WalkKit
namespace Go.Proofs.Ytdcdfhklnhaimaa
open Go.RowKit

theorem ret_int {k : IntKind} {a b : Int} (h : a = b) : Ending.returned (.int k a) = .returned (.int k b) := by rw [h]
theorem ret_bool {a b : Bool} (h : a = b) : Ending.returned (.bool a) = .returned (.bool b) := by rw [h]

def setOk (s : Int) : Bool := decide (0 ≤ s) && decide (s < 256)
def itemOk (i : Int) : Bool := decide (0 ≤ i) && decide (i < 8)
def inN (s i : Nat) : Bool := s / 2 ^ i % 2 == 1
def inB (s i : Int) : Bool := setOk s && itemOk i && inN s.toNat i.toNat
def withI (s i : Int) : Int := if setOk s then (if itemOk i then ((s.toNat ||| 2 ^ i.toNat : Nat) : Int) else s) else -1
def withoutI (s i : Int) : Int := if setOk s then (if itemOk i then (if inN s.toNat i.toNat then s - 2 ^ i.toNat else s) else s) else -1
def fullI (n : Int) : Int := if 0 ≤ n ∧ n ≤ 8 then 2 ^ n.toNat - 1 else -1

theorem setOk_pos {s : Int} (h0 : 0 ≤ s) (h1 : s < 256) : setOk s = true := by simp [setOk, h0, h1]
theorem setOk_neg {s : Int} (h : s < 0 ∨ 256 ≤ s) : setOk s = false := by
  simp [setOk]; omega
theorem itemOk_pos {s : Int} (h0 : 0 ≤ s) (h1 : s < 8) : itemOk s = true := by simp [itemOk, h0, h1]
theorem itemOk_neg {s : Int} (h : s < 0 ∨ 8 ≤ s) : itemOk s = false := by
  simp [itemOk]; omega
theorem inB_pos {s i : Int} (h0 : 0 ≤ s) (h1 : s < 256) (h2 : 0 ≤ i) (h3 : i < 8) : inB s i = inN s.toNat i.toNat := by
  simp [inB, setOk_pos h0 h1, itemOk_pos h2 h3]
theorem inB_noset {s i : Int} (h : s < 0 ∨ 256 ≤ s) : inB s i = false := by simp [inB, setOk_neg h]
theorem inB_noitem {s i : Int} (h : i < 0 ∨ 8 ≤ i) : inB s i = false := by simp [inB, itemOk_neg h]

theorem wrap_pow (k : Nat) (h : k < 9) : wrap64 (2 ^ k) = 2 ^ k := by
  have : ∀ k : Nat, k < 9 → wrap64 (2 ^ k) = 2 ^ k := by decide +kernel
  exact this k h
theorem and_all : ∀ n : Nat, n < 256 → ∀ k : Nat, k < 8 → (bits BinOp.and IntKind.i64 (n : Int) (wrap64 (2 ^ k)) != 0) = inN n k := by decide +kernel
theorem shr_all : ∀ n : Nat, n < 256 → ∀ k : Nat, k < 8 → (((n : Int) / 2 ^ k).tmod 2 == 1) = inN n k := by decide +kernel
theorem or_all : ∀ n : Nat, n < 256 → ∀ k : Nat, k < 8 → bits BinOp.or IntKind.i64 (n : Int) (wrap64 (2 ^ k)) = ((n ||| 2 ^ k : Nat) : Int) := by decide +kernel
theorem andNot_all : ∀ n : Nat, n < 256 → ∀ k : Nat, k < 8 → bits BinOp.andNot IntKind.i64 (n : Int) (wrap64 (2 ^ k)) = if inN n k then (n : Int) - 2 ^ k else (n : Int) := by decide +kernel

theorem nat_of {s : Int} (h0 : 0 ≤ s) : ∃ n : Nat, s = n := ⟨s.toNat, by omega⟩

theorem and_in {s i : Int} (h0 : 0 ≤ s) (h1 : s < 256) (h2 : 0 ≤ i) (h3 : i < 8) : (bits BinOp.and IntKind.i64 s (wrap64 (2 ^ i.toNat)) != 0) = inB s i := by
  rw [inB_pos h0 h1 h2 h3]
  obtain ⟨n, rfl⟩ := nat_of h0
  exact and_all n (by omega) i.toNat (by omega)
theorem shr_in {s i : Int} (h0 : 0 ≤ s) (h1 : s < 256) (h2 : 0 ≤ i) (h3 : i < 8) : ((s / 2 ^ i.toNat).tmod 2 == 1) = inB s i := by
  rw [inB_pos h0 h1 h2 h3]
  obtain ⟨n, rfl⟩ := nat_of h0
  exact shr_all n (by omega) i.toNat (by omega)
theorem or_in {s i : Int} (h0 : 0 ≤ s) (h1 : s < 256) (h2 : 0 ≤ i) (h3 : i < 8) : bits BinOp.or IntKind.i64 s (wrap64 (2 ^ i.toNat)) = withI s i := by
  simp only [withI, setOk_pos h0 h1, itemOk_pos h2 h3, if_true]
  obtain ⟨n, rfl⟩ := nat_of h0
  exact or_all n (by omega) i.toNat (by omega)
theorem andNot_in {s i : Int} (h0 : 0 ≤ s) (h1 : s < 256) (h2 : 0 ≤ i) (h3 : i < 8) : bits BinOp.andNot IntKind.i64 s (wrap64 (2 ^ i.toNat)) = withoutI s i := by
  simp only [withoutI, setOk_pos h0 h1, itemOk_pos h2 h3, if_true]
  obtain ⟨n, rfl⟩ := nat_of h0
  exact andNot_all n (by omega) i.toNat (by omega)
theorem withI_noset {s i : Int} (h : s < 0 ∨ 256 ≤ s) : withI s i = -1 := by simp [withI, setOk_neg h]
theorem withI_noitem {s i : Int} (h0 : 0 ≤ s) (h1 : s < 256) (h : i < 0 ∨ 8 ≤ i) : withI s i = s := by simp [withI, setOk_pos h0 h1, itemOk_neg h]
theorem withoutI_noset {s i : Int} (h : s < 0 ∨ 256 ≤ s) : withoutI s i = -1 := by simp [withoutI, setOk_neg h]
theorem withoutI_noitem {s i : Int} (h0 : 0 ≤ s) (h1 : s < 256) (h : i < 0 ∨ 8 ≤ i) : withoutI s i = s := by simp [withoutI, setOk_pos h0 h1, itemOk_neg h]
end Go.Proofs.Ytdcdfhklnhaimaa
