/- How a number is read, byte by byte. -/
import Derived.Test.YtpdggofaobmnlaaNums
namespace Go.Proofs.Ytpdggofaobmnlaa
open Go.ChangeShapes Go.WideShapes Go.ChangeAt Go.RowKit

def byteV (l : Bs) (j : Nat) (h : j < l.length) : Int := ((((⟨l.toArray⟩ : ByteArray)[j]'(show j < (⟨l.toArray⟩ : ByteArray).size from h)).toNat : Nat) : Int)
theorem byteV_is (l : Bs) (j : Nat) (h : j < l.length) : byteV l j h = byteI l[j] := rfl
theorem neg_cons (b : UInt8) (t : Bs) : neg (b :: t) = decide (b = 45) := by unfold neg; by_cases h : b = 45 <;> simp [h]
theorem neg_at (l : Bs) (h : 0 < l.length) : neg l = decide (l[0] = 45) := by
  cases l with
  | nil => simp at h
  | cons b t => exact neg_cons b t
theorem okN_short (l : Bs) (h : l.length - offN l < 1) : okN l = false := by
  rw [← Bool.not_eq_true, okN_iff, digs_len]; omega
theorem okN_long (l : Bs) (h : 9 < l.length - offN l) : okN l = false := by
  rw [← Bool.not_eq_true, okN_iff, digs_len]; omega
theorem num_not {l : Bs} (h : okN l = false) : num l = 0 := by simp [num, h]
theorem digs_at (l : Bs) (j : Nat) (h0 : offN l ≤ j) (h : j < l.length) : ∃ h' : j - offN l < (digs l).length, (digs l)[j - offN l] = l[j] := by
  have hl := digs_len l
  refine ⟨by omega, ?_⟩
  unfold digs
  rw [List.getElem_drop]
  congr 1
  omega
def RdInv (l : Bs) (j : Nat) (x : Int) : Prop := x = val ((digs l).take (j - offN l)) ∧ ((digs l).take (j - offN l)).all isDig = true
theorem RdInv.start (l : Bs) : RdInv l (offN l) 0 := by simp [RdInv, val]
theorem RdInv.next {l : Bs} {j : Nat} {x : Int} (h : RdInv l j x) (h0 : offN l ≤ j) (hj : j < l.length) (hd : isDig l[j] = true) : RdInv l (j + 1) (x * 10 + (byteI l[j] - 48)) := by
  obtain ⟨h1, h2⟩ := digs_at l j h0 hj
  unfold RdInv at h ⊢
  rw [show j + 1 - offN l = j - offN l + 1 by omega, take_snocB _ _ h1, val_snoc, List.all_append, h.2, h2, h.1]
  simp [hd]
theorem RdInv.bd {l : Bs} {j : Nat} {x : Int} (h : RdInv l j x) (hj : j - offN l ≤ 9) : 0 ≤ x ∧ x < 1000000000 := by
  rw [h.1]
  exact val_small _ h.2 (by simp; omega)
theorem RdInv.bad {l : Bs} {j : Nat} (h0 : offN l ≤ j) (hj : j < l.length) (hd : isDig l[j] = false) : okN l = false := by
  obtain ⟨h1, h2⟩ := digs_at l j h0 hj
  rw [← Bool.not_eq_true, okN_iff]
  rintro ⟨_, _, h3, _⟩
  have := List.all_eq_true.1 h3 _ (List.getElem_mem h1)
  rw [h2, hd] at this
  cases this
theorem head_digs (l : Bs) (h : offN l < l.length) : (digs l).head? = some l[offN l] := by
  unfold digs
  rw [List.head?_drop]
  simp [h]
theorem RdInv.done {l : Bs} {x : Int} (h : RdInv l l.length x) (h1 : 1 ≤ l.length - offN l) (h2 : l.length - offN l ≤ 9) : okN l = !(decide ((digs l).head? = some 48) && decide (1 < l.length)) ∧ x = val (digs l) := by
  have hl := digs_len l
  unfold RdInv at h
  rw [← hl, List.take_length] at h
  refine ⟨?_, h.1⟩
  unfold okN
  rw [h.2, hl]
  simp [h1, h2]
end Go.Proofs.Ytpdggofaobmnlaa
