/- How a number is read, byte by byte. -/
import Derived.Test.YtjbfncjdedigdaaNums
namespace Go.Proofs.Ytjbfncjdedigdaa
open Go.ChangeShapes Go.WideShapes Go.ChangeAt Go.RowKit

def byteV (l : Bs) (j : Nat) (h : j < l.length) : Int := ((((⟨l.toArray⟩ : ByteArray)[j]'(show j < (⟨l.toArray⟩ : ByteArray).size from h)).toNat : Nat) : Int)
theorem byteV_is (l : Bs) (j : Nat) (h : j < l.length) : byteV l j h = byteI l[j] := rfl
theorem neg_cons (b : UInt8) (t : Bs) : neg (b :: t) = decide (b = 45) := by unfold neg; by_cases h : b = 45 <;> simp [h]
theorem neg_at (l : Bs) (h : 0 < l.length) : neg l = decide (l[0] = 45) := by
  cases l with
  | nil => simp at h
  | cons b t => exact neg_cons b t
theorem okN_short (l : Bs) (h : l.length - offN l < 1) : okN l = false := by
  rw [← Bool.not_eq_true, okN_iff, digs_len]; omega
theorem okN_long (l : Bs) (h : 9 < l.length - offN l) : okN l = false := by
  rw [← Bool.not_eq_true, okN_iff, digs_len]; omega
theorem num_not {l : Bs} (h : okN l = false) : num l = 0 := by simp [num, h]
theorem digs_at (l : Bs) (j : Nat) (h0 : offN l ≤ j) (h : j < l.length) : ∃ h' : j - offN l < (digs l).length, (digs l)[j - offN l] = l[j] := by
  have hl := digs_len l
  refine ⟨by omega, ?_⟩
  unfold digs
  rw [List.getElem_drop]
  congr 1
  omega
def RdInv (l : Bs) (j : Nat) (x : Int) : Prop := x = val ((digs l).take (j - offN l)) ∧ ((digs l).take (j - offN l)).all isDig = true
theorem RdInv.start (l : Bs) : RdInv l (offN l) 0 := by simp [RdInv, val]
theorem RdInv.next {l : Bs} {j : Nat} {x : Int} (h : RdInv l j x) (h0 : offN l ≤ j) (hj : j < l.length) (hd : isDig l[j] = true) : RdInv l (j + 1) (x * 10 + (byteI l[j] - 48)) := by
  obtain ⟨h1, h2⟩ := digs_at l j h0 hj
  unfold RdInv at h ⊢
  rw [show j + 1 - offN l = j - offN l + 1 by omega, take_snocB _ _ h1, val_snoc, List.all_append, h.2, h2, h.1]
  simp [hd]
theorem RdInv.bd {l : Bs} {j : Nat} {x : Int} (h : RdInv l j x) (hj : j - offN l ≤ 9) : 0 ≤ x ∧ x < 1000000000 := by
  rw [h.1]
  exact val_small _ h.2 (by simp; omega)
theorem RdInv.bad {l : Bs} {j : Nat} (h0 : offN l ≤ j) (hj : j < l.length) (hd : isDig l[j] = false) : okN l = false := by
  obtain ⟨h1, h2⟩ := digs_at l j h0 hj
  rw [← Bool.not_eq_true, okN_iff]
  rintro ⟨_, _, h3, _⟩
  have := List.all_eq_true.1 h3 _ (List.getElem_mem h1)
  rw [h2, hd] at this
  cases this
theorem head_digs (l : Bs) (h : offN l < l.length) : (digs l).head? = some l[offN l] := by
  unfold digs
  rw [List.head?_drop]
  simp [h]
theorem RdInv.done {l : Bs} {x : Int} (h : RdInv l l.length x) (h1 : 1 ≤ l.length - offN l) (h2 : l.length - offN l ≤ 9) : okN l = !(decide ((digs l).head? = some 48) && decide (1 < l.length)) ∧ x = val (digs l) := by
  have hl := digs_len l
  unfold RdInv at h
  rw [← hl, List.take_length] at h
  refine ⟨?_, h.1⟩
  unfold okN
  rw [h.2, hl]
  simp [h1, h2]
end Go.Proofs.Ytjbfncjdedigdaa
/- Numbers of at most ten digits: how one is read. -/
namespace Go.Proofs.Ytjbfncjdedigdaa
open Go.RowKit

def okT (l : Bs) : Bool := decide (1 ≤ (digs l).length) && decide ((digs l).length ≤ 10) && (digs l).all isDig && !(decide ((digs l).head? = some 48) && decide (1 < l.length))
def numT (l : Bs) : Int := if okT l then (if neg l then -(val (digs l)) else val (digs l)) else 0
theorem val_ten (l : Bs) (h : l.all isDig = true) (hl : l.length ≤ 10) : 0 ≤ val l ∧ val l < 10000000000 := by
  have h1 := val_bd l h
  have h2 : (10 : Int) ^ l.length ≤ 10 ^ 10 := by
    have : (10 : Nat) ^ l.length ≤ 10 ^ 10 := Nat.pow_le_pow_right (by omega) hl
    exact_mod_cast this
  have e : (10 : Int) ^ 10 = 10000000000 := by decide
  omega
theorem okT_iff (l : Bs) : okT l = true ↔ 1 ≤ (digs l).length ∧ (digs l).length ≤ 10 ∧ (digs l).all isDig = true ∧ ¬ ((digs l).head? = some 48 ∧ 1 < l.length) := by
  simp only [okT, Bool.and_eq_true, decide_eq_true_eq, Bool.not_eq_true', Bool.and_eq_false_iff, decide_eq_false_iff_not]
  constructor
  · rintro ⟨⟨⟨h1, h2⟩, h3⟩, h4⟩
    exact ⟨h1, h2, h3, fun ⟨a, b⟩ => by rcases h4 with h | h; exact h a; exact h b⟩
  · rintro ⟨h1, h2, h3, h4⟩
    refine ⟨⟨⟨h1, h2⟩, h3⟩, ?_⟩
    by_cases h : (digs l).head? = some 48
    · exact .inr (fun h' => h4 ⟨h, h'⟩)
    · exact .inl h
theorem numT_bd (l : Bs) : -10000000000 < numT l ∧ numT l < 10000000000 := by
  unfold numT
  split
  · rename_i h
    rw [okT_iff] at h
    have := val_ten _ h.2.2.1 h.2.1
    split <;> omega
  · omega
theorem okT_short (l : Bs) (h : l.length - offN l < 1) : okT l = false := by
  rw [← Bool.not_eq_true, okT_iff, digs_len]; omega
theorem okT_long (l : Bs) (h : 10 < l.length - offN l) : okT l = false := by
  rw [← Bool.not_eq_true, okT_iff, digs_len]; omega
theorem numT_not {l : Bs} (h : okT l = false) : numT l = 0 := by simp [numT, h]
theorem RdInv.bdT {l : Bs} {j : Nat} {x : Int} (h : RdInv l j x) (hj : j - offN l ≤ 10) : 0 ≤ x ∧ x < 10000000000 := by
  rw [h.1]
  exact val_ten _ h.2 (by simp; omega)
theorem RdInv.badT {l : Bs} {j : Nat} (h0 : offN l ≤ j) (hj : j < l.length) (hd : isDig l[j] = false) : okT l = false := by
  obtain ⟨h1, h2⟩ := digs_at l j h0 hj
  rw [← Bool.not_eq_true, okT_iff]
  rintro ⟨_, _, h3, _⟩
  have := List.all_eq_true.1 h3 _ (List.getElem_mem h1)
  rw [h2, hd] at this
  cases this
theorem RdInv.doneT {l : Bs} {x : Int} (h : RdInv l l.length x) (h1 : 1 ≤ l.length - offN l) (h2 : l.length - offN l ≤ 10) : okT l = !(decide ((digs l).head? = some 48) && decide (1 < l.length)) ∧ x = val (digs l) := by
  have hl := digs_len l
  unfold RdInv at h
  rw [← hl, List.take_length] at h
  refine ⟨?_, h.1⟩
  unfold okT
  rw [h.2, hl]
  simp [h1, h2]
/- What is shown is read. -/
theorem neg_decI (x : Int) : neg (decI x) = decide (x < 0) := by
  unfold decI
  split
  · rename_i h; simp [neg, h]
  · rename_i h; rw [neg_dec]; simp [h]
theorem digs_decI (x : Int) : digs (decI x) = dec x.natAbs := by
  unfold digs offN
  rw [neg_decI]
  unfold decI
  by_cases h : x < 0
  · simp [h]
  · simp [h]
theorem readT_decI (x : Int) (h0 : -10000000000 < x) (h1 : x < 10000000000) : okT (decI x) = true ∧ numT (decI x) = x := by
  have hd := digs_decI x
  have hl := dec_len 9 x.natAbs (by omega)
  have ok : okT (decI x) = true := by
    rw [okT_iff, hd]
    refine ⟨?_, hl, (dec_digs _).1, ?_⟩
    · have := List.length_pos_iff.2 (dec_ne_nil x.natAbs)
      omega
    · rintro ⟨e1, e2⟩
      by_cases hz : x = 0
      · subst hz
        rw [show decI 0 = [digit 0] from dec_zero] at e2
        simp at e2
      · exact dec_pos_head x.natAbs (by omega) e1
  refine ⟨ok, ?_⟩
  unfold numT
  rw [ok, neg_decI, hd, (dec_digs _).2]
  by_cases h : x < 0
  · simp [h]; omega
  · simp [h]; omega
/- What is read is shown so. -/
theorem readT_back (l : Bs) (h : okT l = true) : decI (numT l) = l := by
  have ok := h
  rw [okT_iff] at h
  obtain ⟨h1, h2, h3, h4⟩ := h
  have hne : digs l ≠ [] := by intro e; rw [e] at h1; simp at h1
  have hv := val_bd _ h3
  unfold numT
  rw [if_pos ok]
  have hz : (digs l).head? = some 48 → (digs l).length = 1 := by
    intro e
    have : ¬ 1 < l.length := fun c => h4 ⟨e, c⟩
    have := digs_len l
    omega
  have hb := dec_val (digs l) h3 hne hz
  cases hng : neg l with
  | false =>
    have hd : digs l = l := by simp [digs, offN, hng]
    simp only [Bool.false_eq_true, if_false]
    rw [decI_pos hv.1, hb, hd]
  | true =>
    simp only [if_true]
    have hlen : 1 < l.length := by
      have := digs_len l
      simp only [offN, hng, if_true] at this
      omega
    have hn48 : (digs l).head? ≠ some 48 := fun e => h4 ⟨e, hlen⟩
    have hpos : 0 < val (digs l) := by
      rcases Int.lt_or_eq_of_le hv.1 with c | c
      · exact c
      · exfalso
        rw [← c] at hb
        rw [← hb] at hn48
        exact hn48 (by rw [show dec (Int.toNat 0) = [digit 0] from dec_zero]; rfl)
    unfold decI
    rw [if_pos (by omega), Int.natAbs_neg, show (val (digs l)).natAbs = (val (digs l)).toNat by omega, hb]
    unfold neg at hng
    cases l with
    | nil => simp at hng
    | cons b t =>
      have : b = 45 := by simpa using hng
      subst this
      simp [digs, offN, neg]
end Go.Proofs.Ytjbfncjdedigdaa
