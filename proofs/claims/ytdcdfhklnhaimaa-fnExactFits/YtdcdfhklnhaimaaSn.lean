/- Sinks as plain numbers and lists: when one is right, what fits it, what it is when something was received. -/
import Derived.Test.YtdcdfhklnhaimaaCp
namespace Go.Proofs.Ytdcdfhklnhaimaa
open Go.RowKit

structure Sn where
  tr : Int
  ts : List Int
def Sn.zero : Sn := ⟨0, []⟩
def Sn.ok (s : Sn) : Bool := if s.tr = 0 then decide (s.ts.length = 0) else inI s.tr 1 100000 && (turnsI s.ts && inI s.ts.length 1 8)
def Sn.fits (s : Sn) (t i n : Int) : Bool := decide (0 < s.tr) && decide (s.tr = t) && decide (0 ≤ i) && decide (i < (s.ts.length : Int)) && decide (s.ts.getD i.toNat 0 < n)
def Sn.Fits (s : Sn) (t i n : Int) : Bool := s.ok && s.fits t i n
def Sn.takes (s : Sn) (t i n : Int) : Bool := s.fits t i n && decide (n ≤ 1000000000)
def Sn.got (s : Sn) (t i n : Int) : Sn := if s.takes t i n then { s with ts := s.ts.set i.toNat n } else s
def Sn.Got (s : Sn) (t i n : Int) : Sn := if s.ok then s.got t i n else Sn.zero
def Sn.Is (s : Sn) (t i n : Int) : Bool := s.ok && s.takes t i n
def Sn.new (n t : Int) : Sn := if Cp.made n t then ⟨t, List.replicate n.toNat 0⟩ else Sn.zero
theorem Sn.Got_len (s : Sn) (t i n : Int) : (s.Got t i n).ts.length ≤ s.ts.length := by unfold Sn.Got Sn.got; split <;> (try split) <;> simp [Sn.zero]
theorem Sn.new_len (n t : Int) : (Sn.new n t).ts.length ≤ 8 := by
  unfold Sn.new
  split
  · rename_i h
    unfold Cp.made at h
    simp only [Bool.and_eq_true, inI_iff] at h
    simp only [List.length_replicate]
    omega
  · simp [Sn.zero]
theorem Sn.takes_iff (s : Sn) (t i n : Int) : s.takes t i n = true ↔ 0 < s.tr ∧ s.tr = t ∧ 0 ≤ i ∧ i < (s.ts.length : Int) ∧ s.ts.getD i.toNat 0 < n ∧ n ≤ 1000000000 := by
  unfold Sn.takes Sn.fits
  simp only [Bool.and_eq_true, decide_eq_true_eq, and_assoc]
theorem Sn.ok_turns {s : Sn} (h : s.ok = true) : turnsI s.ts = true := by
  unfold Sn.ok at h
  split at h
  · simp only [decide_eq_true_eq] at h
    rw [List.eq_nil_of_length_eq_zero h]; rfl
  · simp only [Bool.and_eq_true] at h
    exact h.2.1
theorem Sn.new_ok {n t : Int} (h : Cp.made n t = true) : (Sn.new n t).ok = true := by
  have := Cp.new_ok n t h
  unfold Sn.new
  rw [if_pos h]
  unfold Cp.new at this
  rw [if_pos h] at this
  unfold Cp.ok Cp.mid at this
  unfold Sn.ok
  simp only at this ⊢
  split
  · rename_i e
    rw [if_pos e] at this
    simp only [Bool.and_eq_true] at this
    exact this.2
  · rename_i e
    rw [if_neg e] at this
    simp only [Bool.and_eq_true] at this
    simp only [Bool.and_eq_true]
    exact this.1
theorem Sn.got_ok {s : Sn} (h : s.ok = true) (t i n : Int) : (s.got t i n).ok = true := by
  unfold Sn.got
  split
  · rename_i hi
    rw [Sn.takes_iff] at hi
    have ht := turns_at (Sn.ok_turns h) i.toNat
    unfold Sn.ok at h ⊢
    simp only at h ⊢
    split
    · rename_i e; omega
    · rename_i e
      rw [if_neg e] at h
      simp only [Bool.and_eq_true, List.length_set] at h ⊢
      exact ⟨h.1, turns_set h.2.1 _ ((inI_iff _ _ _).2 (by omega)), h.2.2⟩
  · exact h
/- What FnSink says of one that was received. -/
theorem Sn.is_all {s : Sn} {t i n : Int} (h : s.Is t i n = true) : s.ok = true ∧ s.Got t i n = { s with ts := s.ts.set i.toNat n } ∧ (s.Got t i n).ok = true ∧ s.Fits t i n = true ∧ (s.Got t i n).Is t i n = false ∧ 0 ≤ i ∧ i < (s.ts.length : Int) ∧ s.ts.getD i.toNat 0 < n := by
  unfold Sn.Is at h
  simp only [Bool.and_eq_true] at h
  obtain ⟨ok, ht⟩ := h
  have e : s.Got t i n = { s with ts := s.ts.set i.toNat n } := by
    unfold Sn.Got Sn.got
    rw [if_pos ok, if_pos ht]
  have ho : (s.Got t i n).ok = true := by
    have := Sn.got_ok ok t i n
    unfold Sn.Got
    rwa [if_pos ok]
  have hi := (Sn.takes_iff s t i n).1 ht
  refine ⟨ok, e, ho, ?_, ?_, hi.2.2.1, hi.2.2.2.1, hi.2.2.2.2.1⟩
  · unfold Sn.Fits
    unfold Sn.takes at ht
    simp only [Bool.and_eq_true] at ht
    rw [ok, ht.1]
    rfl
  · unfold Sn.Is
    rw [ho, Bool.true_and]
    cases hk : (s.Got t i n).takes t i n with
    | false => rfl
    | true =>
      exfalso
      have h2 := (Sn.takes_iff _ t i n).1 hk
      rw [e] at h2
      have hj : i.toNat < s.ts.length := by omega
      have := h2.2.2.2.2.1
      simp only [List.getD_eq_getElem?_getD, List.getElem?_set_self hj, Option.getD_some] at this
      omega
theorem Sn.is_not {s : Sn} {t i n : Int} (ok : s.ok = true) (h : s.Is t i n = false) : s.Got t i n = s ∧ (s.Fits t i n = false ∨ 1000000000 < n) := by
  unfold Sn.Is at h
  rw [ok, Bool.true_and] at h
  refine ⟨by unfold Sn.Got Sn.got; rw [if_pos ok, h]; rfl, ?_⟩
  unfold Sn.takes at h
  cases hf : s.fits t i n with
  | false => exact .inl (by unfold Sn.Fits; rw [hf, Bool.and_false])
  | true =>
    rw [hf, Bool.true_and] at h
    exact .inr (by simpa using h)
theorem Sn.bad {s : Sn} (h : s.ok = false) (t i n : Int) : s.Got t i n = Sn.zero ∧ s.Is t i n = false ∧ s.Fits t i n = false := by
  unfold Sn.Got Sn.Is Sn.Fits
  rw [h]
  exact ⟨rfl, rfl, rfl⟩
end Go.Proofs.Ytdcdfhklnhaimaa
