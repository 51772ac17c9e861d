/- What the law on holdings says, of plain numbers: who holds it, how many do. -/
import Derived.Test.YtppkncmlloelbaaHd
namespace Go.Proofs.Ytppkncmlloelbaa
open Go.RowKit

def cnt (p : Int → Bool) : Nat → Nat
  | 0 => 0
  | j + 1 => cnt p j + (if p j = true then 1 else 0)
theorem cnt_le (p : Int → Bool) (j : Nat) : cnt p j ≤ j := by
  induction j with
  | zero => exact Nat.le_refl _
  | succ j ih => unfold cnt; split <;> omega
theorem cnt_none (p : Int → Bool) (h : ∀ i, p i = false) (j : Nat) : cnt p j = 0 := by
  induction j with
  | zero => rfl
  | succ j ih => simp [cnt, ih, h]
theorem cnt_same (p q : Int → Bool) (h : ∀ i, p i = q i) (j : Nat) : cnt p j = cnt q j := by
  induction j with
  | zero => rfl
  | succ j ih => simp [cnt, ih, h]
theorem cnt_some (p : Int → Bool) (k : Nat) (h : p k = true) (j : Nat) (hj : k < j) : 0 < cnt p j := by
  induction j with
  | zero => omega
  | succ j ih =>
    unfold cnt
    by_cases e : k = j
    · subst e; rw [if_pos h]; omega
    · have := ih (by omega); omega
theorem cnt_at (p : Int → Bool) (k : Nat) (h : ∀ i : Nat, p i = decide (i = k)) (j : Nat) : cnt p j = if k < j then 1 else 0 := by
  induction j with
  | zero => rfl
  | succ j ih =>
    unfold cnt
    rw [ih, h j]
    by_cases e : j = k
    · subst e; simp
    · simp [e]; split <;> split <;> omega

theorem Hd.ok_parts {h : Hd} (e : h.ok = true) : h.ks.length = 4 ∧ h.mid = true := by
  unfold Hd.ok at e
  simp only [Bool.and_eq_true, decide_eq_true_eq] at e
  exact ⟨e.1.1.1, e.2⟩
theorem Hd.not_ok {h : Hd} (e : h.ok = false) (i : Int) (w : Bool) : h.Reg i = false ∧ h.Hol i = false ∧ h.May i w = false := by
  simp [Hd.Reg, Hd.Hol, Hd.May, e]
/- Where nothing is held nobody holds it. -/
theorem Hd.hol_none {h : Hd} (e : h.kd = 0) (i : Int) : h.Hol i = false := by
  simp [Hd.Hol, Hd.holds, e]
/- Where it is for all each that is registered holds it. -/
theorem Hd.hol_all {h : Hd} (ok : h.ok = true) (ha : allI h.kd = true) (i : Int) : h.Hol i = h.Reg i := by
  have hm := (Hd.ok_parts ok).2
  have hk : h.kd ≠ 0 := by intro e; rw [e] at ha; cases ha
  unfold Hd.mid at hm
  rw [if_neg hk, if_pos ha] at hm
  simp only [Bool.and_eq_true, decide_eq_true_eq] at hm
  unfold Hd.Hol Hd.Reg Hd.holds
  cases hi : inI i 0 3 with
  | false => simp
  | true =>
    have := (inI_iff i 0 3).1 hi
    have hne : ¬ h.ho = i := by omega
    simp [hk, hne, ha]
/- Where one alone holds it the holder does. -/
theorem Hd.hol_one {h : Hd} (ok : h.ok = true) (hk : h.kd ≠ 0) (ha : allI h.kd = false) : ∃ k : Nat, k < 4 ∧ h.ho = k ∧ regI h.ks h.ho = true ∧ ∀ i : Int, inI i 0 3 = true → h.Hol i = decide (i = k) := by
  have hm := (Hd.ok_parts ok).2
  unfold Hd.mid at hm
  rw [if_neg hk, if_neg (by rw [ha]; decide)] at hm
  simp only [Bool.and_eq_true] at hm
  have hr := (inI_iff _ _ _).1 hm.1.2
  refine ⟨h.ho.toNat, by omega, by omega, hm.2, fun i hi => ?_⟩
  have hi' := (inI_iff _ _ _).1 hi
  unfold Hd.Hol Hd.holds
  rw [ok, hi, ha]
  by_cases e : h.ho = i
  · have e2 : i = ((h.ho.toNat : Nat) : Int) := by omega
    simp [hk, e]
    omega
  · have e2 : ¬ i = ((h.ho.toNat : Nat) : Int) := by omega
    simp [e]
    omega
theorem Hd.hol_reg {h : Hd} (i : Int) (e : h.Hol i = true) : h.Reg i = true := by
  have e' := e
  unfold Hd.Hol at e'
  simp only [Bool.and_eq_true] at e'
  obtain ⟨⟨ok, hi⟩, hh⟩ := e'
  by_cases hk : h.kd = 0
  · rw [Hd.hol_none hk i] at e; cases e
  · cases ha : allI h.kd with
    | true => rw [← Hd.hol_all ok ha i]; exact e
    | false =>
      obtain ⟨k, hk4, hho, hr, hall⟩ := Hd.hol_one ok hk ha
      rw [hall i hi] at e
      have : i = h.ho := by rw [hho]; exact of_decide_eq_true e
      unfold Hd.Reg
      rw [ok, hi, this, hr]; rfl
theorem Hd.hol_may {h : Hd} (i : Int) (w : Bool) (e : h.Hol i = true) : h.May i w = true := by
  unfold Hd.Hol at e
  simp only [Bool.and_eq_true] at e
  obtain ⟨⟨ok, hi⟩, hh⟩ := e
  have hk : h.kd ≠ 0 := by intro hk; simp [Hd.holds, hk] at hh
  have hm := (Hd.ok_parts ok).2
  have hkind : kiI h.kd = true := by
    unfold Hd.mid at hm
    rw [if_neg hk] at hm
    cases ha : allI h.kd with
    | true =>
      rcases kinds h.kd with h' | h' | h' | h' | h' | h' | h' | ⟨hn, -⟩
      all_goals first | exact absurd h' hk | (rw [h']; rfl) | (rw [none_all _ hn] at ha; cases ha)
    | false =>
      rw [if_neg (by rw [ha]; decide)] at hm
      simp only [Bool.and_eq_true] at hm
      exact hm.1.1
  unfold Hd.May Hd.may
  rw [ok, hi, hh, mayI_holds h.kd w _ hkind]; rfl
theorem Hd.count {h : Hd} (ok : h.ok = true) : (h.kd = 0 → cnt h.Hol 4 = 0) ∧ (h.kd ≠ 0 → allI h.kd = true → cnt h.Hol 4 = cnt h.Reg 4 ∧ 0 < cnt h.Reg 4) ∧ (h.kd ≠ 0 → allI h.kd = false → cnt h.Hol 4 = 1) := by
  refine ⟨fun e => cnt_none _ (Hd.hol_none e) 4, fun hk ha => ⟨cnt_same _ _ (Hd.hol_all ok ha) 4, ?_⟩, fun hk ha => ?_⟩
  · have hm := (Hd.ok_parts ok).2
    have hl := (Hd.ok_parts ok).1
    unfold Hd.mid at hm
    rw [if_neg hk, if_pos ha] at hm
    simp only [Bool.and_eq_true] at hm
    have ha2 := hm.2
    unfold anyI at ha2
    rw [List.any_eq_true] at ha2
    obtain ⟨x, hx, hx2⟩ := ha2
    obtain ⟨k, hk4, rfl⟩ := List.mem_iff_getElem.1 hx
    refine cnt_some _ k ?_ 4 (by omega)
    unfold Hd.Reg regI
    have h3 : inI (k : Int) 0 3 = true := (inI_iff _ _ _).2 (by omega)
    rw [ok, h3]
    simp [hk4] at hx2 ⊢
    exact hx2
  · obtain ⟨k, hk4, hho, hr, hall⟩ := Hd.hol_one ok hk ha
    have e : cnt h.Hol 4 = cnt (fun i => decide (i = (k : Int))) 4 := by
      have h0 := hall 0 (by decide)
      have h1 := hall 1 (by decide)
      have h2 := hall 2 (by decide)
      have h3 := hall 3 (by decide)
      simp [cnt, h0, h1, h2, h3]
    rw [e, cnt_at _ k (fun i => by simp; omega) 4, if_pos hk4]
end Go.Proofs.Ytppkncmlloelbaa
