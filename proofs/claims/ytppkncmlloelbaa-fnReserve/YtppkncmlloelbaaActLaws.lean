/- What the laws on actions say, of plain numbers. -/
import Derived.Test.YtppkncmlloelbaaAct
import Derived.Test.YtppkncmlloelbaaHoldLaws
namespace Go.Proofs.Ytppkncmlloelbaa
open Go.RowKit

theorem any_iff {ks : List Int} : anyI ks = true ↔ ∃ j, j < ks.length ∧ ks.getD j 0 ≠ 0 := by
  constructor
  · intro h
    unfold anyI at h
    obtain ⟨x, hx, h0⟩ := List.any_eq_true.1 h
    obtain ⟨j, hj, rfl⟩ := List.getElem_of_mem hx
    exact ⟨j, hj, by simpa [hj] using h0⟩
  · rintro ⟨j, hj, h⟩
    exact any_at ks j hj h
theorem keys_iff {ks : List Int} : keysI ks = true ↔ ∀ j, j < ks.length → 0 ≤ ks.getD j 0 ∧ ks.getD j 0 ≤ 9999 := by
  constructor
  · intro h j hj
    unfold keysI at h
    have := List.all_eq_true.1 h ks[j] (List.getElem_mem hj)
    rw [inI_iff] at this
    simpa [hj] using this
  · intro h
    unfold keysI
    rw [List.all_eq_true]
    intro x hx
    obtain ⟨j, hj, rfl⟩ := List.getElem_of_mem hx
    have := h j hj
    rw [inI_iff]
    simpa [hj] using this
theorem mid_iff {h : Hd} : h.mid = true ↔ (h.kd = 0 ∧ h.ho = -1) ∨ (h.kd ≠ 0 ∧ allI h.kd = true ∧ h.ho = -1 ∧ anyI h.ks = true) ∨ (h.kd ≠ 0 ∧ allI h.kd = false ∧ kiI h.kd = true ∧ (0 ≤ h.ho ∧ h.ho ≤ 3) ∧ h.ks.getD h.ho.toNat 0 ≠ 0) := by
  unfold Hd.mid regI
  by_cases h0 : h.kd = 0
  · simp [h0]
  · cases ha : allI h.kd
    · simp [h0, Bool.and_eq_true, inI_iff, and_assoc]
    · simp [h0]
theorem ok_iff {h : Hd} : h.ok = true ↔ h.ks.length = 4 ∧ (0 ≤ h.tu ∧ h.tu ≤ 1000000000) ∧ keysI h.ks = true ∧ h.mid = true := by
  unfold Hd.ok
  simp [Bool.and_eq_true, inI_iff, and_assoc]
theorem getD_set {ks : List Int} {j m : Nat} {x : Int} (hj : j < ks.length) : (ks.set j x).getD m 0 = if m = j then x else ks.getD m 0 := by
  by_cases e : m = j
  · subst e; simp [hj]
  · rw [if_neg e]
    simp only [List.getD_eq_getElem?_getD]
    rw [List.getElem?_set_ne (Ne.symm e)]
theorem list_ext {xs ys : List Int} (hl : xs.length = ys.length) (h : ∀ j, j < xs.length → xs.getD j 0 = ys.getD j 0) : xs = ys := by
  apply List.ext_getElem hl
  intro j h1 h2
  have := h j h1
  simpa [h1, h2] using this
theorem turn_mod (t : Int) (h0 : 0 ≤ t) (h1 : t ≤ 1000000000) : turnI t = (t + 1) % 1000000001 := by
  unfold turnI; split <;> omega

/- Register. -/
theorem regd_ks (h : Hd) (i key : Int) : (h.regd i key).ks = h.ks.set i.toNat key := by
  unfold Hd.regd; split <;> rfl
theorem regd_tu (h : Hd) (i key : Int) : (h.regd i key).tu = turnI h.tu := by
  unfold Hd.regd; split <;> rfl
theorem regd_ok {h : Hd} (ok : h.ok = true) {i key : Int} (hi : 0 ≤ i ∧ i ≤ 3) (hk : 0 ≤ key ∧ key ≤ 9999) : (h.regd i key).ok = true ∧ ((h.regd i key).kd = h.kd ∨ key = 0 ∧ (h.regd i key).kd = 0) := by
  obtain ⟨hl, ht, hks, hm⟩ := ok_iff.1 ok
  have hi4 : i.toNat < h.ks.length := by omega
  have hany : key ≠ 0 → anyI (h.ks.set i.toNat key) = true := fun hk0 => any_iff.2 ⟨i.toNat, by simpa using hi4, by rw [getD_set hi4, if_pos rfl]; exact hk0⟩
  have hkeys : keysI (h.ks.set i.toNat key) = true := keys_iff.2 fun j hj => by
    rw [getD_set hi4]
    split
    · exact hk
    · exact keys_iff.1 hks j (by simpa using hj)
  have htu := turnI_in h.tu ht.1 ht.2
  constructor
  · rw [ok_iff, regd_ks, regd_tu]
    refine ⟨by simpa using hl, htu, hkeys, ?_⟩
    unfold Hd.regd
    split
    · rw [mid_iff]; exact .inl ⟨rfl, rfl⟩
    · rename_i c
      rw [mid_iff]
      simp only [Hd.turn, Hd.key]
      rcases mid_iff.1 hm with m | m | m
      · exact .inl m
      · refine .inr (.inl ⟨m.1, m.2.1, m.2.2.1, ?_⟩)
        by_cases hk0 : key = 0
        · cases ha : anyI (h.ks.set i.toNat key)
          · exact absurd ⟨hk0, .inr ha⟩ c
          · rfl
        · exact hany hk0
      · refine .inr (.inr ⟨m.1, m.2.1, m.2.2.1, m.2.2.2.1, ?_⟩)
        rw [getD_set hi4]
        split
        · rename_i e
          intro hk0
          exact c ⟨hk0, .inl (by have := m.2.2.2.1; omega)⟩
        · exact m.2.2.2.2
  · unfold Hd.regd
    split
    · rename_i c; exact .inr ⟨c.1, rfl⟩
    · exact .inl rfl
theorem register_cases (h : Hd) (i key : Int) : h.register i key = (Hd.zero, 2) ∨ (h.ok = true ∧ (0 ≤ i ∧ i ≤ 3) ∧ (0 ≤ key ∧ key ≤ 9999) ∧ h.register i key = (h.regd i key, 0)) := by
  unfold Hd.register
  by_cases c : (h.ok && inI i 0 3 && inI key 0 9999) = true
  · rw [if_pos c]
    simp only [Bool.and_eq_true, inI_iff] at c
    exact .inr ⟨c.1.1, c.1.2, c.2, rfl⟩
  · rw [if_neg c]; exact .inl rfl
/- Clear. -/
theorem clear_cases (h : Hd) (i : Int) : (∃ t, h.clear i = (⟨[0, 0, 0, 0], 0, -1, t⟩, 0)) ∨ (h.clear i = (h, 1) ∧ h.Reg i = false) ∨ h.clear i = (Hd.zero, 2) := by
  unfold Hd.clear
  by_cases c : (h.ok && inI i 0 3) = true
  · rw [if_pos c]
    unfold Hd.clrd
    cases hr : regI h.ks i
    · rw [if_pos rfl]; exact .inr (.inl ⟨rfl, by simp [Hd.Reg, hr]⟩)
    · rw [if_neg (by decide)]; exact .inl ⟨_, rfl⟩
  · rw [if_neg c]; exact .inr (.inr rfl)
/- Who isn't registered. -/
theorem acts_none {h : Hd} (ok : h.ok = true) {i : Int} (hr : h.Reg i = false) (hi : inI i 0 3 = true) (k key kind : Int) (h1 : inI key 1 9999 = true) (h2 : kiI kind = true) :
    h.reserve i k = (if kiI k = true then (h, 1) else (Hd.zero, 2)) ∧ h.release i = (h, 1) ∧ h.clear i = (h, 1) ∧ h.preempt i key kind = (h, 1) := by
  have hg : regI h.ks i = false := by simpa [Hd.Reg, ok, hi] using hr
  refine ⟨?_, ?_, ?_, ?_⟩
  · cases hk : kiI k <;> simp [Hd.reserve, ok, hi, hk, Hd.resd, hg, told]
  · simp [Hd.release, ok, hi, Hd.reld, hg, told]
  · simp [Hd.clear, ok, hi, Hd.clrd, hg, told]
  · simp [Hd.preempt, ok, hi, h1, h2, Hd.pred, hg, told]
theorem acts_out {h : Hd} {i : Int} (hi : inI i 0 3 = false) (k key kind : Int) : h.reserve i k = (Hd.zero, 2) ∧ h.release i = (Hd.zero, 2) ∧ h.clear i = (Hd.zero, 2) ∧ h.preempt i key kind = (Hd.zero, 2) := by
  simp [Hd.reserve, Hd.release, Hd.clear, Hd.preempt, hi]
end Go.Proofs.Ytppkncmlloelbaa
