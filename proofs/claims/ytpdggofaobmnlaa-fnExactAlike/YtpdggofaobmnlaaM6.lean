/- Kinds, and who may, as plain numbers and truths. -/
import Derived.Test.YtpdggofaobmnlaaM2
namespace Go.Proofs.Ytpdggofaobmnlaa
open Go.RowKit

def kiI (k : Int) : Bool := inI k 1 6
def barsI (k : Int) (w : Bool) : Bool := kiI k && (w || decide (k % 2 = 0))
def allI (k : Int) : Bool := decide (k = 5) || decide (k = 6)
def mayI (k : Int) (w h r : Bool) : Bool := if k = 0 then true else if kiI k = false then false else if h then true else if decide (3 ≤ k) && r then true else !barsI k w
theorem kinds (k : Int) : k = 0 ∨ k = 1 ∨ k = 2 ∨ k = 3 ∨ k = 4 ∨ k = 5 ∨ k = 6 ∨ (kiI k = false ∧ k ≠ 0 ∧ k ≠ 1 ∧ k ≠ 2 ∧ k ≠ 3 ∧ k ≠ 4 ∧ k ≠ 5 ∧ k ≠ 6) := by
  by_cases h : kiI k = true
  · have := (inI_iff k 1 6).1 h
    omega
  · have h' : kiI k = false := by simpa using h
    have : ¬ (1 ≤ k ∧ k ≤ 6) := fun e => h ((inI_iff k 1 6).2 e)
    by_cases h0 : k = 0
    · exact .inl h0
    · exact .inr (.inr (.inr (.inr (.inr (.inr (.inr ⟨h', by omega⟩))))))
theorem kiI_lit : kiI 0 = false ∧ kiI 1 = true ∧ kiI 2 = true ∧ kiI 3 = true ∧ kiI 4 = true ∧ kiI 5 = true ∧ kiI 6 = true := by decide
/- One that holds it may; where reading is barred writing is, too. -/
theorem mayI_holds (k : Int) (w r : Bool) (h : kiI k = true) : mayI k w true r = true := by
  unfold mayI
  by_cases h0 : k = 0
  · rw [if_pos h0]
  · rw [if_neg h0, if_neg (by rw [h]; decide), if_pos rfl]
theorem barsI_le (k : Int) : (barsI k false && !barsI k true) = false := by
  unfold barsI
  cases kiI k <;> simp
theorem mayI_le (k : Int) (h r : Bool) : (mayI k true h r && !mayI k false h r) = false := by
  unfold mayI barsI
  by_cases h0 : k = 0
  · simp [h0]
  · rw [if_neg h0, if_neg h0]
    cases hk : kiI k with
    | false => simp
    | true => cases h <;> cases r <;> by_cases h3 : 3 ≤ k <;> simp [h3]
theorem mayI_all (k : Int) (w h : Bool) : (!allI k || mayI k w h true) = true := by
  unfold allI mayI
  by_cases h5 : k = 5
  · subst h5; simp [show kiI 5 = true from rfl]
  · by_cases h6 : k = 6
    · subst h6; simp [show kiI 6 = true from rfl]
    · simp [h5, h6]
theorem none_all (k : Int) (hk : kiI k = false) : allI k = false := by
  rcases kinds k with h | h | h | h | h | h | h | ⟨_, h0, h1, h2, h3, h4, h5, h6⟩
  · subst h; rfl
  all_goals first | (subst h; exact absurd hk (by decide)) | simp [allI, h5, h6]
theorem none_bars (k : Int) (w : Bool) (hk : kiI k = false) : barsI k w = false := by simp [barsI, hk]
theorem none_may (k : Int) (w h r : Bool) (h0 : k ≠ 0) (hk : kiI k = false) : mayI k w h r = false := by simp [mayI, h0, hk]
end Go.Proofs.Ytpdggofaobmnlaa
/- Holdings as plain lists and numbers: when one is right, who is registered, who holds it, who may. -/
namespace Go.Proofs.Ytpdggofaobmnlaa
open Go.RowKit

structure Hd where
  ks : List Int
  kd : Int
  ho : Int
  tu : Int
def anyI (ks : List Int) : Bool := ks.any (fun k => decide (k ≠ 0))
def keysI (ks : List Int) : Bool := ks.all (fun k => inI k 0 9999)
def regI (ks : List Int) (i : Int) : Bool := decide (ks.getD i.toNat 0 ≠ 0)
def Hd.mid (h : Hd) : Bool := if h.kd = 0 then decide (h.ho = -1) else if allI h.kd then decide (h.ho = -1) && anyI h.ks else kiI h.kd && inI h.ho 0 3 && regI h.ks h.ho
def Hd.ok (h : Hd) : Bool := decide (h.ks.length = 4) && inI h.tu 0 1000000000 && keysI h.ks && h.mid
def Hd.holds (h : Hd) (i : Int) : Bool := decide (h.kd ≠ 0) && (decide (h.ho = i) || (allI h.kd && regI h.ks i))
def Hd.may (h : Hd) (i : Int) (w : Bool) : Bool := mayI h.kd w (h.holds i) (regI h.ks i)
def Hd.Reg (h : Hd) (i : Int) : Bool := h.ok && inI i 0 3 && regI h.ks i
def Hd.Hol (h : Hd) (i : Int) : Bool := h.ok && inI i 0 3 && h.holds i
def Hd.May (h : Hd) (i : Int) (w : Bool) : Bool := h.ok && inI i 0 3 && h.may i w
def Hd.new : Hd := ⟨[0, 0, 0, 0], 0, -1, 0⟩
theorem Hd.ok_len {h : Hd} (e : h.ok = true) : h.ks.length = 4 := by
  unfold Hd.ok at e
  simp only [Bool.and_eq_true, decide_eq_true_eq] at e
  exact e.1.1.1
theorem any_take (ks : List Int) (j : Nat) (h : j < ks.length) (h0 : anyI (ks.take j) = false) (hx : ks.getD j 0 = 0) : anyI (ks.take (j + 1)) = false := by
  unfold anyI at *
  rw [List.take_succ_eq_append_getElem h, List.any_append, h0]
  have : ks[j] = 0 := by simpa [h] using hx
  simp [this]
theorem any_at (ks : List Int) (j : Nat) (h : j < ks.length) (hx : ks.getD j 0 ≠ 0) : anyI ks = true := by
  unfold anyI
  rw [List.any_eq_true]
  exact ⟨ks[j], List.getElem_mem h, by simpa [h] using hx⟩
theorem keys_take (ks : List Int) (j : Nat) (h : j < ks.length) (h0 : keysI (ks.take j) = true) (hx : inI (ks.getD j 0) 0 9999 = true) : keysI (ks.take (j + 1)) = true := by
  unfold keysI at *
  rw [List.take_succ_eq_append_getElem h, List.all_append, h0]
  have : inI ks[j] 0 9999 = true := by simpa [h] using hx
  simp [this]
theorem keys_not (ks : List Int) (j : Nat) (h : j < ks.length) (hx : inI (ks.getD j 0) 0 9999 = false) : keysI ks = false := by
  unfold keysI
  rw [List.all_eq_false]
  exact ⟨ks[j], List.getElem_mem h, by have : inI ks[j] 0 9999 = false := by { simpa [h] using hx }; simp [this]⟩
end Go.Proofs.Ytpdggofaobmnlaa
