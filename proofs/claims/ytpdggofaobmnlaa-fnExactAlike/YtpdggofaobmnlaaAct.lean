/- What one may change of a holding, as plain lists and numbers. -/
import Derived.Test.YtpdggofaobmnlaaM6
namespace Go.Proofs.Ytpdggofaobmnlaa
open Go.RowKit

def turnI (t : Int) : Int := if 1000000000 < t + 1 then 0 else t + 1
def Hd.zero : Hd := ⟨[], 0, 0, 0⟩
def Hd.free (h : Hd) : Hd := ⟨h.ks, 0, -1, h.tu⟩
def Hd.take (h : Hd) (i k : Int) : Hd := ⟨h.ks, k, if allI k then -1 else i, h.tu⟩
def Hd.turn (h : Hd) : Hd := ⟨h.ks, h.kd, h.ho, turnI h.tu⟩
def Hd.key (h : Hd) (i key : Int) : Hd := ⟨h.ks.set i.toNat key, h.kd, h.ho, h.tu⟩
def Hd.regd (h : Hd) (i key : Int) : Hd := if key = 0 ∧ (h.ho = i ∨ anyI (h.ks.set i.toNat key) = false) then ((h.key i key).turn).free else (h.key i key).turn
def Hd.register (h : Hd) (i key : Int) : Hd × Int := if h.ok && inI i 0 3 && inI key 0 9999 then (h.regd i key, 0) else (Hd.zero, 2)
def Hd.resd (h : Hd) (i k : Int) : Hd × Bool := if regI h.ks i = false then (h, false) else if h.kd = 0 then (h.take i k, true) else (h, decide (h.kd = k) && (allI k || decide (h.ho = i)))
def told (r : Hd × Bool) : Hd × Int := (r.1, if r.2 then 0 else 1)
def Hd.reserve (h : Hd) (i k : Int) : Hd × Int := if h.ok && inI i 0 3 && kiI k then told (h.resd i k) else (Hd.zero, 2)
def Hd.reld (h : Hd) (i : Int) : Hd × Bool := if regI h.ks i = false then (h, false) else if h.holds i then (h.free, true) else (h, true)
def Hd.release (h : Hd) (i : Int) : Hd × Int := if h.ok && inI i 0 3 then told (h.reld i) else (Hd.zero, 2)
def Hd.clrd (h : Hd) (i : Int) : Hd × Bool := if regI h.ks i = false then (h, false) else (⟨[0, 0, 0, 0], 0, -1, turnI h.tu⟩, true)
def Hd.clear (h : Hd) (i : Int) : Hd × Int := if h.ok && inI i 0 3 then told (h.clrd i) else (Hd.zero, 2)
/- The first j keys but this one's: those that are 'key' are struck; is any left? -/
def strike (ks : List Int) (i : Nat) (key : Int) : Nat → List Int
  | 0 => ks
  | j + 1 => if j ≠ i ∧ ks.getD j 0 = key then (strike ks i key j).set j 0 else strike ks i key j
def more (ks : List Int) (i : Nat) (key : Int) : Nat → Bool
  | 0 => false
  | j + 1 => more ks i key j || (decide (j ≠ i) && (decide (ks.getD j 0 ≠ key) && decide (ks.getD j 0 ≠ 0)))
def has (ks : List Int) (key : Int) : Nat → Bool
  | 0 => false
  | j + 1 => has ks key j || decide (ks.getD j 0 = key)
def Hd.alone (h : Hd) (key : Int) : Bool := decide (h.kd ≠ 0) && (!allI h.kd && decide (h.ks.getD h.ho.toNat 0 = key))
def Hd.pred (h : Hd) (i key k : Int) : Hd × Bool :=
  if (regI h.ks i && has h.ks key 4) = false then (h, false) else
  if (h.alone key || (allI h.kd && !more h.ks i.toNat key 4)) = true then ((Hd.turn ⟨strike h.ks i.toNat key 4, h.kd, h.ho, h.tu⟩).take i k, true)
  else (Hd.turn ⟨strike h.ks i.toNat key 4, h.kd, h.ho, h.tu⟩, true)
theorem strike_len (ks : List Int) (i : Nat) (key : Int) (j : Nat) : (strike ks i key j).length = ks.length := by
  induction j with
  | zero => rfl
  | succ j ih => unfold strike; split <;> simp [ih]
theorem strike_at (ks : List Int) (i : Nat) (key : Int) (j m : Nat) (hm : j ≤ m) : (strike ks i key j).getD m 0 = ks.getD m 0 := by
  induction j with
  | zero => rfl
  | succ j ih =>
    have := ih (by omega)
    unfold strike
    split
    · rw [← this]
      simp only [List.getD_eq_getElem?_getD]
      rw [List.getElem?_set_ne (by omega)]
    · exact this
def Hd.preempt (h : Hd) (i key k : Int) : Hd × Int := if h.ok && inI i 0 3 && inI key 1 9999 && kiI k then told (h.pred i key k) else (Hd.zero, 2)
theorem Hd.ok_all {h : Hd} (e : h.ok = true) : h.ks.length = 4 ∧ (0 ≤ h.tu ∧ h.tu ≤ 1000000000) ∧ keysI h.ks = true ∧ h.mid = true := by
  unfold Hd.ok at e
  simp only [Bool.and_eq_true, decide_eq_true_eq] at e
  exact ⟨e.1.1.1, (inI_iff _ _ _).1 e.1.1.2, e.1.2, e.2⟩
theorem turnI_in (t : Int) (h0 : 0 ≤ t) (h1 : t ≤ 1000000000) : 0 ≤ turnI t ∧ turnI t ≤ 1000000000 := by
  unfold turnI; split <;> omega
/- What is answered has four keys, or none. -/
theorem register_len (h : Hd) (i key : Int) : (h.register i key).1.ks.length ≤ 4 := by
  unfold Hd.register
  split
  · rename_i c
    simp only [Bool.and_eq_true] at c
    have := (Hd.ok_all c.1.1).1
    unfold Hd.regd
    split <;> simp [Hd.free, Hd.turn, Hd.key, this]
  · simp [Hd.zero]
theorem told_fst (r : Hd × Bool) : (told r).1 = r.1 := rfl
theorem reserve_len (h : Hd) (i k : Int) : (h.reserve i k).1.ks.length ≤ 4 := by
  unfold Hd.reserve
  split
  · rename_i c
    simp only [Bool.and_eq_true] at c
    have := (Hd.ok_all c.1.1).1
    rw [told_fst]
    unfold Hd.resd
    split
    · simp [this]
    · split <;> simp [Hd.take, this]
  · simp [Hd.zero]
theorem release_len (h : Hd) (i : Int) : (h.release i).1.ks.length ≤ 4 := by
  unfold Hd.release
  split
  · rename_i c
    simp only [Bool.and_eq_true] at c
    have := (Hd.ok_all c.1).1
    rw [told_fst]
    unfold Hd.reld
    split
    · simp [this]
    · split <;> simp [Hd.free, this]
  · simp [Hd.zero]
theorem clear_len (h : Hd) (i : Int) : (h.clear i).1.ks.length ≤ 4 := by
  unfold Hd.clear
  split
  · rename_i c
    simp only [Bool.and_eq_true] at c
    have := (Hd.ok_all c.1).1
    rw [told_fst]
    unfold Hd.clrd
    split <;> simp [this]
  · simp [Hd.zero]
theorem preempt_len (h : Hd) (i key k : Int) : (h.preempt i key k).1.ks.length ≤ 4 := by
  unfold Hd.preempt
  split
  · rename_i c
    simp only [Bool.and_eq_true] at c
    have := (Hd.ok_all c.1.1.1).1
    rw [told_fst]
    unfold Hd.pred
    split
    · simp [this]
    · split <;> simp [Hd.take, Hd.turn, strike_len, this]
  · simp [Hd.zero]
end Go.Proofs.Ytpdggofaobmnlaa
