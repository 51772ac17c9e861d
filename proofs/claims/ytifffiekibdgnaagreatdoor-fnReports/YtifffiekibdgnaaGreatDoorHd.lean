/- Holdings as plain lists and numbers: when one is right, who is registered, who holds it, who may. -/
import Derived.Test.YtifffiekibdgnaaGreatDoorRu
namespace Go.Proofs.YtifffiekibdgnaaGreatDoor
open Go.RowKit

structure Hd where
  ks : List Int
  kd : Int
  ho : Int
  tu : Int
def anyI (ks : List Int) : Bool := ks.any (fun k => decide (k ≠ 0))
def keysI (ks : List Int) : Bool := ks.all (fun k => inI k 0 9999)
def regI (ks : List Int) (i : Int) : Bool := decide (ks.getD i.toNat 0 ≠ 0)
def Hd.mid (h : Hd) : Bool := if h.kd = 0 then decide (h.ho = -1) else if allI h.kd then decide (h.ho = -1) && anyI h.ks else kiI h.kd && inI h.ho 0 3 && regI h.ks h.ho
def Hd.ok (h : Hd) : Bool := decide (h.ks.length = 4) && inI h.tu 0 1000000000 && keysI h.ks && h.mid
def Hd.holds (h : Hd) (i : Int) : Bool := decide (h.kd ≠ 0) && (decide (h.ho = i) || (allI h.kd && regI h.ks i))
def Hd.may (h : Hd) (i : Int) (w : Bool) : Bool := mayI h.kd w (h.holds i) (regI h.ks i)
def Hd.Reg (h : Hd) (i : Int) : Bool := h.ok && inI i 0 3 && regI h.ks i
def Hd.Hol (h : Hd) (i : Int) : Bool := h.ok && inI i 0 3 && h.holds i
def Hd.May (h : Hd) (i : Int) (w : Bool) : Bool := h.ok && inI i 0 3 && h.may i w
def Hd.new : Hd := ⟨[0, 0, 0, 0], 0, -1, 0⟩
theorem Hd.ok_len {h : Hd} (e : h.ok = true) : h.ks.length = 4 := by
  unfold Hd.ok at e
  simp only [Bool.and_eq_true, decide_eq_true_eq] at e
  exact e.1.1.1
theorem any_take (ks : List Int) (j : Nat) (h : j < ks.length) (h0 : anyI (ks.take j) = false) (hx : ks.getD j 0 = 0) : anyI (ks.take (j + 1)) = false := by
  unfold anyI at *
  rw [List.take_succ_eq_append_getElem h, List.any_append, h0]
  have : ks[j] = 0 := by simpa [h] using hx
  simp [this]
theorem any_at (ks : List Int) (j : Nat) (h : j < ks.length) (hx : ks.getD j 0 ≠ 0) : anyI ks = true := by
  unfold anyI
  rw [List.any_eq_true]
  exact ⟨ks[j], List.getElem_mem h, by simpa [h] using hx⟩
theorem keys_take (ks : List Int) (j : Nat) (h : j < ks.length) (h0 : keysI (ks.take j) = true) (hx : inI (ks.getD j 0) 0 9999 = true) : keysI (ks.take (j + 1)) = true := by
  unfold keysI at *
  rw [List.take_succ_eq_append_getElem h, List.all_append, h0]
  have : inI ks[j] 0 9999 = true := by simpa [h] using hx
  simp [this]
theorem keys_not (ks : List Int) (j : Nat) (h : j < ks.length) (hx : inI (ks.getD j 0) 0 9999 = false) : keysI ks = false := by
  unfold keysI
  rw [List.all_eq_false]
  exact ⟨ks[j], List.getElem_mem h, by have : inI ks[j] 0 9999 = false := by { simpa [h] using hx }; simp [this]⟩
end Go.Proofs.YtifffiekibdgnaaGreatDoor
