/- Lists of strings are marked and looked at again: markStringS, heldStringS; one more string behind a list. -/
import Derived.Test.YtnnmcjgmnjokiaaDoorSMem
import Derived.Deep.RegionHeld3
namespace Go.Proofs.YtnnmcjgmnjokiaaDoor
open Go.ChangeShapes Go.WideShapes Go.ChangeAt Go.RowKit

def marksS (k : Nat) (n : Nat) : List Bs := (List.range n).map fun j => mtext (k + j)
theorem marksS_length (k n : Nat) : (marksS k n).length = n := by simp [marksS]
theorem marksS_getD (k n j : Nat) (h : j < n) : (marksS k n).getD j [] = mtext (k + j) := by simp [marksS, List.getD, h]
theorem marksS_step (k : Nat) (xs : List Bs) (j : Nat) (h : j < xs.length) : ((marksS k j ++ xs.drop j).set j (mtext (k + j))) = marksS k (j + 1) ++ xs.drop (j + 1) := by
  rw [List.set_append_right _ _ (by simp [marksS_length]), marksS_length, Nat.sub_self]
  rw [List.drop_eq_getElem_cons h, List.set_cons_zero]
  simp [marksS, List.range_succ]
theorem marksS_all (k : Nat) (xs : List Bs) : marksS k xs.length ++ xs.drop xs.length = marksS k xs.length := by simp
theorem OwnS.put {w : World} {base g n cap : Nat} {xs : List Bs} (h : OwnS w base (.slice (some ⟨g, 0, none⟩) n cap) xs) (hn : n = xs.length) (j : Nat) (hj : j < n) (x : Bs) :
    w.frozen? ⟨g, j, none⟩ = false ∧ (∃ y, w.cell? ⟨g, j, none⟩ = some y) ∧ OwnS (w.setCell ⟨g, j, none⟩ (S x)) base (.slice (some ⟨g, 0, none⟩) n cap) (xs.set j x) := by
  subst hn
  have hown : w.ownsRow base 9 1 (.slice (some ⟨g, 0, none⟩) xs.length cap) xs.length (xs.map S) := h
  refine ⟨World.ownsRow.frozenAt hown j, ?_, ?_⟩
  · rw [World.ownsRow.cellAt hown j (by omega)]
    exact ⟨_, List.getElem?_eq_getElem (by simpa using hj)⟩
  · have := (World.ownsRow.stored hown j (S x)).1
    rw [← List.map_set] at this
    unfold OwnS
    rwa [List.length_set]
theorem grownSetS (w : World) (g j : Nat) (x : Value) : w.grownBy (w.setCell ⟨g, j, none⟩ x) (some g) :=
  ⟨rfl, rfl, rfl, by simp, fun k _ hk => heap_setCell_other w ⟨g, j, none⟩ k x (fun e => hk (by simp [e]))⟩
theorem grown_below {w w' w'' : World} {row : Option Nat} (h : w.grownBy w' row) (b : Below w'.heap.size w' w'') : w.grownBy w'' row :=
  ⟨b.os.trans h.os, b.tape.trans h.tape, b.output.trans h.output, Nat.le_trans h.size b.size, fun k hk hne => (b.block k (Nat.lt_of_lt_of_le hk h.size)).trans (h.block k hk hne)⟩
end Go.Proofs.YtnnmcjgmnjokiaaDoor
