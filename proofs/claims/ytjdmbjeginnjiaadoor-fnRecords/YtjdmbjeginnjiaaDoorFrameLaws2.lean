/- More of the law on frames, of plain lists: the frames one behind the other, up to the j-th. -/
import Derived.Test.YtjdmbjeginnjiaaDoorFrameLaws
namespace Go.Proofs.YtjdmbjeginnjiaaDoor
open Go.RowKit

theorem cat_take (xs : List Bs) (j : Nat) (h : j < xs.length) : cat (xs.take (j + 1)) = cat (xs.take j) ++ framed (xs.getD j []) := by
  rw [List.take_succ_eq_append_getElem h, cat_snoc]
  simp [h]
theorem cat_take_len (xs : List Bs) (j : Nat) : (cat (xs.take j)).length ≤ (cat xs).length := by
  have h2 : cat xs = cat (xs.take j) ++ cat (xs.drop j) := by rw [cat, cat, cat, ← List.flatten_append, ← List.map_append, List.take_append_drop]
  rw [h2, List.length_append]
  omega
theorem plainB_len {l : Bs} (h : plainB l = true) : l.length ≤ 300 := by
  simp only [plainB, Bool.and_eq_true, decide_eq_true_eq] at h
  exact h.2
theorem framedS_yes {l : Bs} (h : plainB l = true) : framedS l = framed l := by simp [framedS, h]
theorem getD_mem (xs : List Bs) (j : Nat) (h : j < xs.length) : xs.getD j [] ∈ xs := by simp [h]
/- A list that isn't empty is its front and its last. -/
theorem last_split (xs : List Bs) (h : 0 < xs.length) : xs = xs.take (xs.length - 1) ++ [xs.getLastD []] := by
  have hne : xs ≠ [] := fun e => by subst e; simp at h
  have h1 := List.dropLast_concat_getLast hne
  rw [← List.dropLast_eq_take, List.getLastD_eq_getLast?, List.getLast?_eq_some_getLast hne]
  exact h1.symm
end Go.Proofs.YtjdmbjeginnjiaaDoor
