/- Chosen of the program answers what plain lists say, in new memory. -/
import Derived.Test.YtnnmcjgmnjokiaaDoorEq8
namespace Go.Proofs.YtnnmcjgmnjokiaaDoor
open Go.ChangeShapes Go.WideShapes Go.ChangeAt Go.RowKit

def chF (a b : List Int) (s : Int) (j : Nat) : Nat → Int := fun k => if k < j ∧ inB s k = true then b.getD k 0 else a.getD k 0
theorem chF_zero (a b : List Int) (s : Int) : chF a b s 0 = fun k => a.getD k 0 := by funext k; simp [chF]
theorem chF_yes {a b : List Int} {s : Int} {j : Nat} (h : inB s j = true) : upd (chF a b s j) j (b.getD j 0) = chF a b s (j + 1) := by
  funext k
  unfold upd chF
  by_cases e : k = j
  · subst e; simp [h]
  · have : k < j + 1 ↔ k < j := by omega
    simp [e, this]
theorem chF_no {a b : List Int} {s : Int} {j : Nat} (h : inB s j = false) : chF a b s j = chF a b s (j + 1) := by
  funext k
  unfold chF
  by_cases e : k = j
  · subst e; simp [h]
  · have : k < j + 1 ↔ k < j := by omega
    simp [this]
theorem chF_list (a b : List Int) (s : Int) (n : Nat) : listF (chF a b s 8) n = chosenUp a b s 8 n := rfl

def CRel (a b : List Int) (s : Int) (w wr : World) (G5 G6 j : Nat) : Prop := Row wr G5 (chF a b s j) ∧ Row wr G6 (fun k => b.getD k 0) ∧ Below w.heap.size w wr
end Go.Proofs.YtnnmcjgmnjokiaaDoor
