/- What the law on runs asks, of plain numbers: the runs are the set piece by piece, none beside another one. -/
import Derived.Test.YtfdmagfjnppbgaaRuns
namespace Go.Proofs.Ytfdmagfjnppbgaa
open Go.RowKit

def addN (S a : Int) : Nat → Int
  | 0 => S
  | p + 1 => withI (addN S a p) (a + p)
def runA (s : Int) (j : Nat) : Int := (runsI s).getD (2 * j) 0
def runC (s : Int) (j : Nat) : Int := (runsI s).getD (2 * j + 1) 0
def setAt (s : Int) : Nat → Int
  | 0 => 0
  | j + 1 => addN (setAt s j) (runA s j) (runC s j).toNat
def lastAt (s : Int) : Nat → Int
  | 0 => -1
  | j + 1 => runA s j + runC s j

theorem runs_all : ∀ n : Nat, n < 256 → (runsI n).length % 2 = 0 ∧ setAt n ((runsI n).length / 2) = n ∧ ∀ j : Nat, j < 8 → 2 * j < (runsI n).length → (lastAt n j < runA n j ∧ 0 ≤ runA n j ∧ runA n j ≤ 8 ∧ 1 ≤ runC n j ∧ runC n j ≤ 8) := by decide +kernel
theorem runs_law (s : Int) (h0 : 0 ≤ s) (h1 : s < 256) : (runsI s).length % 2 = 0 ∧ setAt s ((runsI s).length / 2) = s ∧ ∀ j : Nat, 2 * j < (runsI s).length → (lastAt s j < runA s j ∧ 0 ≤ runA s j ∧ runA s j ≤ 8 ∧ 1 ≤ runC s j ∧ runC s j ≤ 8) := by
  have a := all_nat (fun s => (runsI s).length % 2 = 0 ∧ setAt s ((runsI s).length / 2) = s ∧ ∀ j : Nat, j < 8 → 2 * j < (runsI s).length → (lastAt s j < runA s j ∧ 0 ≤ runA s j ∧ runA s j ≤ 8 ∧ 1 ≤ runC s j ∧ runC s j ≤ 8)) runs_all s h0 h1
  refine ⟨a.1, a.2.1, fun j hj => a.2.2 j ?_ hj⟩
  have := runsI_len s
  omega
end Go.Proofs.Ytfdmagfjnppbgaa
