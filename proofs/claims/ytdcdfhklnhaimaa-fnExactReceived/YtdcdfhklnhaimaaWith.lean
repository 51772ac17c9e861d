/- With, Without and Full, the program's and the model's: each answers what plain sets say, at every argument, and leaves the world as it was. -/
import Derived.Test.YtdcdfhklnhaimaaRows
import Derived.Test.YtdcdfhklnhaimaaSets
import Derived.WalkKit
import Derived.ProofKit
import Derived.OpenShut
namespace Go.Proofs.Ytdcdfhklnhaimaa
open Go.ChangeShapes Go.WideShapes Go.ChangeAt Go.RowKit

theorem full_wrap (n : Int) (h0 : 0 ≤ n) (h1 : n ≤ 8) : wrap64 (wrap64 (2 ^ n.toNat) - 1) = fullI n := by
  have a : ∀ k : Nat, k < 9 → wrap64 (wrap64 (2 ^ k) - 1) = 2 ^ k - 1 := by decide +kernel
  simp only [fullI, h0, h1, and_self, if_true]
  exact a n.toNat (by omega)
theorem fullI_no (n : Int) (h : n < 0 ∨ 8 < n) : fullI n = -1 := by
  unfold fullI; rw [if_neg (by omega)]
end Go.Proofs.Ytdcdfhklnhaimaa
