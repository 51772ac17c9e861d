/- The table of powers of ten of Go's library, out of what a statement lists. -/
import Derived.Test.YtifffiekibdgnaaDoorDoor
import Derived.LaidMore
import Derived.Stop.Joined
import Derived.Stop.LaidErr
import Derived.Lib.LaidTab
import Derived.ProofKit
namespace Go.Proofs.YtifffiekibdgnaaDoor
open Go.ChangeShapes Go.WideShapes Go.ChangeAt Go.RowKit

theorem pow_is : (Rows.laid_internal_strconv_uint64pow10 : DataW Unit) = Lib.tabData .u64 Lib.pow10Tab := by kernel_rfl
theorem tab_third {W : World} {a b : String × DataW Unit} {rest : List (String × DataW Unit)} (h : laidMet Tryd.prog (a :: b :: ("internal/strconv.uint64pow10", Rows.laid_internal_strconv_uint64pow10) :: rest) W) : Tab W := by
  have h3 : laidMet Tryd.prog (("internal/strconv.uint64pow10", Lib.tabData .u64 Lib.pow10Tab) :: rest) W := by
    have := h.tail.tail
    rw [pow_is] at this
    exact this
  exact Lib.tabIs_of_head (show Tryd.prog.globalNamed "internal/strconv.uint64pow10" = some 2 by kernel_rfl) (show (Tryd.prog.globals[2]?).map (·.type) = some 108 by kernel_rfl) Tryd.underlying108 Tryd.underlying80 (by kernel_rfl) (by kernel_rfl) h3

/- 3 -/
theorem tab_fnExactKeysOf {W : World} (h : laidMetH Tryd.prog Rows.fnExactKeysOfRow.laid W) : Tab W := by
  rw [MakeChecks.laidMetH_plain _ _ _ (by kernel_rfl)] at h
  exact tab_third h

/- 4 -/
theorem tab_fnExactHolderOf {W : World} (h : laidMetH Tryd.prog Rows.fnExactHolderOfRow.laid W) : Tab W := by
  rw [MakeChecks.laidMetH_plain _ _ _ (by kernel_rfl)] at h
  exact tab_third h

/- 5 -/
theorem tab_fnExactShowHolding {W : World} (h : laidMetH Tryd.prog Rows.fnExactShowHoldingRow.laid W) : Tab W := by
  rw [MakeChecks.laidMetH_plain _ _ _ (by kernel_rfl)] at h
  exact tab_third h
end Go.Proofs.YtifffiekibdgnaaDoor
