/- The table of powers of ten of Go's library, out of what a statement lists. -/
import Derived.Test.YtifffiekibdgnaaGreatDoorDoor
import Derived.LaidMore
import Derived.Stop.Joined
import Derived.Stop.LaidErr
import Derived.Lib.LaidTab
import Derived.ProofKit
import Derived.Test.YtifffiekibdgnaaGreatDoorIParses
namespace Go.Proofs.YtifffiekibdgnaaGreatDoor
open Go.ChangeShapes Go.WideShapes Go.ChangeAt Go.RowKit

theorem pow_is : (Rows.laid_internal_strconv_uint64pow10 : DataW Unit) = Lib.tabData .u64 Lib.pow10Tab := by kernel_rfl
theorem tab_third {W : World} {a b : String × DataW Unit} {rest : List (String × DataW Unit)} (h : laidMet Tryz.prog (a :: b :: ("internal/strconv.uint64pow10", Rows.laid_internal_strconv_uint64pow10) :: rest) W) : Tab W := by
  have h3 : laidMet Tryz.prog (("internal/strconv.uint64pow10", Lib.tabData .u64 Lib.pow10Tab) :: rest) W := by
    have := h.tail.tail
    rw [pow_is] at this
    exact this
  exact Lib.tabIs_of_head (show Tryz.prog.globalNamed "internal/strconv.uint64pow10" = some 2 by kernel_rfl) (show (Tryz.prog.globals[2]?).map (·.type) = some 116 by kernel_rfl) Tryz.underlying116 Tryz.underlying87 (by kernel_rfl) (by kernel_rfl) h3
end Go.Proofs.YtifffiekibdgnaaGreatDoor
/- The table and the two errors of Go's library, out of what a statement lists. -/
namespace Go.Proofs.YtifffiekibdgnaaGreatDoor
open Go.ChangeShapes Go.WideShapes Go.ChangeAt Go.RowKit

theorem Tryz.cellsES : Tryz.prog.cellsOf 126 = 1 := by kernel_rfl
theorem Tryz.cellsSt : Tryz.prog.cellsOf 9 = 1 := by kernel_rfl
theorem Tryz.starES : "*" ++ "errors.errorString" = "*errors.errorString" := by decide
theorem Tryz.rowES (u : TypeId) (h : Tryz.prog.typeName? 3 u = some "*errors.errorString") : u = 124 :=
  typeName_ptr_named (nm := "errors.errorString") (by rw [Tryz.starES]; kernel_rfl) (by kernel_rfl) (by decide) u (by rw [Tryz.starES]; exact h)
theorem err_head {W : World} {n : String} {text : List UInt8} {r : List (String × DataW Unit)} {g : Nat} (hg : Tryz.prog.globalNamed n = some g) (ht : (Tryz.prog.globals[g]?).map (·.type) = some 52)
    (h : laidMet Tryz.prog ((n, .iface "*errors.errorString" (.ptr (.agg [.lit (.string text)]))) :: r) W) : ErrAt W g := by
  obtain ⟨a, s, hv, -⟩ := laid_sentinel h hg ht Tryz.underlying52 Tryz.rowES Tryz.underlying124 Tryz.underlying126 rfl rfl Tryz.underlying9 Tryz.cellsES Tryz.cellsSt
  have h0 := World.var?_cell hg hv 0
  exact ⟨124, .pointer (some a), by simpa using h0⟩
theorem tabE_seven {W : World} {a b c : String × DataW Unit} {rest : List (String × DataW Unit)} (h : laidMet Tryz.prog (a :: b :: ("internal/strconv.uint64pow10", Rows.laid_internal_strconv_uint64pow10) :: c :: ("strconv.ErrRange", Rows.laid_strconv_ErrRange) :: ("strconv.ErrSyntax", Rows.laid_strconv_ErrSyntax) :: rest) W) : TabE W :=
  ⟨tab_third h, err_head (by kernel_rfl) (by kernel_rfl) h.tail.tail.tail.tail.tail, err_head (by kernel_rfl) (by kernel_rfl) h.tail.tail.tail.tail⟩

/- 3 -/
theorem tab_fnReports {W : World} (h : laidMetH Tryz.prog Rows.fnReportsRow.laid W) : TabE W := by
  rw [MakeChecks.laidMetH_plain _ _ _ (by kernel_rfl)] at h
  exact tabE_seven h
end Go.Proofs.YtifffiekibdgnaaGreatDoor
