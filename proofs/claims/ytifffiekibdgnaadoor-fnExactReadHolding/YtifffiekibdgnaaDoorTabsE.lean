/- The table and the two errors of Go's library, out of what a statement lists. -/
import Derived.Test.YtifffiekibdgnaaDoorTabs
import Derived.Test.YtifffiekibdgnaaDoorIParse
namespace Go.Proofs.YtifffiekibdgnaaDoor
open Go.ChangeShapes Go.WideShapes Go.ChangeAt Go.RowKit

theorem Tryd.cellsES : Tryd.prog.cellsOf 118 = 1 := by kernel_rfl
theorem Tryd.cellsSt : Tryd.prog.cellsOf 9 = 1 := by kernel_rfl
theorem Tryd.starES : "*" ++ "errors.errorString" = "*errors.errorString" := by decide
theorem Tryd.rowES (u : TypeId) (h : Tryd.prog.typeName? 3 u = some "*errors.errorString") : u = 116 :=
  typeName_ptr_named (nm := "errors.errorString") (by rw [Tryd.starES]; kernel_rfl) (by kernel_rfl) (by decide) u (by rw [Tryd.starES]; exact h)
theorem err_head {W : World} {n : String} {text : List UInt8} {r : List (String × DataW Unit)} {g : Nat} (hg : Tryd.prog.globalNamed n = some g) (ht : (Tryd.prog.globals[g]?).map (·.type) = some 55)
    (h : laidMet Tryd.prog ((n, .iface "*errors.errorString" (.ptr (.agg [.lit (.string text)]))) :: r) W) : ErrAt W g := by
  obtain ⟨a, s, hv, -⟩ := laid_sentinel h hg ht Tryd.underlying55 Tryd.rowES Tryd.underlying116 Tryd.underlying118 rfl rfl Tryd.underlying9 Tryd.cellsES Tryd.cellsSt
  have h0 := World.var?_cell hg hv 0
  exact ⟨116, .pointer (some a), by simpa using h0⟩
theorem tabE_seven {W : World} {a b c : String × DataW Unit} {rest : List (String × DataW Unit)} (h : laidMet Tryd.prog (a :: b :: ("internal/strconv.uint64pow10", Rows.laid_internal_strconv_uint64pow10) :: c :: ("strconv.ErrRange", Rows.laid_strconv_ErrRange) :: ("strconv.ErrSyntax", Rows.laid_strconv_ErrSyntax) :: rest) W) : TabE W :=
  ⟨tab_third h, err_head (by kernel_rfl) (by kernel_rfl) h.tail.tail.tail.tail.tail, err_head (by kernel_rfl) (by kernel_rfl) h.tail.tail.tail.tail⟩

/- 6 -/
theorem tab_fnExactReadHolding {W : World} (h : laidMetH Tryd.prog Rows.fnExactReadHoldingRow.laid W) : TabE W := by
  rw [MakeChecks.laidMetH_plain _ _ _ (by kernel_rfl)] at h
  exact tabE_seven h
end Go.Proofs.YtifffiekibdgnaaDoor
