/- A list of numbers that a call writes out, looked at by a number that was drawn. -/
import Derived.Test.YtdcdfhklnhaimaaDraw
namespace Go.Proofs.Ytdcdfhklnhaimaa
open Go.ChangeShapes Go.WideShapes Go.ChangeAt Go.RowKit

/- A list of numbers that the call writes out: what lies at place i. -/
theorem lit_at {w w' : World} (xs : List Int) {t : TypeId} {row : Option Nat} (hg : (w.alloc (.cells (xs.map (Value.int .i64)).toArray t)).grownBy w' row) (hne : row ≠ some w.heap.size) (i : Int) (h0 : 0 ≤ i) (h1 : i < xs.length) :
    ∃ x : Int, w'.cell? ⟨w.heap.size, i.toNat, none⟩ = some (.int .i64 x) := by
  rw [lit_kept hg hne i.toNat]
  have : i.toNat < xs.length := by omega
  exact ⟨xs[i.toNat], by simp [this]⟩
theorem lit_idx (xs : List Int) (i : Int) (h0 : 0 ≤ i) (h1 : i < xs.length) : ∃ x : Int, ∀ hh : i.toNat < (xs.map (Value.int .i64)).length, (xs.map (Value.int .i64))[i.toNat]'hh = .int .i64 x := by
  have : i.toNat < xs.length := by omega
  exact ⟨xs[i.toNat], fun hh => by simp⟩
end Go.Proofs.Ytdcdfhklnhaimaa
