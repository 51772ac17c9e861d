/- Disks: the model's Written and NewDisk. -/
import Derived.Test.YtnnmcjgmnjokiaaDoorSDisk2
import Derived.Deep.OwnRows
namespace Go.Proofs.YtnnmcjgmnjokiaaDoor
open Go.ChangeShapes Go.WideShapes Go.ChangeAt Go.RowKit

theorem ownZeros (w : World) (base k : Nat) (h8 : k ≤ 8) (hb : base ≤ w.heap.size) : Own (w.alloc (.cells (madeCells #[Value.int .i64 0] k) 2)) base (.slice (some ⟨w.heap.size, 0, none⟩) k k) (List.replicate k 0) := by
  have hsz : (madeCells #[Value.int .i64 0] k).size = k := by
    have := congrArg List.length (zeros_eq k)
    simpa using this
  have := World.ownsRow_lit (base := base) (e := 2) (size := 1) w (madeCells #[Value.int .i64 0] k) k hb (by unfold maxLen; omega) (by rw [hsz]; omega)
  unfold Own
  rw [← zeros_eq, List.length_replicate]
  exact this

theorem twoZeros (w : World) (o : Obj) (k : Nat) (h8 : k ≤ 8) :
    Own ((((w.alloc o).alloc (.cells (madeCells #[.int .i64 0] k) 2)).alloc (.cells (madeCells #[.int .i64 0] k) 2)).drew) w.heap.size (.slice (some ⟨w.heap.size + 1, 0, none⟩) k k) (List.replicate k 0) ∧
    Own ((((w.alloc o).alloc (.cells (madeCells #[.int .i64 0] k) 2)).alloc (.cells (madeCells #[.int .i64 0] k) 2)).drew) w.heap.size (.slice (some ⟨w.heap.size + 1 + 1, 0, none⟩) k k) (List.replicate k 0) ∧
    Below w.heap.size w ((((w.alloc o).alloc (.cells (madeCells #[.int .i64 0] k) 2)).alloc (.cells (madeCells #[.int .i64 0] k) 2)).drew) := by
  refine ⟨?_, ?_, below_drewN ((((Below.refl _ _).alloc (Nat.le_refl _) _).alloc (by simp) _).alloc (by simp; omega) _) 1⟩
  · have := (ownZeros (w.alloc o) w.heap.size k h8 (by simp)).below (belowAlloc _ (.cells (madeCells #[.int .i64 0] k) 2))
    show Own (((w.alloc o).alloc _).alloc _) _ _ _
    simpa using this
  · have := (ownZeros ((w.alloc o).alloc (.cells (madeCells #[.int .i64 0] k) 2)) w.heap.size k h8 (by simp; omega))
    show Own (((w.alloc o).alloc _).alloc _) _ _ _
    simpa using this
end Go.Proofs.YtnnmcjgmnjokiaaDoor
