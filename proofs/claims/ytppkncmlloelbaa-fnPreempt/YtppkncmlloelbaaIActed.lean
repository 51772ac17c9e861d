/- The table of actions, and an action out of it, by the program. -/
import Derived.Test.YtppkncmlloelbaaIWishes
import Derived.Test.YtppkncmlloelbaaSAct3
namespace Go.Proofs.Ytppkncmlloelbaa
open Go.ChangeShapes Go.WideShapes Go.ChangeAt Go.RowKit

def fv (n : FuncId) : Value := .func (Fn.func n) #[] #[]
def acA : Array Value := #[fv 84, fv 85, fv 86, fv 87, fv 88, fv 89, fv 90, fv 91, fv 92, fv 90, fv 91, fv 93, fv 94, fv 95, fv 96]
def nilA (n : Nat) : Array Value := Array.replicate n .nilFunc
theorem Try.isAction : IsS 79 3 := ⟨⟨_, Try.underlying79⟩, by kernel_rfl⟩
theorem Try.sizeAcs : (Try.prog.info? 80).map (·.size) = some 15 := by kernel_rfl
theorem Try.underAcs : Try.prog.underlying 80 = some (.array 5 79) := by kernel_rfl

set_option maxRecDepth 20000 in
set_option maxHeartbeats 1000000 in
theorem iactions_any (w : World) :
    Calls Try.prog 72 #[] w fun e w' => e = .returned (.agg acA) ∧ Below w.heap.size w w' := by
  have z0 : StB (w.alloc (.cells (nilA 15) 80)) w.heap.size 80 (nilA 15) := StB.new _ _ _
  have b0 : Below w.heap.size w (w.alloc (.cells (nilA 15) 80)) := (Below.refl _ _).alloc (Nat.le_refl _) _
  have Z0 : Hid _ := z0
  have B0 : Hid _ := b0
  clear z0 b0
  go_enter Try.func72, Try.ntmps72
  go_wp2_with (first | (refine wpList_store_row rfl _ _ _ rfl w.heap.size acA rfl rfl _ _ Z0.out Try.sizeAcs rfl (by simp [acA, fv, Value.oneCell']) ?_))
  have h2 := setRow_heap _ w.heap.size _ acA _ _ Z0.out
  have g2 := grownRowS (w.alloc (.cells (nilA 15) 80)) w.heap.size acA
  refine bodyPost_ret (results_cell_row rfl _ _ w.heap.size _ _ _ _ rfl h2 Try.underAcs rfl Try.sizeAcs) rfl ?_
  exact ⟨rfl, B0.out.grown g2 B0.out.size (fun k e => by cases e; exact Nat.le_refl _)⟩
def rowOf (r : Nat) : Array Value := #[acA.getD (3 * r) undef, acA.getD (3 * r + 1) undef, acA.getD (3 * r + 2) undef]
theorem idxA0 (w : World) : (Instr.index 80 (.agg acA) (.int .i64 0)).run Try.prog w = .ok (.agg (rowOf 0)) w := by kernel_rfl
theorem idxA1 (w : World) : (Instr.index 80 (.agg acA) (.int .i64 1)).run Try.prog w = .ok (.agg (rowOf 1)) w := by kernel_rfl
theorem idxA2 (w : World) : (Instr.index 80 (.agg acA) (.int .i64 2)).run Try.prog w = .ok (.agg (rowOf 2)) w := by kernel_rfl
theorem idxA3 (w : World) : (Instr.index 80 (.agg acA) (.int .i64 3)).run Try.prog w = .ok (.agg (rowOf 3)) w := by kernel_rfl
theorem idxA4 (w : World) : (Instr.index 80 (.agg acA) (.int .i64 4)).run Try.prog w = .ok (.agg (rowOf 4)) w := by kernel_rfl
end Go.Proofs.Ytppkncmlloelbaa
