/- DrawPut, DrawDiffer, DrawChosen, DrawNewBlocks. -/
import Derived.Test.YthjgannjahcmiaaDrawBlocks
import Derived.Deep.RegionWith
import Derived.Deep.DrawnRows
namespace Go.Proofs.Ythjgannjahcmiaa
open Go.ChangeShapes Go.WideShapes Go.ChangeAt Go.RowKit

/- What a draw of a list leaves: a list of its own, and nothing below w has turned. -/
theorem Drawn.own {w w1 w2 : World} {B c : Nat} {v : Value} {xs : List Int} (h : Drawn w1 w2 B c v xs) (g : w.grownBy w1 none) (hc : w.heap.size ≤ c) : Own w2 w.heap.size v xs ∧ Below w.heap.size w w2 :=
  ⟨h.1.mono g.size, below_of_cur g hc h.2.2.1⟩

set_option maxHeartbeats 1000000 in
theorem drawNew8_any (B : Nat) (v : Value) (w : World) (h : CodeOk w B v) (hB : B ≤ w.heap.size) :
    Calls Try.prog 44 #[v] w fun e w' => ∃ n, e = .returned (.int .i64 n) ∧ Below w.heap.size w w' := by
  go_enter Try.func44, Try.ntmps44
  go_wp2_with fail
  refine (new_code B v _ h hB).mono ?_
  rintro e w1 ⟨c, rfl, hc, C1, G1⟩
  go_wp2_with fail
  refine (from_any B c _ _ _ C1 (by omega) (by omega) (by omega)).mono ?_
  rintro e w2 ⟨x, rfl, _, _, C2, G2⟩
  have hb := below_of_cur G1 hc G2
  clear C1 C2 G1 G2 h
  go_wp2
  go_ret
  exact ⟨_, rfl, hb⟩

theorem drew_grown {w w' : World} {row : Option Nat} (h : w.drew.grownBy w' row) : w.grownBy w' row := ⟨h.os, h.tape, h.output, h.size, h.block⟩
theorem lit5 (x : Int) (h0 : 0 ≤ x) (h1 : x < 5) : ∃ y, (#[.int .i64 0, .int .i64 7, .int .i64 9999, .int .i64 10000, .int .i64 (-1)] : Array Value)[x.toNat]? = some (.int .i64 y) := by
  obtain rfl | rfl | rfl | rfl | rfl : x = 0 ∨ x = 1 ∨ x = 2 ∨ x = 3 ∨ x = 4 := by omega
  all_goals exact ⟨_, rfl⟩
end Go.Proofs.Ythjgannjahcmiaa
