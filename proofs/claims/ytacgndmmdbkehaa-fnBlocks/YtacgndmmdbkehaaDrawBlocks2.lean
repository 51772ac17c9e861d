/- DrawPut, DrawDiffer, DrawChosen, DrawNewBlocks. -/
import Derived.Test.YtacgndmmdbkehaaDrawBlocks
import Derived.Deep.RegionWith
import Derived.Deep.DrawnRows
namespace Go.Proofs.Ytacgndmmdbkehaa
open Go.ChangeShapes Go.WideShapes Go.ChangeAt Go.RowKit

/- What a draw of a list leaves: a list of its own, and nothing below w has turned. -/
theorem Drawn.own {w w1 w2 : World} {B c : Nat} {v : Value} {xs : List Int} (h : Drawn w1 w2 B c v xs) (g : w.grownBy w1 none) (hc : w.heap.size ≤ c) : Own w2 w.heap.size v xs ∧ Below w.heap.size w w2 :=
  ⟨h.1.mono g.size, below_of_cur g hc h.2.2.1⟩

set_option maxHeartbeats 1000000 in
theorem drawNew8_any (B : Nat) (v : Value) (w : World) (h : CodeOk w B v) (hB : B ≤ w.heap.size) :
    Calls Try.prog 16 #[v] w fun e w' => ∃ n, e = .returned (.int .i64 n) ∧ Below w.heap.size w w' := by
  go_enter Try.func16, Try.ntmps16
  go_wp2_with fail
  refine (new_code B v _ h hB).mono ?_
  rintro e w1 ⟨c, rfl, hc, C1, G1⟩
  go_wp2_with fail
  refine (from_any B c _ _ _ C1 (by omega) (by omega) (by omega)).mono ?_
  rintro e w2 ⟨x, rfl, _, _, C2, G2⟩
  have hb := below_of_cur G1 hc G2
  clear C1 C2 G1 G2 h
  go_wp2
  go_ret
  exact ⟨_, rfl, hb⟩

set_option maxHeartbeats 1000000 in
theorem drawDiffer_any (B : Nat) (v : Value) (w : World) (h : CodeOk w B v) (hB : B ≤ w.heap.size) :
    Calls Try.prog 12 #[v] w fun e w' => ∃ u u', e = .returned (.tuple #[u, u']) ∧ ∃ xs ys : List Int, xs.length ≤ 65 ∧ ys.length ≤ 65 ∧ Own w' w.heap.size u xs ∧ Own w' w.heap.size u' ys ∧ Below w.heap.size w w' := by
  go_enter Try.func12, Try.ntmps12
  go_wp2_with fail
  refine (new_code B v _ h hB).mono ?_
  rintro e w1 ⟨c, rfl, hc, C1, G1⟩
  go_wp2_with fail
  refine (below_any B c 8 _ C1 (by omega)).mono ?_
  rintro e w2 ⟨n, rfl, hn0, hn1, hn2, C2, G2⟩
  have hn3 := hn1 (by omega)
  clear hn1 hn2
  go_wp2_with fail
  refine (drawAny_any B c _ _ C2 (by omega)).mono ?_
  rintro e w3 ⟨u, rfl, xs, hx, D3⟩
  go_wp2_with fail
  refine (drawAny_any B c _ _ D3.2.1 (by omega)).mono ?_
  rintro e w4 ⟨u', rfl, ys, hy, D4⟩
  have o3 := D3.1.kept D4.2.2.1 (D3.1.notAt D3.2.2.2)
  have s2 : w.heap.size ≤ w2.heap.size := Nat.le_trans G1.size G2.size
  have HF : Hid (Own w4 w.heap.size u xs ∧ Own w4 w.heap.size u' ys ∧ Below w.heap.size w w4) :=
    ⟨o3.mono s2, D4.1.mono (Nat.le_trans s2 D3.2.2.1.size), below_of_cur G1 hc (G2.trans (D3.2.2.1.trans D4.2.2.1))⟩
  clear o3 D3 D4 G1 G2 C1 C2 h s2
  go_wp2
  go_ret2
  exact ⟨_, _, rfl, xs, ys, hx, hy, HF.out⟩

set_option maxHeartbeats 1000000 in
theorem drawChosen_any (B : Nat) (v : Value) (w : World) (h : CodeOk w B v) (hB : B ≤ w.heap.size) :
    Calls Try.prog 14 #[v] w fun e w' => ∃ u u' s, e = .returned (.tuple #[u, u', .int .i64 s]) ∧ ∃ xs ys : List Int, xs.length ≤ 65 ∧ ys.length ≤ 65 ∧ Own w' w.heap.size u xs ∧ Own w' w.heap.size u' ys ∧ Below w.heap.size w w' := by
  go_enter Try.func14, Try.ntmps14
  go_wp2_with fail
  refine (new_code B v _ h hB).mono ?_
  rintro e w1 ⟨c, rfl, hc, C1, G1⟩
  go_wp2_with fail
  refine (below_any B c 8 _ C1 (by omega)).mono ?_
  rintro e w2 ⟨n, rfl, hn0, hn1, hn2, C2, G2⟩
  have hn3 := hn1 (by omega)
  clear hn1 hn2
  go_wp2_with fail
  refine (drawAny_any B c _ _ C2 (by omega)).mono ?_
  rintro e w3 ⟨u, rfl, xs, hx, D3⟩
  go_wp2_with fail
  refine (drawAny_any B c _ _ D3.2.1 (by omega)).mono ?_
  rintro e w4 ⟨u', rfl, ys, hy, D4⟩
  have o3 := D3.1.kept D4.2.2.1 (D3.1.notAt D3.2.2.2)
  have s2 : w.heap.size ≤ w2.heap.size := Nat.le_trans G1.size G2.size
  go_wp2_with fail
  refine (drawSet_any B c _ D4.2.1).mono ?_
  rintro e w5 ⟨s, rfl, C5, G5⟩
  have o5 := o3.kept G5 (D3.1.notAt D3.2.2.2)
  have D5 := D4.draw C5 G5
  have HF : Hid (Own w5 w.heap.size u xs ∧ Own w5 w.heap.size u' ys ∧ Below w.heap.size w w5) :=
    ⟨o5.mono s2, D5.1.mono (Nat.le_trans s2 D3.2.2.1.size), below_of_cur G1 hc (G2.trans (D3.2.2.1.trans D5.2.2.1))⟩
  clear o3 o5 D3 D4 D5 G1 G2 C1 C2 h s2 G5 C5
  go_wp2
  go_ret3
  exact ⟨_, _, _, rfl, xs, ys, hx, hy, HF.out⟩

theorem drew_grown {w w' : World} {row : Option Nat} (h : w.drew.grownBy w' row) : w.grownBy w' row := ⟨h.os, h.tape, h.output, h.size, h.block⟩
theorem lit5 (x : Int) (h0 : 0 ≤ x) (h1 : x < 5) : ∃ y, (#[.int .i64 0, .int .i64 7, .int .i64 9999, .int .i64 10000, .int .i64 (-1)] : Array Value)[x.toNat]? = some (.int .i64 y) := by
  obtain rfl | rfl | rfl | rfl | rfl : x = 0 ∨ x = 1 ∨ x = 2 ∨ x = 3 ∨ x = 4 := by omega
  all_goals exact ⟨_, rfl⟩

set_option maxHeartbeats 2000000 in
theorem drawPut_any (B : Nat) (v : Value) (w : World) (h : CodeOk w B v) (hB : B ≤ w.heap.size) :
    Calls Try.prog 10 #[v] w fun e w' => ∃ u i x, e = .returned (.tuple #[u, .int .i64 i, .int .i64 x]) ∧ ∃ xs : List Int, xs.length ≤ 65 ∧ Own w' w.heap.size u xs ∧ Below w.heap.size w w' := by
  go_enter Try.func10, Try.ntmps10
  go_wp2_with fail
  refine (new_code B v _ h hB).mono ?_
  rintro e w1 ⟨c, rfl, hc, C1, G1⟩
  go_wp2_with fail
  refine (below_any B c 8 _ C1 (by omega)).mono ?_
  rintro e w2 ⟨n, rfl, hn0, hn1, hn2, C2, G2⟩
  have hn3 := hn1 (by omega)
  clear hn1 hn2
  go_wp2_with fail
  refine (drawAny_any B c _ _ C2 (by omega)).mono ?_
  rintro e w3 ⟨u, rfl, xs, hx, D3⟩
  go_wp2_with fail
  refine (drawItem_any B c _ D3.2.1).mono ?_
  rintro e w4 ⟨i, rfl, C4, G4⟩
  replace D3 := D3.draw C4 G4
  have s2 : w.heap.size ≤ w2.heap.size := Nat.le_trans G1.size G2.size
  have HE : Hid (∀ w', Drawn w2 w' B c u xs → Own w' w.heap.size u xs ∧ Below w.heap.size w w') := fun w' h => ⟨h.1.mono s2, below_of_cur G1 hc (G2.trans h.2.2.1)⟩
  have hcl : c < w4.heap.size := C4.lt.2
  clear C4 G4 G1 G2 C1 C2 h s2
  go_wp2_with fail
  go_region_with (go_at_call 33; refine (below_any B c 5 _ (by first | exact D3.2.1 | exact (D3.keep (World.grownBy_alloc w4 _ none)).2.1) (by omega)).mono ?_; rintro e w5 ⟨x, rfl, hx0, hx1, hx2, C5, G5⟩; have hx3 := hx1 (by omega); clear hx1 hx2; obtain ⟨y, hy⟩ := lit5 x hx0 hx3; first | (have hcell : w5.cell? ⟨w4.heap.size, x.toNat, none⟩ = some (.int .i64 y) := (lit_kept (drew_grown G5) (by simp; omega) x.toNat).trans hy) | (have hyl : ([.int .i64 0, .int .i64 7, .int .i64 9999, .int .i64 10000, .int .i64 (-1)] : List Value)[x.toNat]? = some (.int .i64 y) := (by simpa using hy); obtain ⟨hlt5, hel⟩ := List.getElem_of_getElem? hyl); clear hy)
  · have HF := HE.out w5 ((D3.keep (World.grownBy_alloc w4 _ none)).draw C5 (drew_grown G5))
    clear D3 C5 G5
    go_wp2
    go_ret3
    exact ⟨_, _, _, rfl, xs, hx, HF⟩
  · have HF := fun o => HE.out _ ((D3.draw C5 (drew_grown G5)).keep (World.grownBy_alloc w5 o none))
    clear D3 C5 G5
    go_wp2
    go_ret3
    exact ⟨_, _, _, rfl, xs, hx, HF _⟩
end Go.Proofs.Ytacgndmmdbkehaa
