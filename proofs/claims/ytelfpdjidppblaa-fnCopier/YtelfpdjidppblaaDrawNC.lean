/- Two numbers are drawn, as for a new copier or a new sink. -/
import Derived.Test.YtelfpdjidppblaaM2
import Derived.Deep.RegionWith
namespace Go.Proofs.Ytelfpdjidppblaa
open Go.ChangeShapes Go.WideShapes Go.ChangeAt Go.RowKit

theorem below_lit {w w3 w4 : World} {cc : Nat} {o : Obj} (hb : Below w.heap.size w w3) (hc : w.heap.size ≤ cc) (g : (w3.alloc o).drew.grownBy w4 (some cc)) : Below w.heap.size w w4 :=
  ((hb.alloc hb.size o).grown (show (w3.alloc o).grownBy w4 (some cc) from ⟨g.os, g.tape, g.output, g.size, g.block⟩) (by simp; have := hb.size; omega) (fun k e => by cases e; exact hc))
theorem below_lit2 {w w3 w4 : World} {cc : Nat} (hb : Below w.heap.size w w3) (hc : w.heap.size ≤ cc) (g : w3.drew.grownBy w4 (some cc)) (o : Obj) : Below w.heap.size w (w4.alloc o) :=
  ((hb.grown (show w3.grownBy w4 (some cc) from ⟨g.os, g.tape, g.output, g.size, g.block⟩) hb.size (fun k e => by cases e; exact hc))).alloc (Nat.le_trans hb.size g.size) o
set_option maxRecDepth 20000 in
set_option maxHeartbeats 1000000 in
theorem drawNewCopier_any (B : Nat) (v : Value) (w : World) (h : CodeOk w B v) (hB : B ≤ w.heap.size) :
    Calls Try.prog 17 #[v] w fun e w' => ∃ n t, e = .returned (.tuple #[.int .i64 n, .int .i64 t]) ∧ Below w.heap.size w w' := by
  have c1 := new_code B v w h hB
  clear h
  go_enter Try.func17, Try.ntmps17
  go_wp2_with fail
  refine c1.mono ?_
  rintro e w2 ⟨cc, rfl, hc, C2, G2⟩
  clear c1
  go_wp2_with fail
  refine (from_any B cc (-1) 12 _ C2 (by omega) (by omega) (by omega)).mono ?_
  rintro e w3 ⟨n, rfl, ln, un, C3, G3⟩
  have HB : Hid (Below w.heap.size w w3) := below_of_cur G2 hc G3
  have hcl : cc < w3.heap.size := C3.lt.2
  clear G2 C2 G3
  have C4 : Cur (w3.alloc (.cells #[.int .i64 0, .int .i64 1, .int .i64 5, .int .i64 100000, .int .i64 100001] 2)).drew B cc := Cur.drewN (w := w3.alloc (.cells #[.int .i64 0, .int .i64 1, .int .i64 5, .int .i64 100000, .int .i64 100001] 2)) (C3.kept (World.grownBy_alloc w3 _ none) (by simp) (by simp)) 1
  go_wp2_with fail
  go_region_with (first
    | (go_at_call 60; refine (below_any B cc 5 _ C4 (by omega)).mono ?_; rintro e w4 ⟨i, rfl, li, ui, -, -, G4⟩; have vi := ui (by omega); have H4 : Hid (Below w.heap.size w w4) := below_lit HB.out hc G4; obtain ⟨x, hx⟩ := lit_at (w := w3) [0, 1, 5, 100000, 100001] (t := 2) (row := some cc) ⟨G4.os, G4.tape, G4.output, G4.size, G4.block⟩ (by simp; omega) i (by omega) (by simp; omega); clear ui G4)
    | (go_at_call 60; refine (below_any B cc 5 _ (show Cur w3.drew B cc from C3) (by omega)).mono ?_; rintro e w4 ⟨i, rfl, li, ui, -, -, G4⟩; have vi := ui (by omega); have H4 : Hid (Below w.heap.size w (w4.alloc (.cells #[.int .i64 0, .int .i64 1, .int .i64 5, .int .i64 100000, .int .i64 100001] 2))) := below_lit2 HB.out hc G4 _; obtain ⟨x, hx'⟩ := lit_idx [0, 1, 5, 100000, 100001] i (by omega) (by simp; omega); have hx : ∀ hh : i.toNat < ([.int .i64 0, .int .i64 1, .int .i64 5, .int .i64 100000, .int .i64 100001] : List Value).length, ([.int .i64 0, .int .i64 1, .int .i64 5, .int .i64 100000, .int .i64 100001] : List Value)[i.toNat]'hh = .int .i64 x := hx'; clear hx' ui G4))
  all_goals
    go_wp2
    go_ret2
    exact ⟨n, x, rfl, H4.out⟩
end Go.Proofs.Ytelfpdjidppblaa
