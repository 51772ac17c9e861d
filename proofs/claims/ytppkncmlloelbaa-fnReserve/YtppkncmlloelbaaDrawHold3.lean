/- What the law on holdings draws: l8DrawWho, DrawMay. -/
import Derived.Test.YtppkncmlloelbaaDrawHold2
namespace Go.Proofs.Ytppkncmlloelbaa
open Go.ChangeShapes Go.WideShapes Go.ChangeAt Go.RowKit

set_option maxRecDepth 20000 in
set_option maxHeartbeats 1000000 in
theorem l8who_any (B c : Nat) (w : World) (hcur : Cur w B c) :
    Calls Try.prog 43 #[.pointer (some ⟨c, 0, none⟩)] w fun e w' => ∃ x : Int, e = .returned (.int .i64 x) ∧ Cur w' B c ∧ w.grownBy w' (some c) := by
  have hcw := hcur.lt.2
  have HC0 : Hid (Cur w B c) := hcur
  clear hcur
  go_enter Try.func43, Try.ntmps43
  go_wp2_with fail
  refine (once_any B c 14 _ HC0.out (by omega)).mono ?_
  rintro e w1 ⟨b, rfl, C1, G1⟩
  have HC1 : Hid (Cur w1 B c ∧ w.grownBy w1 (some c)) := ⟨C1, G1⟩
  have hc1 := C1.lt.2
  clear HC0 C1 G1
  cases b with
  | false =>
    go_wp2_with fail
    refine (below_any B c 4 _ HC1.out.1 (by omega)).mono ?_
    rintro e w2 ⟨x, rfl, lx, ux, -, C2, G2⟩
    go_wp2_with fail
    go_ret
    exact ⟨x, rfl, C2, HC1.out.2.trans G2⟩
  | true =>
    have L1 : Hid (Cur (w1.alloc (.cells #[.int .i64 (-1), .int .i64 4, .int .i64 4611686018427387904] 2)) B c ∧ w.grownBy (w1.alloc (.cells #[.int .i64 (-1), .int .i64 4, .int .i64 4611686018427387904] 2)) (some c)) :=
      ⟨HC1.out.1.kept (World.grownBy_alloc w1 _ none) (by simp) (by simp), HC1.out.2.trans (World.grownBy_alloc w1 _ _)⟩
    clear HC1
    go_wp2_with fail
    refine (below_any B c 3 _ L1.out.1 (by omega)).mono ?_
    rintro e w2 ⟨i, rfl, li, ui, -, C2, G2⟩
    have vi := ui (by omega)
    obtain ⟨x, hx⟩ := lit_at (w := w1) [-1, 4, 4611686018427387904] (t := 2) G2 (by simp; omega) i (by omega) (by simp; omega)
    have HC2 : Hid (Cur w2 B c ∧ w.grownBy w2 (some c)) := ⟨C2, L1.out.2.trans G2⟩
    clear ui C2 G2 L1
    go_wp2_with fail
    go_ret
    exact ⟨x, rfl, HC2.out⟩

theorem Drawn.kept {w w' w2 : World} {u : Value} {h : Hd} {row : Option Nat} (d : Drawn w w' u h) (G : w'.grownBy w2 row) (hr : ∀ k, row = some k → k < w.heap.size ∨ w'.heap.size ≤ k) : Drawn w w2 u h := by
  obtain ⟨⟨ao, cap', e, h1, h2, h3⟩, ⟨q, off, cap, e2, hq1, hq2⟩, hl⟩ := d
  subst e
  simp only [Value.slice.injEq] at e2
  obtain ⟨rfl, -, rfl⟩ := e2
  refine ⟨⟨_, _, rfl, h1, h2, ?_⟩, ⟨q, off, cap', rfl, hq1, Nat.lt_of_lt_of_le hq2 G.size⟩, hl⟩
  rcases h3 with h3 | ⟨b, o2, e3, h3⟩
  · exact .inl h3
  · refine .inr ⟨b, o2, e3, fun j hj => ?_⟩
    simp only [Option.some.injEq, Addr.mk.injEq] at e3
    obtain ⟨rfl, rfl, -⟩ := e3
    exact G.cell (h3 j hj) (fun e => by rcases hr q e.symm with h | h <;> omega)
theorem Drawn.mono {w0 w w' : World} {u : Value} {h : Hd} (d : Drawn w w' u h) (hb : w0.heap.size ≤ w.heap.size) : Drawn w0 w' u h := by
  obtain ⟨h1, ⟨q, off, cap, e2, hq1, hq2⟩, hl⟩ := d
  exact ⟨h1, ⟨q, off, cap, e2, Nat.le_trans hb hq1, hq2⟩, hl⟩

/- The answer's block g holds the zero holding, block k the one that was drawn. -/
def DM (w w1 wx : World) (B c g k : Nat) (u : Value) (h : Hd) : Prop :=
  Cur wx B c ∧ Below w.heap.size w wx ∧ StB wx g 26 zeroH ∧ StB wx k 26 (hdA u h) ∧ Drawn w1 wx u h ∧ (w.heap.size ≤ g ∧ g < w1.heap.size ∧ w.heap.size ≤ c ∧ c < w1.heap.size ∧ g ≠ c ∧ w1.heap.size ≤ k ∧ g ≠ k ∧ w.heap.size ≤ w1.heap.size)
theorem DM.draw {w w1 wx wy : World} {B c g k : Nat} {u : Value} {h : Hd} (d : DM w w1 wx B c g k u h) (C : Cur wy B c) (G : wx.grownBy wy (some c)) : DM w w1 wy B c g k u h := by
  obtain ⟨h1, h2, h3, h4, h5, h6⟩ := d
  refine ⟨C, h2.grown G h2.size (fun x e => by cases e; omega), h3.kept G ?_, h4.kept G ?_, h5.kept G (fun x e => by cases e; omega), h6⟩
  · intro e; have := Option.some.inj e; omega
  · intro e; have := Option.some.inj e; omega
theorem DM.drew {w w1 wx : World} {B c g k : Nat} {u : Value} {h : Hd} (d : DM w w1 wx B c g k u h) : DM w w1 wx.drew B c g k u h := by
  obtain ⟨h1, h2, h3, h4, h5, h6⟩ := d
  exact ⟨h1, h2.drew, h3, h4, h5, h6⟩
theorem DM.fin {w w1 wx wy : World} {B c g k : Nat} {u : Value} {h : Hd} (d : DM w w1 wx B c g k u h) (G : wx.grownBy wy (some g)) : Drawn w wy u h ∧ Below w.heap.size w wy := by
  obtain ⟨h1, h2, h3, h4, h5, h6⟩ := d
  exact ⟨(h5.kept G (fun x e => by cases e; omega)).mono h6.2.2.2.2.2.2.2, h2.grown G h2.size (fun x e => by cases e; omega)⟩
end Go.Proofs.Ytppkncmlloelbaa
