/- The state of a law over holdings: variables that hold one each, whose keys can be read; what was there is as it was. -/
import Derived.Test.YtifffiekibdgnaaGreatDoorLHold
namespace Go.Proofs.YtifffiekibdgnaaGreatDoor
open Go.ChangeShapes Go.WideShapes Go.ChangeAt Go.RowKit

def FL (w wx : World) (L : List (Nat × Value × Hd)) : Prop := Below w.heap.size w wx ∧ ∀ t, t ∈ L → StB wx t.1 26 (hdA t.2.1 t.2.2) ∧ Reads wx t.2.1 t.2.2.ks
theorem FL.start (w : World) : FL w w [] := ⟨Below.refl _ _, fun _ h => by cases h⟩
theorem FL.next {w wx wy : World} {L : List (Nat × Value × Hd)} (d : FL w wx L) (b : Below wx.heap.size wx wy) : FL w wy L :=
  ⟨d.1.trans (b.mono d.1.size), fun t ht => ⟨(d.2 t ht).1.below b, (d.2 t ht).2.below b (Nat.le_refl _)⟩⟩
theorem FL.drewN {w wx : World} {L : List (Nat × Value × Hd)} (d : FL w wx L) (n : Nat) : FL w (wx.drewN n) L := d.next (below_drewN (Below.refl _ _) n)
theorem FL.new {w a wy : World} {L : List (Nat × Value × Hd)} {u : Value} {h : Hd} {o : Obj} (d : FL w a L) (r : Reads a u h.ks) (s : StB wy a.heap.size 26 (hdA u h)) (g : (a.alloc o).grownBy wy (some a.heap.size)) : FL w wy ((a.heap.size, u, h) :: L) := by
  have b : Below a.heap.size a wy := (Below.refl _ _).alloc (Nat.le_refl _) _ |>.grown g (by simp) (fun k e => by cases e; exact Nat.le_refl _)
  have n := d.next b
  refine ⟨n.1, fun t ht => ?_⟩
  rcases List.mem_cons.1 ht with rfl | ht
  · exact ⟨s, r.below b (Nat.le_refl _)⟩
  · exact n.2 t ht
theorem FL.st {w wx : World} {L : List (Nat × Value × Hd)} {t : Nat × Value × Hd} (d : FL w wx L) (n : Nat) (e : L[n]? = some t) : StB wx t.1 26 (hdA t.2.1 t.2.2) := (d.2 t (List.mem_of_getElem? e)).1
theorem FL.rd {w wx : World} {L : List (Nat × Value × Hd)} {g : Nat} {u : Value} {h : Hd} (d : FL w wx L) (n : Nat) (e : L[n]? = some (g, u, h)) : Reads wx u h.ks := (d.2 _ (List.mem_of_getElem? e)).2
theorem FL.cell {w wx : World} {L : List (Nat × Value × Hd)} {g : Nat} {u : Value} {h : Hd} (d : FL w wx L) (n : Nat) (e : L[n]? = some (g, u, h)) (j : Nat) {x : Value} (e2 : (hdA u h)[j]? = some x) : wx.cell? ⟨g, j, none⟩ = some x := (d.st n e).cell j e2
theorem FL.sub {w wx : World} {L M : List (Nat × Value × Hd)} (d : FL w wx L) (s : List.Sublist M L) : FL w wx M := ⟨d.1, fun t ht => d.2 t (s.subset ht)⟩
def zHd : Array Value := #[.slice none 0 0, .int .i64 0, .int .i64 0, .int .i64 0]
/- Four noughts as a literal. -/
theorem lit4_reads (w : World) : Reads (w.alloc (.cells #[.int .i64 0, .int .i64 0, .int .i64 0, .int .i64 0] 2)) (.slice (some ⟨w.heap.size, 0, none⟩) 4 4) [0, 0, 0, 0] := by
  have := World.ownsRow_lit (base := w.heap.size) (e := 2) (size := 1) w #[.int .i64 0, .int .i64 0, .int .i64 0, .int .i64 0] 4 (Nat.le_refl _) (by unfold maxLen; omega) rfl
  exact Own.reads (base := w.heap.size) this
/- A slice whose list has four numbers. -/
theorem reads_four {w : World} {v : Value} {xs : List Int} (h : Reads w v xs) (hl : xs.length = 4) : ∃ b off cap, v = .slice (some ⟨b, off, none⟩) 4 cap ∧ 4 ≤ cap ∧ cap ≤ maxLen ∧ ∀ j, j < 4 → w.cell? ⟨b, off + j, none⟩ = some (.int .i64 (xs.getD j 0)) := by
  obtain ⟨ao, cap, rfl⟩ := reads_form h
  obtain ⟨-, h1, h2, hc⟩ := reads_cells h
  obtain ⟨b, off, rfl, -⟩ := hc 0 (by omega)
  rw [hl] at h1 hc ⊢
  refine ⟨b, off, cap, rfl, h1, h2, fun j hj => ?_⟩
  obtain ⟨b', off', e, hx⟩ := hc j hj
  simp only [Option.some.injEq, Addr.mk.injEq] at e
  obtain ⟨rfl, rfl, -⟩ := e
  exact hx
theorem reads_key {w : World} {b off cap : Nat} {xs : List Int} (h : Reads w (.slice (some ⟨b, off, none⟩) 4 cap) xs) (j : Nat) (hj : j < 4) : w.cell? ⟨b, off + j, none⟩ = some (.int .i64 (xs.getD j 0)) := by
  obtain ⟨-, -, -, hc⟩ := reads_cells h
  obtain ⟨b', off', e, hx⟩ := hc j hj
  simp only [Option.some.injEq, Addr.mk.injEq] at e
  obtain ⟨rfl, rfl, -⟩ := e
  exact hx
end Go.Proofs.YtifffiekibdgnaaGreatDoor
