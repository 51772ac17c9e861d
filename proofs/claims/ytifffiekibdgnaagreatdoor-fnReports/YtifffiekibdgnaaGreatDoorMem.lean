/- Lists of int64 in memory: 'Reads' (whoever's it is), 'Own' (new memory of the call), how they stay behind other calls, and what eqInt64S, markInt64S, heldInt64S answer. -/
import Derived.Test.YtifffiekibdgnaaGreatDoorRows
import Derived.Test.YtifffiekibdgnaaGreatDoorSets
import Derived.WalkKit
import Derived.ProofKit
import Derived.OpenShut
import Derived.Laws.OwnMore
import Derived.Deep.AppendLies
import Derived.Deep.QuietTactic
import Derived.BigQuiet
import Derived.WalkSmall
namespace Go.Proofs.YtifffiekibdgnaaGreatDoor
open Go.ChangeShapes Go.WideShapes Go.ChangeAt Go.RowKit

def Reads (w : World) (v : Value) (xs : List Int) : Prop :=
  ∃ ao cap, v = .slice ao xs.length cap ∧ xs.length ≤ cap ∧ (cap ≤ maxLen ∧ (ao = none → cap = 0)) ∧
    (xs = [] ∨ ∃ b off, ao = some ⟨b, off, none⟩ ∧ ∀ j, j < xs.length → w.cell? ⟨b, off + j, none⟩ = some (.int .i64 (xs.getD j 0)))

def Own (w : World) (base : Nat) (v : Value) (xs : List Int) : Prop :=
  w.ownsRow base 2 1 v xs.length (xs.map (Value.int .i64))

theorem Own.nil (w : World) (base : Nat) : Own w base (.slice none 0 0) [] := World.ownsRow_nil w base _ _

theorem Own.reads {w : World} {base : Nat} {v : Value} {xs : List Int} (h : Own w base v xs) : Reads w v xs := by
  rcases h.2 with ⟨rfl, h0⟩ | ⟨g, cap, cur, rfl, hb, hg, hnc, hcm, hcs, ht⟩
  · have e : xs = [] := List.eq_nil_of_length_eq_zero h0
    subst e
    exact ⟨none, 0, rfl, Nat.le_refl _, ⟨Nat.zero_le _, fun _ => rfl⟩, .inl rfl⟩
  · refine ⟨_, cap, rfl, hnc, ⟨hcm, fun e => by cases e⟩, .inr ⟨g, 0, rfl, fun j hj => ?_⟩⟩
    have := World.ownsRow.cellAt (w := w) h j (by omega)
    rw [Nat.zero_add, this]
    simp [List.getD, hj]

theorem Own.le {w : World} {base : Nat} {v : Value} {xs : List Int} (h : Own w base v xs) : xs.length ≤ maxLen := by
  obtain ⟨_, cap, _, h1, h2, _⟩ := h.reads
  omega

theorem Own.mono {w : World} {base base' : Nat} {v : Value} {xs : List Int} (h : Own w base v xs) (hb : base' ≤ base) : Own w base' v xs := by
  refine ⟨h.1, ?_⟩
  rcases h.2 with h' | ⟨g, cap, cur, e, hg, r⟩
  · exact .inl h'
  · exact .inr ⟨g, cap, cur, e, Nat.le_trans hb hg, r⟩

theorem Own.lt {w : World} {base : Nat} {v : Value} {xs : List Int} (h : Own w base v xs) : ∀ k, v.ownBlock = some k → base ≤ k ∧ k < w.heap.size := World.ownsRow.lt h

/- Behind whatever leaves the old blocks alone the row is as it was. -/
theorem Own.below {w w' : World} {base : Nat} {v : Value} {xs : List Int} (h : Own w base v xs) (hb : Below w.heap.size w w') : Own w' base v xs := by
  refine ⟨h.1, ?_⟩
  rcases h.2 with h' | ⟨g, cap, cur, e, hg, hh, r⟩
  · exact .inl h'
  · have hlt : g < w.heap.size := by
      rcases Nat.lt_or_ge g w.heap.size with hlt | hge
      · exact hlt
      · rw [Array.getElem?_eq_none hge] at hh; cases hh
    exact .inr ⟨g, cap, cur, e, hg, (hb.block g hlt).trans hh, r⟩

theorem Own.drewN {w : World} {base : Nat} {v : Value} {xs : List Int} (h : Own w base v xs) (n : Nat) : Own (w.drewN n) base v xs := h

theorem Own.drew_eq {w w' : World} {base : Nat} {v : Value} {xs : List Int} {n : Nat} (h : Own w base v xs) (e : w' = w.drewN n) : Own w' base v xs := by subst e; exact h
theorem below_drew_eq {B : Nat} {a w w' : World} {n : Nat} (h : Below B a w) (e : w' = w.drewN n) : Below B a w' := by subst e; exact below_drewN h n

theorem Own.apart {w1 w2 : World} {b1 b2 : Nat} {v0 v1 : Value} {xs ys : List Int} (h : Own w1 b1 v0 xs) (k : Own w2 b2 v1 ys) (hb : w1.heap.size ≤ b2) : v0.ownBlock = none ∨ v0.ownBlock ≠ v1.ownBlock := by
  by_cases e : v0.ownBlock = none
  · exact .inl e
  · refine .inr fun e2 => ?_
    obtain ⟨g, hg⟩ := Option.ne_none_iff_exists'.1 e
    have a := h.lt g hg
    have b := k.lt g (e2 ▸ hg)
    omega

theorem Own.apart' {w1 w2 : World} {b1 b2 : Nat} {v0 v1 : Value} {xs ys : List Int} (h : Own w1 b1 v0 xs) (k : Own w2 b2 v1 ys) (hb : w1.heap.size ≤ b2) : v1.ownBlock = none ∨ v1.ownBlock ≠ v0.ownBlock := by
  by_cases e : v1.ownBlock = none
  · exact .inl e
  · refine .inr fun e2 => ?_
    obtain ⟨g, hg⟩ := Option.ne_none_iff_exists'.1 e
    have a := k.lt g hg
    have b := h.lt g (e2 ▸ hg)
    omega

theorem Own.kept {w w' : World} {base : Nat} {v : Value} {row : Option Nat} {xs : List Int} (h : Own w base v xs) (hg : w.grownBy w' row) (hne : v.ownBlock = none ∨ v.ownBlock ≠ row) : Own w' base v xs :=
  World.ownsRow.kept h hg hne

theorem Reads.below {w w' : World} {B : Nat} {v : Value} {xs : List Int} (h : Reads w v xs) (hb : Below B w w') (hB : w.heap.size ≤ B) : Reads w' v xs := by
  obtain ⟨ao, cap, rfl, h1, h2, h3⟩ := h
  refine ⟨ao, cap, rfl, h1, h2, ?_⟩
  rcases h3 with h3 | ⟨b, off, rfl, h4⟩
  · exact .inl h3
  · refine .inr ⟨b, off, rfl, fun j hj => ?_⟩
    have h5 := h4 j hj
    have h6 := World.block_lt_of_cell? w _ h5
    rw [hb.cell (p := ⟨b, off + j, none⟩) (Nat.lt_of_lt_of_le h6 hB)]
    exact h5

def marks (k : Int) (n : Nat) : List Int := (List.range n).map fun j => k + (j : Nat)
theorem marks_length (k : Int) (n : Nat) : (marks k n).length = n := by simp [marks]
theorem marks_getD (k : Int) (n j : Nat) (h : j < n) : (marks k n).getD j 0 = k + j := by
  simp [marks, List.getD, h]
theorem marks_step (k : Int) (xs : List Int) (j : Nat) (h : j < xs.length) : ((marks k j ++ xs.drop j).set j (k + j)) = marks k (j + 1) ++ xs.drop (j + 1) := by
  rw [List.set_append_right _ _ (by simp [marks_length]), marks_length, Nat.sub_self]
  rw [List.drop_eq_getElem_cons h, List.set_cons_zero]
  simp [marks, List.range_succ]
theorem marks_all (k : Int) (xs : List Int) : marks k xs.length ++ xs.drop xs.length = marks k xs.length := by simp

theorem take_snoc (xs : List Int) (j : Nat) (h : j < xs.length) : xs.take (j + 1) = xs.take j ++ [xs.getD j 0] := by
  rw [List.take_succ_eq_append_getElem h]; simp [List.getD, h]
theorem take_step {xs ys : List Int} {j : Nat} (h : xs.take j = ys.take j) (hx : j < xs.length) (hy : j < ys.length) (e : xs.getD j 0 = ys.getD j 0) : xs.take (j + 1) = ys.take (j + 1) := by
  rw [take_snoc xs j hx, take_snoc ys j hy, h, e]
theorem ne_of_getD {xs ys : List Int} {j : Nat} (e : xs.getD j 0 ≠ ys.getD j 0) : xs ≠ ys := fun h => e (by rw [h])

theorem Tryz.infoI : (Tryz.prog.info? 2).map (fun i => (i.zero, i.size, i.bytes)) = some (some (.int .i64 0), 1, 8) := by kernel_rfl
end Go.Proofs.YtifffiekibdgnaaGreatDoor
