/- A table keyed by two truths, in a block: what it holds, and the runs of Go's operations on it. -/
import Derived.Test.YtpdggofaobmnlaaM6
import Derived.MapKept
import Derived.Carry
import Derived.OwnWalk
namespace Go.Proofs.Ytpdggofaobmnlaa
open Go.ChangeShapes Go.WideShapes Go.ChangeAt Go.RowKit

def keyB (x y : Bool) : Value := .agg #[.bool x, .bool y]
def entB (p : Bool × Bool × Nat) : MapEntry := ⟨keyB p.1 p.2.1, .int .i64 1, p.2.2⟩

def findB (x y : Bool) : List (Bool × Bool × Nat) → Nat → Option (Nat × Value)
  | [], _ => none
  | p :: l, i => if (x == p.1 && y == p.2.1) = true then some (i, .int .i64 1) else findB x y l (i + 1)
def delB (x y : Bool) : List (Bool × Bool × Nat) → List (Bool × Bool × Nat)
  | [] => []
  | p :: l => if (x == p.1 && y == p.2.1) = true then l else p :: delB x y l
def hasB (l : List (Bool × Bool × Nat)) (x y : Bool) : Bool := l.any fun p => x == p.1 && y == p.2.1
def ApartB (l : List (Bool × Bool × Nat)) : Prop := l.Pairwise fun p q => (p.1 == q.1 && p.2.1 == q.2.1) = false

theorem findB_nil (x y : Bool) (l : List (Bool × Bool × Nat)) : ∀ i, hasB l x y = false → findB x y l i = none ∧ delB x y l = l := by
  induction l with
  | nil => intro i _; exact ⟨rfl, rfl⟩
  | cons p l ih =>
    intro i h
    simp only [hasB, List.any_cons, Bool.or_eq_false_iff] at h
    obtain ⟨h1, h2⟩ := ih (i + 1) h.2
    simp [findB, delB, h.1, h1, h2]
theorem findB_some (x y : Bool) (l : List (Bool × Bool × Nat)) : ∀ i, hasB l x y = true → ∃ j, findB x y l i = some (i + j, .int .i64 1) ∧ l.eraseIdx j = delB x y l := by
  induction l with
  | nil => intro i h; cases h
  | cons p l ih =>
    intro i h
    by_cases hb : (x == p.1 && y == p.2.1) = true
    · exact ⟨0, by simp [findB, hb], by simp [delB, hb]⟩
    · have h' : hasB l x y = true := by
        simp only [hasB, List.any_cons, Bool.or_eq_true] at h
        rcases h with h | h
        · exact absurd h hb
        · exact h
      obtain ⟨j, h1, h2⟩ := ih (i + 1) h'
      refine ⟨j + 1, ?_, ?_⟩
      · unfold findB
        rw [if_neg hb, h1]
        simp [Nat.add_assoc, Nat.add_comm 1 j]
      · unfold delB
        rw [if_neg hb, ← h2]
        rfl
theorem del_sub (x y : Bool) (l : List (Bool × Bool × Nat)) : (delB x y l).Sublist l := by
  induction l with
  | nil => exact List.Sublist.refl _
  | cons p l ih =>
    unfold delB
    split
    · exact List.sublist_cons_self _ _
    · exact ih.cons_cons _
theorem has_del (x y a b : Bool) (l : List (Bool × Bool × Nat)) (h : ApartB l) : hasB (delB x y l) a b = (hasB l a b && !(a == x && b == y)) := by
  induction l with
  | nil => rfl
  | cons p l ih =>
    have h2 := List.pairwise_cons.1 h
    have ih := ih h2.2
    obtain ⟨p1, p2, n⟩ := p
    unfold delB
    by_cases hb : (x == p1 && y == p2) = true
    · rw [if_pos hb]
      have hno : hasB l p1 p2 = false := by
        unfold hasB
        rw [List.any_eq_false]
        intro q hq
        simpa using h2.1 q hq
      simp only [Bool.and_eq_true, beq_iff_eq] at hb
      obtain ⟨rfl, rfl⟩ := hb
      by_cases ha : (a == x && b == y) = true
      · simp only [Bool.and_eq_true, beq_iff_eq] at ha
        obtain ⟨rfl, rfl⟩ := ha
        rw [hno]; simp
      · have ha' : (a == x && b == y) = false := by simpa using ha
        simp only [hasB, List.any_cons, ha', Bool.false_or, Bool.not_false, Bool.and_true]
    · rw [if_neg hb]
      simp only [hasB, List.any_cons] at ih ⊢
      rw [ih]
      have hb' : (x == p1 && y == p2) = false := by simpa using hb
      revert hb'
      cases a <;> cases b <;> cases x <;> cases y <;> cases p1 <;> cases p2 <;> simp

/- Block b of w holds a table of the pairs at which t is true, each with 1. -/
def MB (w : World) (b : Nat) (t : Bool → Bool → Bool) : Prop :=
  ∃ l clock, w.heap[b]? = some (.map (l.map entB).toArray clock) ∧ ApartB l ∧ ∀ x y, hasB l x y = t x y
theorem MB.of (w w' : World) (b : Nat) (t : Bool → Bool → Bool) (h : MB w b t) (e : w'.heap[b]? = w.heap[b]?) : MB w' b t := by
  obtain ⟨l, c, hb, ha, ht⟩ := h
  exact ⟨l, c, e.trans hb, ha, ht⟩
theorem MB.eq {w : World} {b : Nat} {t s : Bool → Bool → Bool} (h : MB w b t) (e : ∀ x y, t x y = s x y) : MB w b s := by
  obtain ⟨l, c, hb, ha, ht⟩ := h
  exact ⟨l, c, hb, ha, fun x y => (ht x y).trans (e x y)⟩
theorem MB.lt {w : World} {b : Nat} {t : Bool → Bool → Bool} (h : MB w b t) : b < w.heap.size := by
  obtain ⟨l, c, hb, _, _⟩ := h
  exact (Array.getElem?_eq_some_iff.1 hb).1

def putT (t : Bool → Bool → Bool) (x y : Bool) : Bool → Bool → Bool := fun a b => t a b || (a == x && b == y)
def delT (t : Bool → Bool → Bool) (x y : Bool) : Bool → Bool → Bool := fun a b => t a b && !(a == x && b == y)
end Go.Proofs.Ytpdggofaobmnlaa
