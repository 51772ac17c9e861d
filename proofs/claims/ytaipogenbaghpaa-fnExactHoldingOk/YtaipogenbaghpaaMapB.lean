/- A table keyed by two truths, in a block: what it holds, and the runs of Go's operations on it. -/
import Derived.Test.YtaipogenbaghpaaRu
import Derived.MapKept
import Derived.Carry
import Derived.OwnWalk
namespace Go.Proofs.Ytaipogenbaghpaa
open Go.ChangeShapes Go.WideShapes Go.ChangeAt Go.RowKit

def keyB (x y : Bool) : Value := .agg #[.bool x, .bool y]
def entB (p : Bool × Bool × Nat) : MapEntry := ⟨keyB p.1 p.2.1, .int .i64 1, p.2.2⟩

set_option maxRecDepth 20000 in
set_option maxHeartbeats 400000 in
theorem run_eqK (x y x' y' : Bool) (w : World) : (Op.equal 68 (keyB x y) (keyB x' y')).run Try.prog w = .ok (x == x' && y == y') w := by
  cases x <;> cases y <;> cases x' <;> cases y' <;> kernel_rfl

set_option maxRecDepth 20000 in
set_option maxHeartbeats 400000 in
theorem run_checkK (e : Bool) (x y : Bool) (w : World) : (Instr.checkKey e 10000 68 (keyB x y)).run Try.prog w = .ok () w := by
  cases x <;> cases y <;> cases e <;> kernel_rfl

def findB (x y : Bool) : List (Bool × Bool × Nat) → Nat → Option (Nat × Value)
  | [], _ => none
  | p :: l, i => if (x == p.1 && y == p.2.1) = true then some (i, .int .i64 1) else findB x y l (i + 1)
def delB (x y : Bool) : List (Bool × Bool × Nat) → List (Bool × Bool × Nat)
  | [] => []
  | p :: l => if (x == p.1 && y == p.2.1) = true then l else p :: delB x y l
def hasB (l : List (Bool × Bool × Nat)) (x y : Bool) : Bool := l.any fun p => x == p.1 && y == p.2.1
def ApartB (l : List (Bool × Bool × Nat)) : Prop := l.Pairwise fun p q => (p.1 == q.1 && p.2.1 == q.2.1) = false

theorem run_findA (x y : Bool) (w : World) : ∀ (l : List (Bool × Bool × Nat)) (i : Nat), (Instr.findAsking 68 (keyB x y) (l.map entB) i).run Try.prog w = .ok (findB x y l i) w
  | [], i => by simp [Instr.findAsking, findB]
  | p :: l, i => by
    have h1 := run_eqK x y p.1 p.2.1 w
    have h2 := run_findA x y w l (i + 1)
    rw [List.map_cons]
    by_cases hb : (x == p.1 && y == p.2.1) = true
    · simp only [hb] at h1
      simp [Instr.findAsking, entB, h1, findB, hb]
    · have hb' : (x == p.1 && y == p.2.1) = false := by simpa using hb
      simp only [hb'] at h1
      simp [Instr.findAsking, entB, h1, findB, hb', h2]

theorem findB_nil (x y : Bool) (l : List (Bool × Bool × Nat)) : ∀ i, hasB l x y = false → findB x y l i = none ∧ delB x y l = l := by
  induction l with
  | nil => intro i _; exact ⟨rfl, rfl⟩
  | cons p l ih =>
    intro i h
    simp only [hasB, List.any_cons, Bool.or_eq_false_iff] at h
    obtain ⟨h1, h2⟩ := ih (i + 1) h.2
    simp [findB, delB, h.1, h1, h2]
theorem findB_some (x y : Bool) (l : List (Bool × Bool × Nat)) : ∀ i, hasB l x y = true → ∃ j, findB x y l i = some (i + j, .int .i64 1) ∧ l.eraseIdx j = delB x y l := by
  induction l with
  | nil => intro i h; cases h
  | cons p l ih =>
    intro i h
    by_cases hb : (x == p.1 && y == p.2.1) = true
    · exact ⟨0, by simp [findB, hb], by simp [delB, hb]⟩
    · have h' : hasB l x y = true := by
        simp only [hasB, List.any_cons, Bool.or_eq_true] at h
        rcases h with h | h
        · exact absurd h hb
        · exact h
      obtain ⟨j, h1, h2⟩ := ih (i + 1) h'
      refine ⟨j + 1, ?_, ?_⟩
      · unfold findB
        rw [if_neg hb, h1]
        simp [Nat.add_assoc, Nat.add_comm 1 j]
      · unfold delB
        rw [if_neg hb, ← h2]
        rfl
theorem del_sub (x y : Bool) (l : List (Bool × Bool × Nat)) : (delB x y l).Sublist l := by
  induction l with
  | nil => exact List.Sublist.refl _
  | cons p l ih =>
    unfold delB
    split
    · exact List.sublist_cons_self _ _
    · exact ih.cons_cons _
theorem has_del (x y a b : Bool) (l : List (Bool × Bool × Nat)) (h : ApartB l) : hasB (delB x y l) a b = (hasB l a b && !(a == x && b == y)) := by
  induction l with
  | nil => rfl
  | cons p l ih =>
    have h2 := List.pairwise_cons.1 h
    have ih := ih h2.2
    obtain ⟨p1, p2, n⟩ := p
    unfold delB
    by_cases hb : (x == p1 && y == p2) = true
    · rw [if_pos hb]
      have hno : hasB l p1 p2 = false := by
        unfold hasB
        rw [List.any_eq_false]
        intro q hq
        simpa using h2.1 q hq
      simp only [Bool.and_eq_true, beq_iff_eq] at hb
      obtain ⟨rfl, rfl⟩ := hb
      by_cases ha : (a == x && b == y) = true
      · simp only [Bool.and_eq_true, beq_iff_eq] at ha
        obtain ⟨rfl, rfl⟩ := ha
        rw [hno]; simp
      · have ha' : (a == x && b == y) = false := by simpa using ha
        simp only [hasB, List.any_cons, ha', Bool.false_or, Bool.not_false, Bool.and_true]
    · rw [if_neg hb]
      simp only [hasB, List.any_cons] at ih ⊢
      rw [ih]
      have hb' : (x == p1 && y == p2) = false := by simpa using hb
      revert hb'
      cases a <;> cases b <;> cases x <;> cases y <;> cases p1 <;> cases p2 <;> simp

/- Block b of w holds a table of the pairs at which t is true, each with 1. -/
def MB (w : World) (b : Nat) (t : Bool → Bool → Bool) : Prop :=
  ∃ l clock, w.heap[b]? = some (.map (l.map entB).toArray clock) ∧ ApartB l ∧ ∀ x y, hasB l x y = t x y
theorem MB.of (w w' : World) (b : Nat) (t : Bool → Bool → Bool) (h : MB w b t) (e : w'.heap[b]? = w.heap[b]?) : MB w' b t := by
  obtain ⟨l, c, hb, ha, ht⟩ := h
  exact ⟨l, c, e.trans hb, ha, ht⟩
theorem MB.eq {w : World} {b : Nat} {t s : Bool → Bool → Bool} (h : MB w b t) (e : ∀ x y, t x y = s x y) : MB w b s := by
  obtain ⟨l, c, hb, ha, ht⟩ := h
  exact ⟨l, c, hb, ha, fun x y => (ht x y).trans (e x y)⟩
theorem MB.lt {w : World} {b : Nat} {t : Bool → Bool → Bool} (h : MB w b t) : b < w.heap.size := by
  obtain ⟨l, c, hb, _, _⟩ := h
  exact (Array.getElem?_eq_some_iff.1 hb).1

def putT (t : Bool → Bool → Bool) (x y : Bool) : Bool → Bool → Bool := fun a b => t a b || (a == x && b == y)
def delT (t : Bool → Bool → Bool) (x y : Bool) : Bool → Bool → Bool := fun a b => t a b && !(a == x && b == y)

theorem run_findK (x y : Bool) (w : World) (l : List (Bool × Bool × Nat)) : (Instr.findKey 68 (keyB x y) (l.map entB)).run Try.prog w = .ok (findB x y l 0) w := by
  have hu : ∃ fs, Try.prog.underlying 68 = some (.struct fs) := ⟨_, Try.underlying68⟩
  obtain ⟨fs, hu⟩ := hu
  have h := run_findA x y w l 0
  cases l with
  | nil => simp [Instr.findKey, run_underlying hu, Result.andThen, Instr.findNow, findB]
  | cons p l =>
    have hn : Instr.findNow (.struct fs) (keyB x y) ((p :: l).map entB) 0 = none := by
      simp [Instr.findNow, Instr.sameNow, keyB, entB]
    simp only [Instr.findKey, Sem.run_bind, run_underlying hu, Result.andThen, hn]
    exact h

theorem run_insertB (w : World) (b : Nat) (t : Bool → Bool → Bool) (x y : Bool) (h : MB w b t) (ht : t x y = false) :
    ∃ w', (Instr.mapUpdate 65 (.map (some b)) (keyB x y) (.int .i64 1)).run Try.prog w = .ok () w' ∧ MB w' b (putT t x y) ∧ w.grownBy w' (some b) := by
  obtain ⟨l, c, hb, ha, hl⟩ := h
  have hf := run_findK x y w l
  have hno : hasB l x y = false := (hl x y).trans ht
  rw [(findB_nil x y l 0 hno).1] at hf
  refine ⟨{ w with heap := w.heap.setIfInBounds b (.map ((l.map entB).toArray.push ⟨keyB x y, .int .i64 1, c⟩) (c + 1)) }, ?_, ?_, ?_⟩
  · simp [Instr.mapUpdate, run_underlying Try.underlying65, MapKept.run_getObj_map hb, run_checkK, hf, MapKept.run_setObj_map _ hb, Result.andThen]
  · refine ⟨l ++ [(x, y, c)], c + 1, ?_, ?_, ?_⟩
    · rw [(MapKept.heap_set hb).1]
      simp [entB]
    · refine List.pairwise_append.2 ⟨ha, by simp, ?_⟩
      intro p hp q hq
      simp only [List.mem_singleton] at hq
      subst hq
      have := List.any_eq_false.1 hno p hp
      cases hx : x <;> cases hy : y <;> cases h1 : p.1 <;> cases h2 : p.2.1 <;> simp_all
    · intro a d
      simp only [hasB, List.any_append, List.any_cons, List.any_nil, Bool.or_false, putT]
      rw [← hl a d]
      rfl
  · exact ⟨rfl, rfl, rfl, by simp, fun k hk hne => (MapKept.heap_set hb).2 k (fun e => hne (by rw [e]))⟩

theorem map_erase (f : Bool × Bool × Nat → MapEntry) : ∀ (l : List (Bool × Bool × Nat)) (j : Nat), (l.map f).eraseIdx j = (l.eraseIdx j).map f
  | [], _ => rfl
  | _ :: _, 0 => rfl
  | p :: l, j + 1 => by simp [map_erase f l j]
theorem run_deleteB (w : World) (ty : TypeId) (b : Nat) (t : Bool → Bool → Bool) (x y : Bool) (h : MB w b t) :
    ∃ w', (Builtin.delete_ #[65, 68] ty #[.map (some b), keyB x y]).run Try.prog w = .ok (.tuple #[]) w' ∧ MB w' b (delT t x y) ∧ w.grownBy w' (some b) := by
  obtain ⟨l, c, hb, ha, hl⟩ := h
  have hf := run_findK x y w l
  refine ⟨{ w with heap := w.heap.setIfInBounds b (.map ((delB x y l).map entB).toArray c) }, ?_, ⟨delB x y l, c, (MapKept.heap_set hb).1, List.Pairwise.sublist (del_sub x y l) ha, ?_⟩, ?_⟩
  · cases hh : hasB l x y with
    | false =>
      obtain ⟨h1, h2⟩ := findB_nil x y l 0 hh
      rw [h1] at hf
      rw [h2]
      simp [Builtin.delete_, run_underlying Try.underlying65, MapKept.run_getObj_map hb, run_checkK, hf, MapKept.run_setObj_map _ hb, Result.andThen]
    | true =>
      obtain ⟨j, h1, h2⟩ := findB_some x y l 0 hh
      rw [h1, Nat.zero_add] at hf
      have he : (l.map entB).toArray.eraseIdxIfInBounds j = ((delB x y l).map entB).toArray := by
        rw [← h2]
        apply Array.ext'
        simp only [Array.eraseIdxIfInBounds]
        split
        · simp [map_erase]
        · rename_i hlt
          have : l.length ≤ j := by simpa using hlt
          rw [List.eraseIdx_of_length_le this]
      rw [← he]
      simp [Builtin.delete_, run_underlying Try.underlying65, MapKept.run_getObj_map hb, run_checkK, hf, MapKept.run_setObj_map _ hb, Result.andThen]
  · intro a d
    rw [has_del x y a d l ha, hl a d]
    rfl
  · exact ⟨rfl, rfl, rfl, by simp, fun k hk hne => (MapKept.heap_set hb).2 k (fun e => hne (by rw [e]))⟩

theorem run_clearB (w : World) (ty : TypeId) (b : Nat) (t : Bool → Bool → Bool) (h : MB w b t) :
    ∃ w', (Builtin.clear_ #[65] ty #[.map (some b)]).run Try.prog w = .ok (.tuple #[]) w' ∧ MB w' b (fun _ _ => false) ∧ w.grownBy w' (some b) := by
  obtain ⟨l, c, hb, ha, hl⟩ := h
  refine ⟨{ w with heap := w.heap.setIfInBounds b (.map #[] c) }, ?_, ⟨[], c, (MapKept.heap_set hb).1, List.Pairwise.nil, fun _ _ => rfl⟩, ?_⟩
  · simp [Builtin.clear_, run_underlying Try.underlying65, MapKept.run_getObj_map hb, MapKept.run_setObj_map _ hb, Result.andThen]
  · exact ⟨rfl, rfl, rfl, by simp, fun k hk hne => (MapKept.heap_set hb).2 k (fun e => hne (by rw [e]))⟩

theorem run_lookB (w : World) (b : Nat) (t : Bool → Bool → Bool) (x y : Bool) (h : MB w b t) :
    (Instr.lookup 65 (.map (some b)) (keyB x y) false).run Try.prog w = .ok (.int .i64 (if t x y = true then 1 else 0)) w := by
  obtain ⟨l, c, hb, ha, hl⟩ := h
  have hf := run_findK x y w l
  have hz : (zeroValue 2).run Try.prog w = .ok (.int .i64 0) w := by kernel_rfl
  cases hh : hasB l x y with
  | false =>
    rw [(findB_nil x y l 0 hh).1] at hf
    rw [← hl x y, hh]
    simp [Instr.lookup, run_underlying Try.underlying65, MapKept.run_getObj_map hb, run_checkK, hf, hz, Result.andThen]
  | true =>
    obtain ⟨j, h1, h2⟩ := findB_some x y l 0 hh
    rw [h1] at hf
    rw [← hl x y, hh]
    simp [Instr.lookup, run_underlying Try.underlying65, MapKept.run_getObj_map hb, run_checkK, hf, Result.andThen]
end Go.Proofs.Ytaipogenbaghpaa
