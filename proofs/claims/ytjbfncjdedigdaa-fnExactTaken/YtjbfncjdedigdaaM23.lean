/- A table keyed by two truths, in a block: what it holds, and the runs of Go's operations on it. -/
import Derived.Test.YtjbfncjdedigdaaM4
import Derived.MapKept
import Derived.Carry
import Derived.OwnWalk
import Derived.Test.YtjbfncjdedigdaaM6
import Derived.Deep.RegionHeld3
import Derived.Deep.DeepCutAuto
namespace Go.Proofs.Ytjbfncjdedigdaa
open Go.ChangeShapes Go.WideShapes Go.ChangeAt Go.RowKit

def keyB (x y : Bool) : Value := .agg #[.bool x, .bool y]
def entB (p : Bool × Bool × Nat) : MapEntry := ⟨keyB p.1 p.2.1, .int .i64 1, p.2.2⟩

def findB (x y : Bool) : List (Bool × Bool × Nat) → Nat → Option (Nat × Value)
  | [], _ => none
  | p :: l, i => if (x == p.1 && y == p.2.1) = true then some (i, .int .i64 1) else findB x y l (i + 1)
def delB (x y : Bool) : List (Bool × Bool × Nat) → List (Bool × Bool × Nat)
  | [] => []
  | p :: l => if (x == p.1 && y == p.2.1) = true then l else p :: delB x y l
def hasBK (l : List (Bool × Bool × Nat)) (x y : Bool) : Bool := l.any fun p => x == p.1 && y == p.2.1
def ApartB (l : List (Bool × Bool × Nat)) : Prop := l.Pairwise fun p q => (p.1 == q.1 && p.2.1 == q.2.1) = false

theorem findB_nil (x y : Bool) (l : List (Bool × Bool × Nat)) : ∀ i, hasBK l x y = false → findB x y l i = none ∧ delB x y l = l := by
  induction l with
  | nil => intro i _; exact ⟨rfl, rfl⟩
  | cons p l ih =>
    intro i h
    simp only [hasBK, List.any_cons, Bool.or_eq_false_iff] at h
    obtain ⟨h1, h2⟩ := ih (i + 1) h.2
    simp [findB, delB, h.1, h1, h2]
theorem findB_some (x y : Bool) (l : List (Bool × Bool × Nat)) : ∀ i, hasBK l x y = true → ∃ j, findB x y l i = some (i + j, .int .i64 1) ∧ l.eraseIdx j = delB x y l := by
  induction l with
  | nil => intro i h; cases h
  | cons p l ih =>
    intro i h
    by_cases hb : (x == p.1 && y == p.2.1) = true
    · exact ⟨0, by simp [findB, hb], by simp [delB, hb]⟩
    · have h' : hasBK l x y = true := by
        simp only [hasBK, List.any_cons, Bool.or_eq_true] at h
        rcases h with h | h
        · exact absurd h hb
        · exact h
      obtain ⟨j, h1, h2⟩ := ih (i + 1) h'
      refine ⟨j + 1, ?_, ?_⟩
      · unfold findB
        rw [if_neg hb, h1]
        simp [Nat.add_assoc, Nat.add_comm 1 j]
      · unfold delB
        rw [if_neg hb, ← h2]
        rfl
theorem del_sub (x y : Bool) (l : List (Bool × Bool × Nat)) : (delB x y l).Sublist l := by
  induction l with
  | nil => exact List.Sublist.refl _
  | cons p l ih =>
    unfold delB
    split
    · exact List.sublist_cons_self _ _
    · exact ih.cons_cons _
theorem has_del (x y a b : Bool) (l : List (Bool × Bool × Nat)) (h : ApartB l) : hasBK (delB x y l) a b = (hasBK l a b && !(a == x && b == y)) := by
  induction l with
  | nil => rfl
  | cons p l ih =>
    have h2 := List.pairwise_cons.1 h
    have ih := ih h2.2
    obtain ⟨p1, p2, n⟩ := p
    unfold delB
    by_cases hb : (x == p1 && y == p2) = true
    · rw [if_pos hb]
      have hno : hasBK l p1 p2 = false := by
        unfold hasBK
        rw [List.any_eq_false]
        intro q hq
        simpa using h2.1 q hq
      simp only [Bool.and_eq_true, beq_iff_eq] at hb
      obtain ⟨rfl, rfl⟩ := hb
      by_cases ha : (a == x && b == y) = true
      · simp only [Bool.and_eq_true, beq_iff_eq] at ha
        obtain ⟨rfl, rfl⟩ := ha
        rw [hno]; simp
      · have ha' : (a == x && b == y) = false := by simpa using ha
        simp only [hasBK, List.any_cons, ha', Bool.false_or, Bool.not_false, Bool.and_true]
    · rw [if_neg hb]
      simp only [hasBK, List.any_cons] at ih ⊢
      rw [ih]
      have hb' : (x == p1 && y == p2) = false := by simpa using hb
      revert hb'
      cases a <;> cases b <;> cases x <;> cases y <;> cases p1 <;> cases p2 <;> simp

/- Block b of w holds a table of the pairs at which t is true, each with 1. -/
def MB (w : World) (b : Nat) (t : Bool → Bool → Bool) : Prop :=
  ∃ l clock, w.heap[b]? = some (.map (l.map entB).toArray clock) ∧ ApartB l ∧ ∀ x y, hasBK l x y = t x y
theorem MB.of (w w' : World) (b : Nat) (t : Bool → Bool → Bool) (h : MB w b t) (e : w'.heap[b]? = w.heap[b]?) : MB w' b t := by
  obtain ⟨l, c, hb, ha, ht⟩ := h
  exact ⟨l, c, e.trans hb, ha, ht⟩
theorem MB.eq {w : World} {b : Nat} {t s : Bool → Bool → Bool} (h : MB w b t) (e : ∀ x y, t x y = s x y) : MB w b s := by
  obtain ⟨l, c, hb, ha, ht⟩ := h
  exact ⟨l, c, hb, ha, fun x y => (ht x y).trans (e x y)⟩
theorem MB.lt {w : World} {b : Nat} {t : Bool → Bool → Bool} (h : MB w b t) : b < w.heap.size := by
  obtain ⟨l, c, hb, _, _⟩ := h
  exact (Array.getElem?_eq_some_iff.1 hb).1

def putT (t : Bool → Bool → Bool) (x y : Bool) : Bool → Bool → Bool := fun a b => t a b || (a == x && b == y)
def delT (t : Bool → Bool → Bool) (x y : Bool) : Bool → Bool → Bool := fun a b => t a b && !(a == x && b == y)
end Go.Proofs.Ytjbfncjdedigdaa
/- Kinds by the program: shapes, the table of a kind, KindOk, ForAll. -/
namespace Go.Proofs.Ytjbfncjdedigdaa
open Go.ChangeShapes Go.WideShapes Go.ChangeAt Go.RowKit

def heldI (k : Int) : Int := if k = 1 then 1 else if k = 2 then 1 else if k = 3 then 2 else if k = 4 then 2 else if k = 5 then 3 else if k = 6 then 3 else 0
def whatI (k : Int) : Int := if k = 1 then 1 else if k = 2 then 2 else if k = 3 then 1 else if k = 4 then 2 else if k = 5 then 1 else if k = 6 then 2 else 0

theorem Try.isShape : IsS 108 2 := ⟨⟨_, Try.underlying108⟩, by kernel_rfl⟩

set_option maxRecDepth 20000 in
set_option maxHeartbeats 400000 in
theorem ishape_any (k : Int) (w : World) :
    Calls Try.prog 93 #[.int .i64 k] w fun e w' => e = .returned (.agg #[.int .i64 (heldI k), .int .i64 (whatI k)]) ∧ Below w.heap.size w w' := by
  have b1 := (Below.refl w.heap.size w).alloc (Nat.le_refl _)
  rcases kinds k with h | h | h | h | h | h | h | ⟨_, h0, h1, h2, h3, h4, h5, h6⟩
  · subst h
    go_enter Try.func93, Try.ntmps93
    go_wp2
    refine bodyPost_ret (results_S Try.isShape rfl _ _ w.heap.size _ rfl rfl (StB.new w _ _)) rfl ?_
    exact ⟨rfl, b1 _⟩
  · subst h
    go_enter Try.func93, Try.ntmps93
    go_wp2
    refine bodyPost_ret (results_S Try.isShape rfl _ _ w.heap.size _ rfl rfl (StB.new w _ _)) rfl ?_
    exact ⟨rfl, b1 _⟩
  · subst h
    go_enter Try.func93, Try.ntmps93
    go_wp2
    refine bodyPost_ret (results_S Try.isShape rfl _ _ w.heap.size _ rfl rfl (StB.new w _ _)) rfl ?_
    exact ⟨rfl, b1 _⟩
  · subst h
    go_enter Try.func93, Try.ntmps93
    go_wp2
    refine bodyPost_ret (results_S Try.isShape rfl _ _ w.heap.size _ rfl rfl (StB.new w _ _)) rfl ?_
    exact ⟨rfl, b1 _⟩
  · subst h
    go_enter Try.func93, Try.ntmps93
    go_wp2
    refine bodyPost_ret (results_S Try.isShape rfl _ _ w.heap.size _ rfl rfl (StB.new w _ _)) rfl ?_
    exact ⟨rfl, b1 _⟩
  · subst h
    go_enter Try.func93, Try.ntmps93
    go_wp2
    refine bodyPost_ret (results_S Try.isShape rfl _ _ w.heap.size _ rfl rfl (StB.new w _ _)) rfl ?_
    exact ⟨rfl, b1 _⟩
  · subst h
    go_enter Try.func93, Try.ntmps93
    go_wp2
    refine bodyPost_ret (results_S Try.isShape rfl _ _ w.heap.size _ rfl rfl (StB.new w _ _)) rfl ?_
    exact ⟨rfl, b1 _⟩
  · have he : heldI k = 0 := by simp [heldI, h1, h2, h3, h4, h5, h6]
    have hf : whatI k = 0 := by simp [whatI, h1, h2, h3, h4, h5, h6]
    rw [he, hf]
    clear he hf
    go_enter Try.func93, Try.ntmps93
    go_wp2
    refine bodyPost_ret (results_S Try.isShape rfl _ _ w.heap.size _ rfl rfl (StB.new w _ _)) rfl ?_
    exact ⟨rfl, b1 _⟩

set_option maxRecDepth 20000 in
set_option maxHeartbeats 400000 in
theorem ikind_any (k : Int) (w : World) :
    Calls Try.prog 91 #[.int .i64 k] w fun e w' => e = .returned (.bool (kiI k)) ∧ Below w.heap.size w w' := by
  have c1 := ishape_any k w
  rcases kinds k with h | h | h | h | h | h | h | ⟨hk, h0, h1, h2, h3, h4, h5, h6⟩
  all_goals first
    | (subst h
       go_enter Try.func91, Try.ntmps91
       go_wp2_with fail
       refine c1.mono ?_
       rintro e w2 ⟨rfl, b2⟩
       go_wp2
       go_ret
       exact ⟨rfl, b2⟩)
    | (have he : heldI k = 0 := by simp [heldI, h1, h2, h3, h4, h5, h6]
       have hf : whatI k = 0 := by simp [whatI, h1, h2, h3, h4, h5, h6]
       rw [he, hf] at c1
       rw [hk]
       clear he hf
       go_enter Try.func91, Try.ntmps91
       go_wp2_with fail
       refine c1.mono ?_
       rintro e w2 ⟨rfl, b2⟩
       go_wp2
       go_ret
       exact ⟨rfl, b2⟩)

theorem allI_held (k : Int) : allI k = decide (heldI k = 3) := by
  rcases kinds k with h | h | h | h | h | h | h | ⟨hk, h0, h1, h2, h3, h4, h5, h6⟩
  all_goals first | (subst h; rfl) | (rw [none_all k hk, show heldI k = 0 by simp [heldI, h1, h2, h3, h4, h5, h6]]; rfl)

set_option maxRecDepth 20000 in
set_option maxHeartbeats 400000 in
theorem iall_any (k : Int) (w : World) :
    Calls Try.prog 89 #[.int .i64 k] w fun e w' => e = .returned (.bool (allI k)) ∧ Below w.heap.size w w' := by
  have c1 := ishape_any k w
  rw [allI_held]
  obtain ⟨p, hp⟩ : ∃ p, p = heldI k := ⟨_, rfl⟩
  obtain ⟨q, hq⟩ : ∃ q, q = whatI k := ⟨_, rfl⟩
  rw [← hp, ← hq] at c1
  rw [← hp]
  clear hp hq
  go_enter Try.func89, Try.ntmps89
  go_wp2_with fail
  refine c1.mono ?_
  rintro e w2 ⟨rfl, b2⟩
  have hf : ∀ wx, (Instr.field 108 (.agg #[.int .i64 p, .int .i64 q]) 0).run Try.prog wx = .ok (.int .i64 p) wx := fun wx => by kernel_rfl
  go_wp2
  go_ret
  exact ⟨ret_bool (by by_cases h : p = 3 <;> simp [h]), b2⟩

/- The table that the call itself made, in block b, behind what it was given. -/
def MBB (w0 w : World) (b : Nat) (t : Bool → Bool → Bool) : Prop := MB w b t ∧ Below w0.heap.size w0 w ∧ w0.heap.size ≤ b
theorem MBB.start (w : World) : MBB w (w.alloc (.map #[] 0)).drew w.heap.size (fun _ _ => false) :=
  ⟨⟨[], 0, (MapKept.heap_alloc w _).1, List.Pairwise.nil, fun _ _ => rfl⟩, ((Below.refl w.heap.size w).alloc (Nat.le_refl _) _).drew, Nat.le_refl _⟩
theorem MBB.grown {w0 w w' : World} {b : Nat} {t s : Bool → Bool → Bool} (h : MBB w0 w b t) (hm : MB w' b s) (hg : w.grownBy w' (some b)) : MBB w0 w' b s :=
  ⟨hm, h.2.1.grown hg h.2.1.size (fun k e => by cases e; exact h.2.2), h.2.2⟩
theorem MBB.below {w0 w w' : World} {b : Nat} {t : Bool → Bool → Bool} (h : MBB w0 w b t) (hb : Below w.heap.size w w') : MBB w0 w' b t :=
  ⟨MB.of w w' b t h.1 (hb.block b h.1.lt), h.2.1.trans (hb.mono h.2.1.size), h.2.2⟩
theorem MBB.eq {w0 w : World} {b : Nat} {t s : Bool → Bool → Bool} (h : MBB w0 w b t) (e : ∀ x y, t x y = s x y) : MBB w0 w b s := ⟨h.1.eq e, h.2⟩

/- Beside it the shape of the kind, in a block of its own. -/
def SB (w0 w : World) (b : Nat) (t : Bool → Bool → Bool) (g : Nat) (p q : Int) : Prop := MBB w0 w b t ∧ StB w g 108 #[.int .i64 p, .int .i64 q] ∧ b ≠ g
theorem SB.start {w0 w : World} {b : Nat} {t : Bool → Bool → Bool} (h : MBB w0 w b t) (p q : Int) : SB w0 (w.alloc (.cells #[.int .i64 p, .int .i64 q] 108)) b t w.heap.size p q :=
  ⟨h.below ((Below.refl w.heap.size w).alloc (Nat.le_refl _) _), StB.new w _ _, Nat.ne_of_lt h.1.lt⟩
theorem SB.grown {w0 w w' : World} {b g : Nat} {t s : Bool → Bool → Bool} {p q : Int} (h : SB w0 w b t g p q) (hm : MBB w0 w' b s) (hg : w.grownBy w' (some b)) : Hid (SB w0 w' b s g p q) :=
  ⟨hm, h.2.1.kept hg (fun e => h.2.2 (by cases e; rfl)), h.2.2⟩
theorem SB.cell0 {w0 w : World} {b g : Nat} {t : Bool → Bool → Bool} {p q : Int} (h : SB w0 w b t g p q) : w.cell? ⟨g, 0, none⟩ = some (.int .i64 p) := h.2.1.cell 0 rfl
theorem SB.cell1 {w0 w : World} {b g : Nat} {t : Bool → Bool → Bool} {p q : Int} (h : SB w0 w b t g p q) : w.cell? ⟨g, 1, none⟩ = some (.int .i64 q) := h.2.1.cell 1 rfl

def tabI (p q : Int) (x y : Bool) : Bool := !decide (p = 0) && (!(decide (q = 1) && !x) && !(!decide (p = 1) && y))
end Go.Proofs.Ytjbfncjdedigdaa
