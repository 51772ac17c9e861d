/- A text cut at a byte: where it stands first, what stands ahead of it and behind; cut at most so often. -/
import Derived.Test.YtnnmcjgmnjokiaaDoorSMemA
namespace Go.Proofs.YtnnmcjgmnjokiaaDoor
open Go.RowKit

def posB (c : UInt8) (l : Bs) : Nat := (l.takeWhile (fun b => b != c)).length
theorem posB_le (c : UInt8) (l : Bs) : posB c l ≤ l.length := (List.takeWhile_prefix _).length_le
theorem posB_cons (c b : UInt8) (l : Bs) : posB c (b :: l) = if b = c then 0 else posB c l + 1 := by
  unfold posB
  by_cases h : b = c
  · simp [h]
  · simp [h]
theorem posB_all (c : UInt8) (l : Bs) : posB c l = l.length ↔ l.all (fun b => b != c) = true := by
  induction l with
  | nil => simp [posB]
  | cons b l ih =>
    rw [posB_cons]
    by_cases h : b = c
    · simp [h]
    · simp [h, ih]
def behind (c : UInt8) (l : Bs) : Bs := l.drop (posB c l + 1)
def before (c : UInt8) (l : Bs) : Bs := l.take (posB c l)
theorem behind_len_le (c : UInt8) (l : Bs) : (behind c l).length ≤ l.length := by simp [behind]

/- A text cut at most so often. -/
def posC (c : UInt8) (l : Bs) : Nat := (l.takeWhile (fun b => b != c)).length
def splitN (c : UInt8) : Nat → Bs → List Bs
  | 0, l => [l]
  | k + 1, l => if posC c l = l.length then [l] else l.take (posC c l) :: splitN c k (l.drop (posC c l + 1))
theorem splitB_first (c : UInt8) (l : Bs) : splitB c l = if posC c l = l.length then [l] else l.take (posC c l) :: splitB c (l.drop (posC c l + 1)) := by
  induction l with
  | nil => simp [splitB, posC]
  | cons b l ih =>
    by_cases h : b = c
    · subst h
      simp [splitB, posC]
    · have hp : posC c (b :: l) = posC c l + 1 := by simp [posC, h]
      rw [splitB, if_neg h, ih, hp]
      by_cases h2 : posC c l = l.length
      · simp [h2, ahead]
      · simp [h2, ahead]
theorem splitB_len (c : UInt8) (l : Bs) : (splitB c l).length ≤ l.length + 1 := by
  induction l with
  | nil => simp [splitB]
  | cons b l ih =>
    rw [splitB]
    split
    · simp; omega
    · cases hs : splitB c l with
      | nil => simp [ahead]
      | cons p ps => rw [hs] at ih; simp [ahead] at ih ⊢; omega
theorem splitN_or (c : UInt8) (k : Nat) : ∀ l : Bs, splitN c k l = splitB c l ∨ ((splitN c k l).length = k + 1 ∧ k + 1 < (splitB c l).length) := by
  induction k with
  | zero =>
    intro l
    rw [splitN, splitB_first]
    by_cases h : posC c l = l.length
    · simp [h]
    · right
      have := splitB_ne c (l.drop (posC c l + 1))
      have := List.length_pos_iff.2 this
      simp [h]; omega
  | succ k ih =>
    intro l
    rw [splitN, splitB_first]
    by_cases h : posC c l = l.length
    · simp [h]
    · simp only [h, if_false]
      rcases ih (l.drop (posC c l + 1)) with e | ⟨e1, e2⟩
      · left; rw [e]
      · right; simp only [List.length_cons]; omega
theorem splitN_len (c : UInt8) (k : Nat) : ∀ l : Bs, 1 ≤ (splitN c k l).length ∧ (splitN c k l).length ≤ k + 1 := by
  induction k with
  | zero => intro l; simp [splitN]
  | succ k ih =>
    intro l
    rw [splitN]
    split
    · simp
    · have := ih (l.drop (posC c l + 1))
      simp only [List.length_cons]; omega
theorem posC_is (c : UInt8) (l : Bs) : posC c l = posB c l := rfl
end Go.Proofs.YtnnmcjgmnjokiaaDoor
