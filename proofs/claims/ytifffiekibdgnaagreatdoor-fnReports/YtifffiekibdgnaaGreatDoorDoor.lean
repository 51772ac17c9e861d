/- What Go's library lays and answers: its table of powers of ten, numbers written, a byte looked for. -/
import Derived.Test.YtifffiekibdgnaaGreatDoorCut
import Derived.Test.YtifffiekibdgnaaGreatDoorShelf
import Derived.Lib.AppendIntMem
namespace Go.Proofs.YtifffiekibdgnaaGreatDoor
open Go.ChangeShapes Go.WideShapes Go.ChangeAt Go.RowKit

abbrev Tab (w : World) : Prop := Lib.TabIs Tryz.prog w "internal/strconv.uint64pow10" .u64 Lib.pow10Tab
theorem Tab.below {w w' : World} (h : Tab w) (b : Below w.heap.size w w') : Tab w' := Lib.tabBelow_of_tabIs h w' b
theorem below_grow (w : World) (k : Nat) (os : Array Obj) : Below w.heap.size w (Sort.grow (w.drewN k) os) :=
  ⟨rfl, rfl, rfl, by simp [Sort.grow], fun j hj => by
    show (w.heap ++ os)[j]? = w.heap[j]?
    rw [Array.getElem?_append_left hj]⟩

theorem digits_dec (n : Nat) : Lib.decDigits n = dec n := by
  induction n using Nat.strongRecOn with
  | ind n ih =>
    rw [Lib.decDigits, dec]
    by_cases h : n < 10
    · simp [h, digit, Nat.mod_eq_of_lt h]
    · simp only [h, dite_false, if_false]
      rw [ih (n / 10) (by omega)]
      rfl
theorem itoa_dec (n : Nat) : Lib.itoa (n : Int) = dec n := by
  unfold Lib.itoa
  rw [if_neg (by omega), digits_dec]
  rfl

theorem index_pos (c : UInt8) (l : Bs) : Lib.indexByte l c = if posB c l = l.length then -1 else (posB c l : Int) := by
  induction l with
  | nil => simp [Lib.indexByte, posB]
  | cons b l ih =>
    rw [Lib.indexByte, posB_cons, ih]
    by_cases h : b = c
    · simp [h]
    · have h1 : (b == c) = false := by simpa using h
      rw [h1, if_neg h]
      by_cases h2 : posB c l = l.length
      · simp [h2]
      · have h3 : ((posB c l : Int) == -1) = false := by simp
        simp [h2, h3]
theorem contains_is (c : UInt8) (l : Bs) : decide (0 ≤ Lib.indexByte l c) = !(l.all (fun b => b != c)) := by
  rw [index_pos]
  by_cases h : posB c l = l.length
  · rw [if_pos h, (posB_all c l).1 h]; rfl
  · have h2 : l.all (fun b => b != c) = false := by
      cases e : l.all (fun b => b != c) with
      | true => exact absurd ((posB_all c l).2 e) h
      | false => rfl
    rw [if_neg h, h2]
    simp
end Go.Proofs.YtifffiekibdgnaaGreatDoor
