/- What Go's library lays and answers: its table of powers of ten, numbers written, a byte looked for. -/
import Derived.Test.YtnnmcjgmnjokiaaDoorCut
import Derived.Test.YtnnmcjgmnjokiaaDoorShelf
import Derived.Lib.AppendIntMem
namespace Go.Proofs.YtnnmcjgmnjokiaaDoor
open Go.ChangeShapes Go.WideShapes Go.ChangeAt Go.RowKit

abbrev Tab (w : World) : Prop := Lib.TabIs Tryd.prog w "internal/strconv.uint64pow10" .u64 Lib.pow10Tab
theorem Tab.below {w w' : World} (h : Tab w) (b : Below w.heap.size w w') : Tab w' := Lib.tabBelow_of_tabIs h w' b
theorem below_grow (w : World) (k : Nat) (os : Array Obj) : Below w.heap.size w (Sort.grow (w.drewN k) os) :=
  ⟨rfl, rfl, rfl, by simp [Sort.grow], fun j hj => by
    show (w.heap ++ os)[j]? = w.heap[j]?
    rw [Array.getElem?_append_left hj]⟩

theorem digits_dec (n : Nat) : Lib.decDigits n = dec n := by
  induction n using Nat.strongRecOn with
  | ind n ih =>
    rw [Lib.decDigits, dec]
    by_cases h : n < 10
    · simp [h, digit, Nat.mod_eq_of_lt h]
    · simp only [h, dite_false, if_false]
      rw [ih (n / 10) (by omega)]
      rfl
theorem itoa_dec (n : Nat) : Lib.itoa (n : Int) = dec n := by
  unfold Lib.itoa
  rw [if_neg (by omega), digits_dec]
  rfl

end Go.Proofs.YtnnmcjgmnjokiaaDoor
