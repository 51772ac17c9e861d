/- Disks: the model's NewDisk, Written, Flushed, Loose and Lost. -/
import Derived.Test.YtnnmcjgmnjokiaaDoorSDisk
import Derived.Test.YtnnmcjgmnjokiaaDoorRow
namespace Go.Proofs.YtnnmcjgmnjokiaaDoor
open Go.ChangeShapes Go.WideShapes Go.ChangeAt Go.RowKit

def wrK (xs ys : List Int) : List Int := if bothOk xs ys then xs else []
def wrN (xs ys : List Int) (i x : Int) : List Int := if bothOk xs ys then putI ys i x else []
def wrB (xs ys : List Int) (i x : Int) : Bool := bothOk xs ys && putB ys i x
def flN (xs ys : List Int) : List Int := if bothOk xs ys then ys else []
def loK (xs ys : List Int) (s : Int) : List Int := if bothOk xs ys then (if setOk s then chosenUp xs ys s 8 xs.length else xs) else []
def loN (xs ys : List Int) (s : Int) : List Int := if bothOk xs ys then (if setOk s then chosenUp xs ys s 8 xs.length else ys) else []

theorem wrK_len (xs ys : List Int) {n : Nat} (h : xs.length ≤ n) : (wrK xs ys).length ≤ n := by unfold wrK; split <;> simp [h]
theorem wrN_len (xs ys : List Int) (i x : Int) {n : Nat} (h : ys.length ≤ n) : (wrN xs ys i x).length ≤ n := by
  unfold wrN; split
  · exact putI_len ys i x h
  · simp
theorem loK_len (xs ys : List Int) (s : Int) {n : Nat} (h : xs.length ≤ n) : (loK xs ys s).length ≤ n := by
  unfold loK; split
  · split
    · rw [chosenUp_len]; exact h
    · exact h
  · simp
theorem loN_len (xs ys : List Int) (s : Int) {n : Nat} (h : xs.length ≤ n) (h' : ys.length ≤ n) : (loN xs ys s).length ≤ n := by
  unfold loN; split
  · split
    · rw [chosenUp_len]; exact h
    · exact h'
  · simp
theorem ownNil2 (w : World) (base : Nat) : OwnD w base (.slice none 0 0) (.slice none 0 0) [] [] := ⟨Own.nil w base, Own.nil w base, .inl rfl, .inl rfl⟩

theorem Boxes.kept {w wx wy : World} {u v : Value} {h : Nat} (H : Boxes w wx u v) (g : wx.grownBy wy (some h)) (hh : w.heap.size + 2 ≤ h) : Boxes w wy u v :=
  ⟨H.1.kept g (by simp; omega), H.2.1.kept g (by simp; omega), H.2.2.1.grown g H.2.2.1.size (fun k e => by cases e; omega), Nat.le_trans H.2.2.2 g.size⟩
theorem Own.keptNew {w w' : World} {base : Nat} {v : Value} {xs : List Int} (h : Own w base v xs) (g : w.grownBy w' (some w.heap.size)) : Own w' base v xs :=
  h.kept g (by
    by_cases e : v.ownBlock = none
    · exact .inl e
    · refine .inr fun e2 => ?_
      have := h.lt _ e2
      omega)
theorem Boxes.alloc {w wx : World} {u v : Value} (H : Boxes w wx u v) (o : Obj) : Boxes w (wx.alloc o) u v := H.below (belowAlloc wx o)

theorem Own.ltBlock {w : World} {base : Nat} {v : Value} {xs : List Int} {g n cap : Nat} (h : Own w base v xs) (e : v = .slice (some ⟨g, 0, none⟩) n cap) : base ≤ g ∧ g < w.heap.size := h.lt g (by rw [e]; rfl)

theorem Own.setApart {w : World} {base g j : Nat} {v u : Value} {xs : List Int} {n cap : Nat} (h : Own w base v xs) (x : Value) (e : u = .slice (some ⟨g, 0, none⟩) n cap) (ha : v.ownBlock = none ∨ v.ownBlock ≠ u.ownBlock) : Own (w.setCell ⟨g, j, none⟩ x) base v xs :=
  h.kept (grownSet w g j x) (by rw [e] at ha; exact ha)
end Go.Proofs.YtnnmcjgmnjokiaaDoor
