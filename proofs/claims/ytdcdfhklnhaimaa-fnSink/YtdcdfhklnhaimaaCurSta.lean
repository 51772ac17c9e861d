/- The cursor of the draws as a thing in the state of a long walk. -/
import Derived.Test.YtdcdfhklnhaimaaSta
import Derived.Test.YtdcdfhklnhaimaaDraw
namespace Go.Proofs.Ytdcdfhklnhaimaa
open Go.ChangeShapes Go.WideShapes Go.ChangeAt Go.RowKit

theorem Cur.frame {w w' : World} {B c : Nat} (h : Cur w B c) (e : w'.heap[c]? = w.heap[c]?) (b : Below B w w') : Cur w' B c := by
  obtain ⟨ao, len, cap, i, hh, hB, h1, h2, h3⟩ := h
  exact ⟨ao, len, cap, i, hh, hB, e.trans h1, h2.below b, h3⟩
def CurI (B c : Nat) : Item := ⟨[c], B, fun w => Cur w B c, fun _ _ e b h => h.frame (e c (by simp)) b⟩
theorem Sta.cur {w wx wy : World} {L : List Item} {B c : Nat} (h : Sta w wx L) (n : Nat) (e : L[n]? = some (CurI B c)) (C : Cur wy B c) (G : wx.grownBy wy (some c)) : Sta w wy L := by
  have := h.turn n e (Turned.of_grown G) (CurI B c) rfl C (h.olds _ (List.mem_of_getElem? e))
  rwa [set_same e] at this
theorem Sta.newCur {w wx wy : World} {L : List Item} {B c : Nat} (h : Sta w wx L) (hB : B ≤ w.heap.size) (hc : wx.heap.size ≤ c) (C : Cur wy B c) (G : wx.grownBy wy none) : Sta w wy (CurI B c :: L) :=
  h.add ((Below.refl _ _).grown G (Nat.le_refl _) (fun k e => by cases e)) (CurI B c) C (fun k hk => by simp [CurI] at hk; subst hk; exact ⟨hc, C.lt.2⟩) hB
theorem turned_set (w : World) (g j : Nat) (x : Value) : Turned w (w.setCell ⟨g, j, none⟩ x) [g] := Turned.of_grown (grown_set w g j x)
end Go.Proofs.Ytdcdfhklnhaimaa
