/- A list of strings of the call's own as a thing in the state of a long walk. -/
import Derived.Test.YtifffiekibdgnaaGreatDoorSta
import Derived.Test.YtifffiekibdgnaaGreatDoorSMems
namespace Go.Proofs.YtifffiekibdgnaaGreatDoor
open Go.ChangeShapes Go.WideShapes Go.ChangeAt Go.RowKit

def Lss (v : Value) (xs : List Bs) : Item := ⟨v.ownBlock.toList, 0, fun w => OwnS w 0 v xs, fun _ _ e _ h => OwnS.frame h e⟩
theorem Sta.texts {w wx wy : World} {L : List Item} {v : Value} {xs : List Bs} (h : Sta w wx L) (o : OwnS wy wx.heap.size v xs) (b : Below wx.heap.size wx wy) : Sta w wy (Lss v xs :: L) :=
  h.add b (Lss v xs) (o.mono (Nat.zero_le _)) (fun k hk => o.lt k (by simpa [Lss] using hk))
/- The list is written anew in its own block: what markStringS does. -/
theorem Sta.markS {w wx wy : World} {L : List Item} {v : Value} {xs ys : List Bs} (h : Sta w wx L) (n : Nat) (e : L[n]? = some (Lss v xs)) (o : OwnS wy 0 v ys) (g : wx.grownBy wy v.ownBlock) : Sta w wy (L.set n (Lss v ys)) :=
  h.turn n e (Turned.of_grown g) (Lss v ys) rfl o
theorem Sta.readsS {w wx : World} {L : List Item} {v : Value} {xs : List Bs} (h : Sta w wx L) (n : Nat) (e : L[n]? = some (Lss v xs)) : ReadsS wx v xs := OwnS.reads (h.get n e)
/- The first m of a list. -/
theorem ReadsS.take {w : World} {ao : Option Addr} {n cap : Nat} {xs : List Bs} (h : ReadsS w (.slice ao n cap) xs) (m : Nat) (hm : m ≤ xs.length) : ReadsS w (.slice ao m cap) (xs.take m) := by
  obtain ⟨ao', cap', e, h1, h2, h4⟩ := h
  cases e
  have hl : (xs.take m).length = m := by simp [Nat.min_eq_left hm]
  refine ⟨ao, cap, by rw [hl], by rw [hl]; omega, h2, ?_⟩
  rcases h4 with rfl | ⟨b, off, e, h4⟩
  · exact .inl (by simp)
  · refine .inr ⟨b, off, e, fun j hj => ?_⟩
    rw [hl] at hj
    rw [h4 j (by omega)]
    simp [hj]
end Go.Proofs.YtifffiekibdgnaaGreatDoor
