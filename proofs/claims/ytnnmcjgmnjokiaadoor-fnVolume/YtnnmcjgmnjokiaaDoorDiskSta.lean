/- Disks in the state of a long walk. -/
import Derived.Test.YtnnmcjgmnjokiaaDoorSta
import Derived.Test.YtnnmcjgmnjokiaaDoorDisk
namespace Go.Proofs.YtnnmcjgmnjokiaaDoor
open Go.ChangeShapes Go.WideShapes Go.ChangeAt Go.RowKit

def Dsk (u v : Value) (xs ys : List Int) : Item := ⟨u.ownBlock.toList ++ v.ownBlock.toList, 0, fun w => OwnD w 0 u v xs ys, fun _ _ e _ h => ⟨h.1.frame (fun b hb => e b (List.mem_append_left _ hb)), h.2.1.frame (fun b hb => e b (List.mem_append_right _ hb)), h.2.2⟩⟩
theorem Sta.disk {w wx wy : World} {L : List Item} {u v : Value} {xs ys : List Int} (h : Sta w wx L) (o : OwnD wy wx.heap.size u v xs ys) (b : Below wx.heap.size wx wy) : Sta w wy (Dsk u v xs ys :: L) :=
  h.add b (Dsk u v xs ys) ⟨o.1.mono (Nat.zero_le _), o.2.1.mono (Nat.zero_le _), o.2.2⟩ (fun k hk => by
    simp only [Dsk, List.mem_append, Option.mem_toList] at hk
    rcases hk with hk | hk
    · exact o.1.lt k hk
    · exact o.2.1.lt k hk)
theorem Marked.turned {w w' : World} {u v : Value} (h : Marked w w' u v) : Turned w w' (u.ownBlock.toList ++ v.ownBlock.toList) := by
  obtain ⟨w1, g1, g2⟩ := h
  exact (Turned.of_grown g1).trans (Turned.of_grown g2)
theorem Sta.marked {w wx wy : World} {L : List Item} {u v : Value} {xs ys zs ts : List Int} (h : Sta w wx L) (n : Nat) (e : L[n]? = some (Dsk u v xs ys)) (o : OwnD wy 0 u v zs ts) (m : Marked wx wy u v) : Sta w wy (L.set n (Dsk u v zs ts)) :=
  h.turn n e m.turned (Dsk u v zs ts) rfl o
theorem Sta.readsU {w wx : World} {L : List Item} {u v : Value} {xs ys : List Int} (h : Sta w wx L) (n : Nat) (e : L[n]? = some (Dsk u v xs ys)) : Reads wx u xs := (h.get n e).1.reads
theorem Sta.readsV {w wx : World} {L : List Item} {u v : Value} {xs ys : List Int} (h : Sta w wx L) (n : Nat) (e : L[n]? = some (Dsk u v xs ys)) : Reads wx v ys := (h.get n e).2.1.reads
theorem Sta.ones {w wx : World} {L : List Item} {u v : Value} {xs ys : List Int} (h : Sta w wx L) (n : Nat) (e : L[n]? = some (Dsk u v xs ys)) : (#[u, v] : Array Value).all (·.oneCell') = true := pair_one (h.readsU n e).one (h.readsV n e).one
theorem apart_blocks {i j : List Nat} {u v : Value} (hi : i = u.ownBlock.toList) (hj : j = v.ownBlock.toList) (h : ∀ b ∈ i, b ∉ j) : apart u v := by
  subst hi hj
  refine ⟨?_, ?_⟩
  · by_cases e : u.ownBlock = none
    · exact .inl e
    · refine .inr fun e2 => ?_
      obtain ⟨g, hg⟩ := Option.ne_none_iff_exists'.1 e
      exact h g (by simp [hg]) (by simp [← e2, hg])
  · by_cases e : v.ownBlock = none
    · exact .inl e
    · refine .inr fun e2 => ?_
      obtain ⟨g, hg⟩ := Option.ne_none_iff_exists'.1 e
      exact h g (by simp [← e2, hg]) (by simp [hg])
/- Two lists that lie apart are a disk. -/
theorem Sta.two {w wx : World} {L : List Item} {u v : Value} {xs ys : List Int} (h : Sta w wx (Lst u xs :: Lst v ys :: L)) : Sta w wx (Dsk u v xs ys :: L) :=
  h.join (Dsk u v xs ys) rfl ⟨h.get 0 rfl, h.get 1 rfl, apart_blocks rfl rfl (h.apart.1 (Lst v ys) (by simp))⟩
end Go.Proofs.YtnnmcjgmnjokiaaDoor
