/- Stores in the state of a long walk. -/
import Derived.Test.YtpdggofaobmnlaaM10
import Derived.Test.YtpdggofaobmnlaaM11
import Derived.Test.YtpdggofaobmnlaaLStore2
namespace Go.Proofs.Ytpdggofaobmnlaa
open Go.ChangeShapes Go.WideShapes Go.ChangeAt Go.RowKit

def Sto (u v q : Value) (xs ys ks : List Int) : Item :=
  ⟨u.ownBlock.toList ++ v.ownBlock.toList ++ q.ownBlock.toList, 0, fun w => OwnR w 0 u v q xs ys ks, fun _ _ e _ h =>
    ⟨⟨h.1.1.frame (fun b hb => e b (List.mem_append_left _ (List.mem_append_left _ hb))), h.1.2.1.frame (fun b hb => e b (List.mem_append_left _ (List.mem_append_right _ hb))), h.1.2.2⟩, h.2.1.frame (fun b hb => e b (List.mem_append_right _ hb)), h.2.2⟩⟩
theorem Sto.in {u v q : Value} {xs ys ks : List Int} {x : Nat} (hx : x ∈ (Sto u v q xs ys ks).blocks) : u.ownBlock = some x ∨ v.ownBlock = some x ∨ q.ownBlock = some x := by
  simp only [Sto, List.mem_append, Option.mem_toList] at hx
  rcases hx with (hx | hx) | hx
  · exact .inl hx
  · exact .inr (.inl hx)
  · exact .inr (.inr hx)
theorem Sta.store {w wx wy : World} {L : List Item} {u v q : Value} {xs ys ks : List Int} (h : Sta w wx L) (o : OwnR wy wx.heap.size u v q xs ys ks) (b : Below wx.heap.size wx wy) : Sta w wy (Sto u v q xs ys ks :: L) :=
  h.add b (Sto u v q xs ys ks) (o.mono (Nat.zero_le _)) (fun k hk => by
    rcases Sto.in hk with hk | hk | hk
    · exact o.1.1.lt k hk
    · exact o.1.2.1.lt k hk
    · exact o.2.1.lt k hk)
theorem Marked3.turned {w w' : World} {u v q : Value} (h : Marked3 w w' u v q) : Turned w w' (u.ownBlock.toList ++ v.ownBlock.toList ++ q.ownBlock.toList) := by
  obtain ⟨w1, m1, g2⟩ := h
  exact m1.turned.trans (Turned.of_grown g2)
theorem Sta.marked3 {w wx wy : World} {L : List Item} {u v q : Value} {xs ys ks zs ts ms : List Int} (h : Sta w wx L) (n : Nat) (e : L[n]? = some (Sto u v q xs ys ks)) (o : OwnR wy 0 u v q zs ts ms) (m : Marked3 wx wy u v q) : Sta w wy (L.set n (Sto u v q zs ts ms)) :=
  h.turn n e m.turned (Sto u v q zs ts ms) rfl o
theorem Sta.rA {w wx : World} {L : List Item} {u v q : Value} {xs ys ks : List Int} (h : Sta w wx L) (n : Nat) (e : L[n]? = some (Sto u v q xs ys ks)) : Reads wx u xs := (h.get n e).1.1.reads
theorem Sta.rB {w wx : World} {L : List Item} {u v q : Value} {xs ys ks : List Int} (h : Sta w wx L) (n : Nat) (e : L[n]? = some (Sto u v q xs ys ks)) : Reads wx v ys := (h.get n e).1.2.1.reads
theorem Sta.rK {w wx : World} {L : List Item} {u v q : Value} {xs ys ks : List Int} (h : Sta w wx L) (n : Nat) (e : L[n]? = some (Sto u v q xs ys ks)) : Reads wx q ks := (h.get n e).2.1.reads
theorem OwnR.putBy {w w' : World} {base g : Nat} {u v q : Value} {xs ys ks : List Int} {t : TypeId} {cs : Array Value} (h : OwnR w base u v q xs ys ks) (h' : StB w g t cs) (hne : t ≠ 2) (b : w.grownBy w' (some g)) : OwnR w' base u v q xs ys ks :=
  ⟨⟨h.1.1.putBy h' hne b, h.1.2.1.putBy h' hne b, h.1.2.2⟩, h.2.1.putBy h' hne b, h.2.2⟩
theorem OwnR.neB {w : World} {base g : Nat} {u v q : Value} {xs ys ks : List Int} {t : TypeId} {cs : Array Value} (h : OwnR w base u v q xs ys ks) (h' : StB w g t cs) (hne : t ≠ 2) {x : Nat} (hx : x ∈ (Sto u v q xs ys ks).blocks) : x ≠ g := by
  rintro rfl
  rcases Sto.in hx with hx | hx | hx
  · exact h.1.1.ne h' hne hx
  · exact h.1.2.1.ne h' hne hx
  · exact h.2.1.ne h' hne hx
theorem OwnR.inB {w : World} {base : Nat} {u v q : Value} {xs ys ks : List Int} (h : OwnR w base u v q xs ys ks) {x : Nat} (hx : x ∈ (Sto u v q xs ys ks).blocks) : base ≤ x ∧ x < w.heap.size := by
  rcases Sto.in hx with hx | hx | hx
  · exact h.1.1.lt x hx
  · exact h.1.2.1.lt x hx
  · exact h.2.1.lt x hx
/- A store's variable and its lists. -/
theorem Sta.addR {w wx wy : World} {L : List Item} (h : Sta w wx L) (b : Below wx.heap.size wx wy) {g : Nat} {t : TypeId} {cs : Array Value} {u v q : Value} {xs ys ks : List Int}
    (hg : StB wy g t cs) (o : OwnR wy wx.heap.size u v q xs ys ks) (lg : wx.heap.size ≤ g) (ti : t ≠ 2) : Sta w wy (Blk g t cs :: Sto u v q xs ys ks :: L) := by
  have h' := h.next b
  have sg := hg.lt
  have hL : ∀ j ∈ L, ∀ x ∈ j.blocks, x < wx.heap.size := fun j hj x hx => (h.bound j hj x hx).2
  have sz := h.below.size
  refine ⟨h'.below, ?_, ?_, ?_, ?_, ?_, h'.apart⟩
  · intro i hi
    simp only [List.mem_cons] at hi
    rcases hi with rfl | rfl | hi
    · exact Nat.zero_le _
    · exact Nat.zero_le _
    · exact h'.olds i hi
  · intro i hi
    simp only [List.mem_cons] at hi
    rcases hi with rfl | rfl | hi
    · exact hg
    · exact o.mono (Nat.zero_le _)
    · exact h'.holds i hi
  · intro i hi x hx
    simp only [List.mem_cons] at hi
    rcases hi with rfl | rfl | hi
    · simp only [Blk, List.mem_singleton] at hx; subst hx; omega
    · have := o.inB hx; omega
    · exact h'.bound i hi x hx
  · intro j hj x hx hx'
    simp only [Blk, List.mem_singleton] at hx
    subst hx
    simp only [List.mem_cons] at hj
    rcases hj with rfl | hj
    · exact o.neB hg ti hx' rfl
    · have := hL j hj x hx'; omega
  · intro j hj x hx hx'
    have := (o.inB hx).1
    have := hL j hj x hx'
    omega
/- A store's variable, an answer's variable, the store's lists. -/
theorem Sta.addR3 {w wx wy : World} {L : List Item} (h : Sta w wx L) (b : Below wx.heap.size wx wy) {g k : Nat} {t s : TypeId} {cs ds : Array Value} {u v q : Value} {xs ys ks : List Int}
    (hg : StB wy g t cs) (hk : StB wy k s ds) (o : OwnR wy wx.heap.size u v q xs ys ks) (lg : wx.heap.size ≤ g) (lk : wx.heap.size ≤ k) (ts : t ≠ s) (ti : t ≠ 2) (si : s ≠ 2) :
    Sta w wy (Blk g t cs :: Blk k s ds :: Sto u v q xs ys ks :: L) := by
  have h' := h.addR b hk o lk si
  have sg := hg.lt
  have hgk := hg.typ hk ts
  have hL : ∀ j ∈ L, ∀ x ∈ j.blocks, x < wx.heap.size := fun j hj x hx => (h.bound j hj x hx).2
  have sz := h.below.size
  refine ⟨h'.below, ?_, ?_, ?_, ?_, h'.apart⟩
  · intro i hi
    rw [List.mem_cons] at hi
    rcases hi with rfl | hi
    · exact Nat.zero_le _
    · exact h'.olds i hi
  · intro i hi
    rw [List.mem_cons] at hi
    rcases hi with rfl | hi
    · exact hg
    · exact h'.holds i hi
  · intro i hi x hx
    rw [List.mem_cons] at hi
    rcases hi with rfl | hi
    · simp only [Blk, List.mem_singleton] at hx; subst hx; omega
    · exact h'.bound i hi x hx
  · intro j hj x hx hx'
    simp only [Blk, List.mem_singleton] at hx
    subst hx
    simp only [List.mem_cons] at hj
    rcases hj with rfl | rfl | hj
    · simp only [Blk, List.mem_singleton] at hx'; exact hgk hx'
    · exact o.neB hg ti hx' rfl
    · have := hL j hj x hx'; omega
end Go.Proofs.Ytpdggofaobmnlaa
