/- A house inside a block, behind a pointer to its first cell, its lists its own: what a hand on it leaves. -/
import Derived.Test.YteooloceaoinlaaDoorM20
import Derived.Test.YteooloceaoinlaaDoorM16
import Derived.Test.YteooloceaoinlaaDoorM9
import Derived.Test.YteooloceaoinlaaDoorM29
namespace Go.Proofs.YteooloceaoinlaaDoor
open Go.ChangeShapes Go.WideShapes Go.ChangeAt Go.RowKit

structure NdB (w : World) (g off : Nat) (t : TypeId) (cs : Array Value) (a b k q z : Value) (n : Nd) : Prop where
  st : StB w g t cs
  sz : off + 20 ≤ cs.size
  el : ∀ j, j < 20 → cs[off + j]? = (ndA a b k q z n)[j]?
theorem NdB.below {w w' : World} {g off : Nat} {t : TypeId} {cs : Array Value} {a b k q z : Value} {n : Nd} (h : NdB w g off t cs a b k q z n) (B : Below w.heap.size w w') : NdB w' g off t cs a b k q z n := ⟨h.st.below B, h.sz, h.el⟩
theorem NdB.turned {w w' : World} {g off : Nat} {t : TypeId} {cs : Array Value} {a b k q z : Value} {n : Nd} {bs : List Nat} (h : NdB w g off t cs a b k q z n) (ht : Turned w w' bs) (hn : g ∉ bs) : NdB w' g off t cs a b k q z n := ⟨h.st.turned ht hn, h.sz, h.el⟩
theorem NdB.cell {w : World} {g off : Nat} {t : TypeId} {cs : Array Value} {a b k q z : Value} {n : Nd} (h : NdB w g off t cs a b k q z n) (j : Nat) (hj : j < 20) {x : Value} (e : (ndA a b k q z n)[j]? = some x) : w.cell? ⟨g, off + j, none⟩ = some x := h.st.cell (off + j) (by rw [h.el j hj, e])
theorem NdB.frozen {w : World} {g off : Nat} {t : TypeId} {cs : Array Value} {a b k q z : Value} {n : Nd} (h : NdB w g off t cs a b k q z n) (j : Nat) : w.frozen? ⟨g, off + j, none⟩ = false := h.st.frozen (off + j)
theorem NdB.put {w : World} {g off : Nat} {t : TypeId} {cs : Array Value} {a b k q z a' b' k' q' z' : Value} {n n' : Nd} (h : NdB w g off t cs a b k q z n) (j : Nat) (hj : j < 20) (x : Value) (e : (ndA a b k q z n).setIfInBounds j x = ndA a' b' k' q' z' n') :
    NdB (w.setCell ⟨g, off + j, none⟩ x) g off t (cs.setIfInBounds (off + j) x) a' b' k' q' z' n' := by
  refine ⟨h.st.put (off + j) x rfl, by rw [Array.size_setIfInBounds]; exact h.sz, fun i hi => ?_⟩
  rw [← e, Array.getElem?_setIfInBounds, Array.getElem?_setIfInBounds]
  by_cases hij : j = i
  · subst hij
    have h1 : off + j < cs.size := by have := h.sz; omega
    have h2 : j < (ndA a b k q z n).size := hj
    simp [h1, h2]
  · rw [if_neg (by omega), if_neg hij]
    exact h.el i hi
/- Nothing else of the block is otherwise. -/
structure Only (cs cs' : Array Value) (off : Nat) : Prop where
  sz : cs'.size = cs.size
  el : ∀ i, i < off ∨ off + 20 ≤ i → cs'[i]? = cs[i]?
theorem Only.refl (cs : Array Value) (off : Nat) : Only cs cs off := ⟨rfl, fun _ _ => rfl⟩
theorem Only.trans {cs ds es : Array Value} {off : Nat} (h : Only cs ds off) (h' : Only ds es off) : Only cs es off := ⟨h'.sz.trans h.sz, fun i hi => (h'.el i hi).trans (h.el i hi)⟩
theorem Only.put (cs : Array Value) (off j : Nat) (hj : j < 20) (x : Value) : Only cs (cs.setIfInBounds (off + j) x) off := ⟨Array.size_setIfInBounds, fun i hi => by rw [Array.getElem?_setIfInBounds_ne (by omega)]⟩
def lists5 (a b k q z : Value) : List Nat := (((blk a ++ blk b) ++ blk k) ++ blk q) ++ blk z
/- What a hand leaves: of the block just this house, of all else just its own lists; what is new lies in new memory. -/
structure Hop (w w' : World) (g off : Nat) (cs cs' : Array Value) (L L' : List Nat) : Prop where
  on : Only cs cs' off
  tu : Turned w w' (g :: L)
  nw : ∀ x ∈ L', x ∈ L ∨ w.heap.size ≤ x
theorem Hop.refl (w : World) (g off : Nat) (cs : Array Value) (L : List Nat) : Hop w w g off cs cs L L := ⟨Only.refl _ _, Turned.refl _ _, fun _ h => .inl h⟩
theorem Hop.trans {w w1 w2 : World} {g off : Nat} {cs cs1 cs2 : Array Value} {L L1 L2 : List Nat} (h : Hop w w1 g off cs cs1 L L1) (h' : Hop w1 w2 g off cs1 cs2 L1 L2) : Hop w w2 g off cs cs2 L L2 := by
  refine ⟨h.on.trans h'.on, ⟨h'.tu.os.trans h.tu.os, h'.tu.tape.trans h.tu.tape, h'.tu.output.trans h.tu.output, Nat.le_trans h.tu.size h'.tu.size, fun k hk hn => ?_⟩, fun x hx => ?_⟩
  · rw [h'.tu.block k (Nat.lt_of_lt_of_le hk h.tu.size) (fun e => ?_), h.tu.block k hk hn]
    simp only [List.mem_cons] at e hn
    rcases e with e | e
    · exact hn (.inl e)
    · rcases h.nw k e with e | e
      · exact hn (.inr e)
      · omega
  · rcases h'.nw x hx with e | e
    · exact h.nw x e
    · exact .inr (Nat.le_trans h.tu.size e)
theorem Hop.below {w w1 w2 : World} {g off : Nat} {cs cs1 : Array Value} {L L1 : List Nat} (h : Hop w w1 g off cs cs1 L L1) (B : Below w1.heap.size w1 w2) : Hop w w2 g off cs cs1 L L1 :=
  h.trans ⟨Only.refl _ _, Turned.below _ B, fun _ h => .inl h⟩
/- A house of its own, inside a block. -/
structure Hs (w : World) (g off : Nat) (t : TypeId) (cs : Array Value) (a b k q z : Value) (n : Nd) : Prop where
  nb : NdB w g off t cs a b k q z n
  ow : OwnN w 0 a b k q z n
  ty : t ≠ 2
theorem Hs.below {w w' : World} {g off : Nat} {t : TypeId} {cs : Array Value} {a b k q z : Value} {n : Nd} (h : Hs w g off t cs a b k q z n) (B : Below w.heap.size w w') : Hs w' g off t cs a b k q z n := ⟨h.nb.below B, h.ow.below B, h.ty⟩
/- A cell of it is written. -/
theorem OwnN.set {w : World} {base g j : Nat} {t : TypeId} {cs : Array Value} {a b k q z : Value} {n : Nd} (h : OwnN w base a b k q z n) (s : StB w g t cs) (ty : t ≠ 2) (x : Value) : OwnN (w.setCell ⟨g, j, none⟩ x) base a b k q z n :=
  ⟨h.oa.putBy s ty (grownSet w g j x), h.ob.putBy s ty (grownSet w g j x), h.ok.putBy s ty (grownSet w g j x), h.oq.putBy s ty (grownSet w g j x), h.oz.putBy s ty (grownSet w g j x), h.ap⟩
theorem hop_put (w : World) (g off : Nat) (cs : Array Value) (L : List Nat) (j : Nat) (hj : j < 20) (x : Value) : Hop w (w.setCell ⟨g, off + j, none⟩ x) g off cs (cs.setIfInBounds (off + j) x) L L :=
  ⟨Only.put cs off j hj x, (Turned.of_grown (grownSet w g (off + j) x)).sub (by simp), fun _ h => .inl h⟩
end Go.Proofs.YteooloceaoinlaaDoor
/- Houses by the model: l15Down. -/
namespace Go.Proofs.YteooloceaoinlaaDoor
open Go.ChangeShapes Go.WideShapes Go.ChangeAt Go.RowKit

/- What is apart, two by two. -/
theorem pair5 {a b k q z : Value} : [z, q, k, b, a].Pairwise apart ↔ (apart z q ∧ apart z k ∧ apart z b ∧ apart z a) ∧ (apart q k ∧ apart q b ∧ apart q a) ∧ (apart k b ∧ apart k a) ∧ apart b a := by
  simp [List.pairwise_cons]
theorem apart_sym {u v : Value} (h : apart u v) : apart v u := ⟨h.2, h.1⟩
theorem apart_nil (u : Value) (n c : Nat) : apart u (.slice none n c) := ⟨by cases h : u.ownBlock with | none => exact .inl rfl | some x => exact .inr (by simp [Value.ownBlock]), .inl rfl⟩
/- The disk's two lists are new ones. -/
theorem OwnN.disk {w w' : World} {a b k q z u v : Value} {n n' : Nd} (h : OwnN w 0 a b k q z n) (B : Below w.heap.size w w') (o : OwnD w' w.heap.size u v n'.xs n'.ys) (hk : n'.h.ks = n.h.ks) (hq : n'.c.ts = n.c.ts) (hz : n'.s.ts = n.s.ts) : OwnN w' 0 u v k q z n' := by
  obtain ⟨⟨p1, p2, p3, p4⟩, ⟨p5, p6, p7⟩, ⟨p8, p9⟩, p0⟩ := pair5.1 h.ap
  have ak := fun y hy => (blk_new h.ok y hy).2
  have aq := fun y hy => (blk_new h.oq y hy).2
  have az := fun y hy => (blk_new h.oz y hy).2
  exact ⟨o.1.mono (Nat.zero_le _), o.2.1.mono (Nat.zero_le _), by rw [hk]; exact h.ok.below B, by rw [hq]; exact h.oq.below B, by rw [hz]; exact h.oz.below B,
    pair5.2 ⟨⟨p1, p2, apart_sym (apart_old az o.2.1), apart_sym (apart_old az o.1)⟩, ⟨p5, apart_sym (apart_old aq o.2.1), apart_sym (apart_old aq o.1)⟩, ⟨apart_sym (apart_old ak o.2.1), apart_sym (apart_old ak o.1)⟩, apart_sym o.2.2⟩⟩
/- It copies nothing, it takes nothing. -/
theorem OwnN.drop {w : World} {a b k q z : Value} {n : Nd} (h : OwnN w 0 a b k q z n) : OwnN w 0 a b k (.slice none 0 0) z { n with c := Cp.zero } := by
  obtain ⟨⟨p1, p2, p3, p4⟩, ⟨p5, p6, p7⟩, ⟨p8, p9⟩, p0⟩ := pair5.1 h.ap
  exact ⟨h.oa, h.ob, h.ok, Own.nil _ _, h.oz, pair5.2 ⟨⟨apart_nil _ _ _, p2, p3, p4⟩, ⟨apart_sym (apart_nil _ _ _), apart_sym (apart_nil _ _ _), apart_sym (apart_nil _ _ _)⟩, ⟨p8, p9⟩, p0⟩⟩
theorem OwnN.close {w : World} {a b k q z : Value} {n : Nd} (h : OwnN w 0 a b k q z n) : OwnN w 0 a b k q (.slice none 0 0) { n with s := Sn.zero } := by
  obtain ⟨⟨p1, p2, p3, p4⟩, ⟨p5, p6, p7⟩, ⟨p8, p9⟩, p0⟩ := pair5.1 h.ap
  exact ⟨h.oa, h.ob, h.ok, h.oq, Own.nil _ _, pair5.2 ⟨⟨apart_sym (apart_nil _ _ _), apart_sym (apart_nil _ _ _), apart_sym (apart_nil _ _ _), apart_sym (apart_nil _ _ _)⟩, ⟨p5, p6, p7⟩, ⟨p8, p9⟩, p0⟩⟩
/- A cell is written: all that stands of a house. -/
theorem Hs.put {w : World} {g off : Nat} {t : TypeId} {cs : Array Value} {a b k q z a' b' k' q' z' : Value} {n n' : Nd} (h : Hs w g off t cs a b k q z n) (j : Nat) (hj : j < 20) (x : Value) (e : (ndA a b k q z n).setIfInBounds j x = ndA a' b' k' q' z' n') (o : OwnN w 0 a' b' k' q' z' n') :
    Hs (w.setCell ⟨g, off + j, none⟩ x) g off t (cs.setIfInBounds (off + j) x) a' b' k' q' z' n' := ⟨h.nb.put j hj x e, o.set h.nb.st h.ty x, h.ty⟩

/- A house falls. -/

theorem NdB.as {w : World} {g off : Nat} {t : TypeId} {cs : Array Value} {a b k q z a' b' k' q' z' : Value} {n n' : Nd} (h : NdB w g off t cs a b k q z n) (e : ndA a b k q z n = ndA a' b' k' q' z' n') : NdB w g off t cs a' b' k' q' z' n' := ⟨h.st, h.sz, fun j hj => by rw [← e]; exact h.el j hj⟩

end Go.Proofs.YteooloceaoinlaaDoor
/- Houses by the model: l15Rise, l1Min. -/
namespace Go.Proofs.YteooloceaoinlaaDoor
open Go.ChangeShapes Go.WideShapes Go.ChangeAt Go.RowKit
end Go.Proofs.YteooloceaoinlaaDoor
