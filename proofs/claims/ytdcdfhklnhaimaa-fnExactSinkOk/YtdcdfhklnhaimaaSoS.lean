/- What stands while a sink is answered. -/
import Derived.Test.YtdcdfhklnhaimaaSSink
import Derived.Test.YtdcdfhklnhaimaaMine
namespace Go.Proofs.Ytdcdfhklnhaimaa
open Go.ChangeShapes Go.WideShapes Go.ChangeAt Go.RowKit

/- What stands while one of them is made: the one that was given (c), the answer's place, the one that will be answered (d, in block g). -/
structure SoS (w wx : World) (g : Nat) (v u : Value) (c d : Sn) : Prop where
  p : StB wx w.heap.size 26 (snA v c)
  q : StB wx (w.heap.size + 1) 26 zeroSn
  r : StB wx g 26 (snA u d)
  o : Mine wx w.heap.size u d.ts
  b : Below w.heap.size w wx
  l : w.heap.size + 1 < g
theorem SoS.start {w w2 w3 : World} {v u : Value} {c : Sn} (hp : StB w2 w.heap.size 26 (snA v c)) (hq : StB w2 (w.heap.size + 1) 26 zeroSn) (hb : Below w.heap.size w w2) (hs : w.heap.size + 1 < w2.heap.size) (o3 : Mine w3 w2.heap.size u c.ts) (b3 : Below w2.heap.size w2 w3) : SoS w (w3.alloc (.cells (snA u c) 26)) w3.heap.size v u c c := by
  have b4 : Below w3.heap.size w3 (w3.alloc (.cells (snA u c) 26)) := (Below.refl _ _).alloc (Nat.le_refl _) _
  exact ⟨(hp.below b3).below b4, (hq.below b3).below b4, StB.new _ _ _, (o3.below b4).mono (by omega), (hb.trans (b3.mono hb.size)).trans (b4.mono (Nat.le_trans hb.size b3.size)), Nat.lt_of_lt_of_le hs b3.size⟩
theorem SoS.below {w wx wy : World} {g : Nat} {v u : Value} {c d : Sn} (h : SoS w wx g v u c d) (b : Below wx.heap.size wx wy) : SoS w wy g v u c d :=
  ⟨h.p.below b, h.q.below b, h.r.below b, h.o.below b, h.b.trans (b.mono h.b.size), h.l⟩
/- A cell of the one that will be answered is written. -/
theorem SoS.put {w wx : World} {g : Nat} {v u : Value} {c d e : Sn} (h : SoS w wx g v u c d) (j : Nat) (x : Value) (he : (snA u d).setIfInBounds j x = snA u e) (ht : e.ts = d.ts) : SoS w (wx.setCell ⟨g, j, none⟩ x) g v u c e :=
  ⟨h.p.other _ _ (by have := h.l; show w.heap.size ≠ g; omega), h.q.other _ _ (by have := h.l; show w.heap.size + 1 ≠ g; omega), h.r.put j x he, by rw [ht]; exact h.o.set h.r (by decide) x, h.b.setCell (by have := h.l; show w.heap.size ≤ g; omega) _, h.l⟩
theorem SoS.fin {w wx wy : World} {g : Nat} {v u : Value} {c d : Sn} (h : SoS w wx g v u c d) (G : wx.grownBy wy (some (w.heap.size + 1))) : Mine wy w.heap.size u d.ts ∧ Below w.heap.size w wy :=
  ⟨h.o.putBy h.q (by decide) G, h.b.grown G h.b.size (fun k e => by cases e; omega)⟩
/- The one that will be answered has a list of its own, and that is written. -/
theorem SoS.row {w wx : World} {g r n cap : Nat} {v : Value} {c d : Sn} {j : Nat} {x : Int} (h : SoS w wx g v (.slice (some ⟨r, 0, none⟩) n cap) c d) (o : Own wx w.heap.size (.slice (some ⟨r, 0, none⟩) n cap) d.ts) (O : Own (wx.setCell ⟨r, j, none⟩ (.int .i64 x)) w.heap.size (.slice (some ⟨r, 0, none⟩) n cap) (d.ts.set j x)) : SoS w (wx.setCell ⟨r, j, none⟩ (.int .i64 x)) g v (.slice (some ⟨r, 0, none⟩) n cap) c { d with ts := d.ts.set j x } := by
  have hne : ∀ (k : Nat) (cs : Array Value), StB wx k 26 cs → k ≠ r := fun k cs hk e => o.ne hk (by decide) (by rw [e]; rfl)
  exact ⟨h.p.other _ _ (hne _ _ h.p), h.q.other _ _ (hne _ _ h.q), h.r.other _ _ (hne _ _ h.r), .inl O, h.b.setCell (o.lt r rfl).1 _, h.l⟩
theorem SoS.cells {w wx : World} {g : Nat} {v u : Value} {c d : Sn} (h : SoS w wx g v u c d) (j : Nat) {x : Value} (e : (snA u d)[j]? = some x) : wx.cell? ⟨g, j, none⟩ = some x ∧ wx.frozen? ⟨g, j, none⟩ = false := ⟨h.r.cell j e, h.r.frozen j⟩

end Go.Proofs.Ytdcdfhklnhaimaa
