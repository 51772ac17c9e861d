/- The state of the law on holdings: the holding that was drawn lies in block g, its keys can be read, what was there is as it was. -/
import Derived.Test.YtaipogenbaghpaaDrawHold3
import Derived.Test.YtaipogenbaghpaaSHold2
namespace Go.Proofs.Ytaipogenbaghpaa
open Go.ChangeShapes Go.WideShapes Go.ChangeAt Go.RowKit

def FH (w wx : World) (g : Nat) (u : Value) (h : Hd) : Prop := Below w.heap.size w wx ∧ StB wx g 26 (hdA u h) ∧ Reads wx u h.ks
theorem FH.next {w wx wy : World} {g : Nat} {u : Value} {h : Hd} (d : FH w wx g u h) (b : Below wx.heap.size wx wy) : FH w wy g u h :=
  ⟨d.1.trans (b.mono d.1.size), d.2.1.below b, d.2.2.below b (Nat.le_refl _)⟩
theorem FH.drew {w wx : World} {g : Nat} {u : Value} {h : Hd} (d : FH w wx g u h) : FH w wx.drew g u h := ⟨d.1.drew, d.2.1, d.2.2⟩
theorem FH.start {w wx : World} {u : Value} {h : Hd} (b : Below w.heap.size w wx) (r : Reads wx u h.ks) : FH w (wx.alloc (.cells (hdA u h) 26)) wx.heap.size u h :=
  ⟨b.alloc b.size _, StB.new wx _ _, r.below ((Below.refl _ _).alloc (Nat.le_refl _) _) (Nat.le_refl _)⟩
theorem FH.cell {w wx : World} {g : Nat} {u : Value} {h : Hd} (d : FH w wx g u h) (j : Nat) {x : Value} (e : (hdA u h)[j]? = some x) : wx.cell? ⟨g, j, none⟩ = some x := d.2.1.cell j e
end Go.Proofs.Ytaipogenbaghpaa
