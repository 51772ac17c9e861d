/- What the model does to a disk by a command: l11Did. -/
import Derived.Test.YtnnmcjgmnjokiaaDoorVol
import Derived.Test.YtnnmcjgmnjokiaaDoorSDisk
import Derived.Test.YtnnmcjgmnjokiaaDoorCmB
import Derived.Test.YtnnmcjgmnjokiaaDoorStB
import Derived.Deep.DeepCutAuto
namespace Go.Proofs.YtnnmcjgmnjokiaaDoor
open Go.ChangeShapes Go.WideShapes Go.ChangeAt Go.RowKit

theorem Tryd.isA : IsS 32 2 := ⟨⟨_, Tryd.underlying32⟩, by kernel_rfl⟩
theorem Tryd.isD : IsS 26 2 := ⟨⟨_, Tryd.underlying26⟩, by kernel_rfl⟩
def zeD : Array Value := #[.slice none 0 0, .slice none 0 0]
def zeA : Array Value := #[.int .i64 0, .string ⟨#[]⟩]
theorem anA_zero : zeA = anA ⟨0, []⟩ := rfl
theorem anA_one (x : An) : (anA x).all (·.oneCell') = true := by simp [anA, S, Value.oneCell']
theorem dkA_one {u v : Value} (hu : u.oneCell' = true) (hv : v.oneCell' = true) : (#[u, v] : Array Value).all (·.oneCell') = true := by simp [hu, hv]
/- Two results, each a struct in a variable of its own. -/
theorem results_DA {fn : Func} {p q : Tmp} (h : fn.results = #[.cell p 26, .cell q 32]) (tmps : Array Value) (w : World) (g k : Nat) (cs ds : Array Value) (hc : cs.size = 2) (hd : ds.size = 2)
    (hp : tmps.getD p undef = .pointer (some ⟨g, 0, none⟩)) (hq : tmps.getD q undef = .pointer (some ⟨k, 0, none⟩)) (h1 : StB w g 26 cs) (h2 : StB w k 32 ds) : (results fn tmps).run Tryd.prog w = .ok (.tuple #[.agg cs, .agg ds]) w := by
  have l1 := load_S Tryd.isD w g cs hc h1
  have l2 := load_S Tryd.isA w k ds hd h2
  have hp' : tmps[p]?.getD undef = .pointer (some ⟨g, 0, none⟩) := by simpa using hp
  have hq' : tmps[q]?.getD undef = .pointer (some ⟨k, 0, none⟩) := by simpa using hq
  simp [results, h, hp', hq', asAddr, l1, l2]
/- The boxes of the disk and of the command, the two results. -/
structure Vl (w wx : World) (u v : Value) (c : Cm) (d : Array Value) (x : An) : Prop where
  dk : StB wx w.heap.size 26 #[u, v]
  cm : CmB wx (w.heap.size + 1) 28 c
  rd : StB wx (w.heap.size + 1 + 1) 26 d
  ra : StB wx (w.heap.size + 1 + 1 + 1) 32 (anA x)
  bl : Below w.heap.size w wx
  sz : w.heap.size + 4 ≤ wx.heap.size
theorem Vl.start (w : World) (u v : Value) (c : Cm) : Vl w ((((w.alloc (.cells #[u, v] 26)).alloc (.cells (cmA c) 28)).alloc (.cells zeD 26)).alloc (.cells (anA ⟨0, []⟩) 32)) u v c zeD ⟨0, []⟩ := by
  have a1 := StB.new w 26 #[u, v]
  have a2 := CmB.new (w.alloc (.cells #[u, v] 26)) 28 c
  have a3 := StB.new ((w.alloc (.cells #[u, v] 26)).alloc (.cells (cmA c) 28)) 26 zeD
  have a4 := StB.new (((w.alloc (.cells #[u, v] 26)).alloc (.cells (cmA c) 28)).alloc (.cells zeD 26)) 32 (anA ⟨0, []⟩)
  simp only [World.size_alloc] at a2 a3 a4
  refine ⟨((a1.alloc _).alloc _).alloc _, (a2.alloc _).alloc _, a3.alloc _, a4, ?_, by simp⟩
  exact ((((Below.refl _ _).alloc (Nat.le_refl _) _).alloc (by simp) _).alloc (by simp; omega) _).alloc (by simp; omega) _
theorem Vl.next {w wx wy : World} {u v : Value} {c : Cm} {d : Array Value} {x : An} (h : Vl w wx u v c d x) (b : Below wx.heap.size wx wy) : Vl w wy u v c d x :=
  ⟨h.dk.below b, h.cm.below b, h.rd.below b, h.ra.below b, h.bl.trans (b.mono h.bl.size), Nat.le_trans h.sz b.size⟩
theorem Vl.grown {w wx wy : World} {u v : Value} {c : Cm} {d : Array Value} {x : An} {g : Nat} (h : Vl w wx u v c d x) (b : wx.grownBy wy (some g)) (hg : w.heap.size + 4 ≤ g) : Vl w wy u v c d x :=
  ⟨h.dk.kept b (by simp; omega), h.cm.kept b (by simp; omega), h.rd.kept b (by simp; omega), h.ra.kept b (by simp; omega), h.bl.grown b h.bl.size (fun k e => by cases e; omega), Nat.le_trans h.sz b.size⟩
theorem Vl.drew {w wx : World} {u v : Value} {c : Cm} {d : Array Value} {x : An} (h : Vl w wx u v c d x) : Vl w wx.drew u v c d x :=
  ⟨h.dk, h.cm, h.rd, h.ra, h.bl.drew, h.sz⟩
end Go.Proofs.YtnnmcjgmnjokiaaDoor
