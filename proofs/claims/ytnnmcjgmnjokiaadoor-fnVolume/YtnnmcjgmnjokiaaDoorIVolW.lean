/- Blocks by commands, the program: what a command of blocks writes (writtenTo). -/
import Derived.Test.YtnnmcjgmnjokiaaDoorSVol2
import Derived.Test.YtnnmcjgmnjokiaaDoorIDisk2
namespace Go.Proofs.YtnnmcjgmnjokiaaDoor
open Go.ChangeShapes Go.WideShapes Go.ChangeAt Go.RowKit

/- The boxes of the disk and of what is asked, the two results. -/
structure Bx (w wx : World) (u v : Value) (t : TypeId) (cs d : Array Value) (x : An) : Prop where
  dk : StB wx w.heap.size 26 #[u, v]
  cm : StB wx (w.heap.size + 1) t cs
  rd : StB wx (w.heap.size + 1 + 1) 26 d
  ra : StB wx (w.heap.size + 1 + 1 + 1) 32 (anA x)
  bl : Below w.heap.size w wx
  sz : w.heap.size + 4 ≤ wx.heap.size
theorem Bx.start (w : World) (u v : Value) (t : TypeId) (cs : Array Value) : Bx w ((((w.alloc (.cells #[u, v] 26)).alloc (.cells cs t)).alloc (.cells zeD 26)).alloc (.cells (anA ⟨0, []⟩) 32)) u v t cs zeD ⟨0, []⟩ := by
  have a1 := StB.new w 26 #[u, v]
  have a2 := StB.new (w.alloc (.cells #[u, v] 26)) t cs
  have a3 := StB.new ((w.alloc (.cells #[u, v] 26)).alloc (.cells cs t)) 26 zeD
  have a4 := StB.new (((w.alloc (.cells #[u, v] 26)).alloc (.cells cs t)).alloc (.cells zeD 26)) 32 (anA ⟨0, []⟩)
  simp only [World.size_alloc] at a2 a3 a4
  refine ⟨((a1.alloc _).alloc _).alloc _, (a2.alloc _).alloc _, a3.alloc _, a4, ?_, by simp⟩
  exact ((((Below.refl _ _).alloc (Nat.le_refl _) _).alloc (by simp) _).alloc (by simp; omega) _).alloc (by simp; omega) _
theorem Bx.next {w wx wy : World} {u v : Value} {t : TypeId} {cs d : Array Value} {x : An} (h : Bx w wx u v t cs d x) (b : Below wx.heap.size wx wy) : Bx w wy u v t cs d x :=
  ⟨h.dk.below b, h.cm.below b, h.rd.below b, h.ra.below b, h.bl.trans (b.mono h.bl.size), Nat.le_trans h.sz b.size⟩
theorem Bx.grown {w wx wy : World} {u v : Value} {t : TypeId} {cs d : Array Value} {x : An} {g : Nat} (h : Bx w wx u v t cs d x) (b : wx.grownBy wy (some g)) (hg : w.heap.size + 4 ≤ g) : Bx w wy u v t cs d x :=
  ⟨h.dk.kept b (by simp; omega), h.cm.kept b (by simp; omega), h.rd.kept b (by simp; omega), h.ra.kept b (by simp; omega), h.bl.grown b h.bl.size (fun k e => by cases e; omega), Nat.le_trans h.sz b.size⟩
theorem Bx.drew {w wx : World} {u v : Value} {t : TypeId} {cs d : Array Value} {x : An} (h : Bx w wx u v t cs d x) : Bx w wx.drew u v t cs d x :=
  ⟨h.dk, h.cm, h.rd, h.ra, h.bl.drew, h.sz⟩
/- What is answered: both results are stored. -/
theorem Bx.fin {w wx wy wz : World} {u v : Value} {t : TypeId} {cs d : Array Value} {x : An} {a b : Value} {xs ys : List Int} {base : Nat} (h : Bx w wx u v t cs d x) (oa : Own wx base a xs) (ob : Own wx base b ys) (hb : w.heap.size + 4 ≤ base) (ap : apart a b)
    (g5 : wx.grownBy wy (some (w.heap.size + 1 + 1))) (g6 : wy.grownBy wz (some (w.heap.size + 1 + 1 + 1))) : OwnD wz w.heap.size a b xs ys ∧ Below w.heap.size w wz := by
  refine ⟨⟨(((oa.keptLt g5 (by omega)).keptLt g6 (by omega))).mono (by omega), (((ob.keptLt g5 (by omega)).keptLt g6 (by omega))).mono (by omega), ap⟩, ?_⟩
  have b5 := h.bl.grown g5 h.bl.size (fun k e => by cases e; omega)
  exact b5.grown g6 b5.size (fun k e => by cases e; omega)

def wrA (b : Bool) : An := if b then ⟨0, []⟩ else ⟨1, []⟩

set_option maxRecDepth 20000 in
set_option maxHeartbeats 2000000 in
theorem iwrittenTo_any (u v : Value) (xs ys : List Int) (p x : Int) (w : World) (h : Reads w u xs) (h' : Reads w v ys) (gx : xs.length ≤ 1099511627776) (gy : ys.length ≤ 1099511627776) (hb : bothOk xs ys = true) :
    Calls Tryd.prog 57 #[.agg #[u, v], .agg #[.int .i64 p, .int .i64 x]] w fun e w' => ∃ a b, e = .returned (.tuple #[.agg #[a, b], AV (wrA (putB ys p x))]) ∧ OwnD w' w.heap.size a b xs (putI ys p x) ∧ Below w.heap.size w w' := by
  obtain ⟨w1, hw1⟩ : ∃ w1, w1 = (((w.alloc (.cells #[u, v] 26)).alloc (.cells #[.int .i64 p, .int .i64 x] 78)).alloc (.cells #[.slice none 0 0, .slice none 0 0] 26)).alloc (.cells #[.int .i64 0, .string ⟨#[]⟩] 32) := ⟨_, rfl⟩
  have HV : Hid (Bx w w1 u v 78 #[.int .i64 p, .int .i64 x] zeD ⟨0, []⟩) := by rw [hw1]; exact Bx.start w u v _ _
  have c1 := written_any u v xs ys p x w1 (h.below HV.out.bl (Nat.le_refl _)) (h'.below HV.out.bl (Nat.le_refl _)) gx gy
  have e1 : wrB xs ys p x = putB ys p x := by simp [wrB, hb]
  have e2 : wrK xs ys = xs := by simp [wrK, hb]
  have e3 : wrN xs ys p x = putI ys p x := by simp [wrN, hb]
  rw [e1, e2, e3] at c1
  obtain ⟨zs, hz⟩ : ∃ zs, zs = putI ys p x := ⟨_, rfl⟩
  obtain ⟨pb, hpb⟩ : ∃ pb, pb = putB ys p x := ⟨_, rfl⟩
  simp only [← hz, ← hpb] at c1 ⊢
  have m0 : w1.cell? ⟨w.heap.size + 1, 0, none⟩ = some (.int .i64 p) := HV.out.cm.cell 0 rfl
  have m1 : w1.cell? ⟨w.heap.size + 1, 1, none⟩ = some (.int .i64 x) := HV.out.cm.cell 1 rfl
  clear hb e1 e2 e3 hz hpb h h'
  go_enter Tryd.func57, Tryd.ntmps57
  go_upto_region 1 with fail
  rw [← hw1]
  clear hw1
  go_wp2_with (first | (refine wpList_getS Tryd.isD rfl _ rfl w.heap.size rfl _ rfl HV.out.dk ?_))
  refine c1.mono ?_
  rintro e w2 ⟨a, b, rfl, o2, b2⟩
  obtain ⟨w3, hw3⟩ : ∃ w3, w3 = w2.alloc (.cells #[.slice none 0 0, .slice none 0 0] 26) := ⟨_, rfl⟩
  have b3 : Below w2.heap.size w2 w3 := by rw [hw3]; exact belowAlloc w2 _
  have H3 : Hid (Bx w w3 u v 78 #[.int .i64 p, .int .i64 x] zeD ⟨0, []⟩) := (HV.out.next b2).next b3
  have hk : Hid (w.heap.size + 4 ≤ w2.heap.size) := Nat.le_trans HV.out.sz b2.size
  obtain ⟨ao, ac, rfl⟩ := o2.1.reads.form
  obtain ⟨bo, bc, rfl⟩ := o2.2.1.reads.form
  have O2 : Hid (Own w2 (w.heap.size + 4) (.slice ao xs.length ac) xs ∧ Own w2 (w.heap.size + 4) (.slice bo zs.length bc) zs ∧ apart (.slice ao xs.length ac) (.slice bo zs.length bc)) := ⟨o2.1.mono HV.out.sz, o2.2.1.mono HV.out.sz, o2.2.2⟩
  have s3 : Hid (StB w3 w2.heap.size 26 zeD) := by rw [hw3]; exact StB.new _ _ _
  have O3 : Hid (Own w3 (w.heap.size + 4) (.slice ao xs.length ac) xs ∧ Own w3 (w.heap.size + 4) (.slice bo zs.length bc) zs ∧ apart (.slice ao xs.length ac) (.slice bo zs.length bc)) := ⟨O2.out.1.below b3, O2.out.2.1.below b3, O2.out.2.2⟩
  have na : Hid ((Value.slice ao xs.length ac).ownBlock ≠ some w2.heap.size ∧ (Value.slice bo zs.length bc).ownBlock ≠ some w2.heap.size) := ⟨fun e => by have := (O2.out.1.lt _ e).2; omega, fun e => by have := (O2.out.2.1.lt _ e).2; omega⟩
  clear c1 o2 b2 HV m0 m1 O2 b3
  cases pb
  all_goals
    go_wp2_with (first
      | (rw [← hw3]; refine wpList_putS Tryd.isD rfl _ _ rfl w2.heap.size #[.slice ao xs.length ac, .slice bo zs.length bc] zeD rfl rfl rfl rfl (dkA_one rfl rfl) s3.out ?_; intro w4 s4 g4; clear hw3; have H4 : Hid (Bx w w4 u v 78 #[.int .i64 p, .int .i64 x] zeD ⟨0, []⟩) := H3.out.grown g4 hk.out)
      | (refine wpList_getS Tryd.isD rfl _ rfl w2.heap.size rfl _ rfl s4 ?_)
      | (refine wpList_putS Tryd.isD rfl _ _ rfl (w.heap.size + 1 + 1) #[.slice ao xs.length ac, .slice bo zs.length bc] zeD rfl rfl rfl rfl (dkA_one rfl rfl) H4.out.rd ?_; intro w5 s5 g5)
      | (refine wpList_putS Tryd.isA rfl _ _ rfl (w.heap.size + 1 + 1 + 1) (anA ⟨0, []⟩) (anA ⟨0, []⟩) rfl rfl rfl rfl (anA_one _) (H4.out.ra.kept g5 (by simp)) ?_; intro w6 s6 g6)
      | (refine wpList_putS Tryd.isA rfl _ _ rfl (w.heap.size + 1 + 1 + 1) (anA ⟨1, []⟩) (anA ⟨0, []⟩) rfl rfl rfl rfl (anA_one _) (H4.out.ra.kept g5 (by simp)) ?_; intro w6 s6 g6))
    refine bodyPost_ret (results_DA rfl _ _ (w.heap.size + 1 + 1) (w.heap.size + 1 + 1 + 1) _ _ rfl rfl rfl rfl (s5.kept g6 (by simp)) s6) rfl ?_
    exact ⟨_, _, rfl, H4.out.fin (O3.out.1.kept g4 (.inr na.out.1)) (O3.out.2.1.kept g4 (.inr na.out.2)) (Nat.le_refl _) O3.out.2.2 g5 g6⟩
end Go.Proofs.YtnnmcjgmnjokiaaDoor
