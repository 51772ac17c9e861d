/- How the laws take a house over. -/
import Derived.Test.YtlkkpolnllbljaaGreatDoorLNode
import Derived.Test.YtlkkpolnllbljaaGreatDoorM1
import Derived.ShutString
import Derived.ChangeOld
import Derived.Below
import Derived.ChangeSame
import Derived.Test.YtlkkpolnllbljaaGreatDoorM10
import Derived.Test.YtlkkpolnllbljaaGreatDoorM12
import Derived.Test.YtlkkpolnllbljaaGreatDoorM9
import Derived.Test.YtlkkpolnllbljaaGreatDoorM8
namespace Go.Proofs.YtlkkpolnllbljaaGreatDoor
open Go.ChangeShapes Go.WideShapes Go.ChangeAt Go.RowKit

/- What stands while a house is taken over. -/
structure LS (w wx : World) (g : Nat) (ps cs : Array Value) : Prop where
  p : StB wx w.heap.size 34 ps
  r : StB wx (w.heap.size + 1) 42 zeroNd
  o : StB wx g 42 cs
  b : Below w.heap.size w wx
  l : w.heap.size + 1 < g
theorem LS.below {w wx wy : World} {g : Nat} {ps cs : Array Value} (h : LS w wx g ps cs) (B : Below wx.heap.size wx wy) : LS w wy g ps cs :=
  ⟨h.p.below B, h.r.below B, h.o.below B, h.b.trans (B.mono h.b.size), h.l⟩
theorem LS.put {w wx : World} {g : Nat} {ps cs ds : Array Value} (h : LS w wx g ps cs) (j : Nat) (x : Value) (e : cs.setIfInBounds j x = ds) : LS w (wx.setCell ⟨g, j, none⟩ x) g ps ds :=
  ⟨h.p.other _ _ (by have := h.l; show w.heap.size ≠ g; omega), h.r.other _ _ (by have := h.l; show w.heap.size + 1 ≠ g; omega), h.o.put j x e, h.b.setCell (by have := h.l; show w.heap.size ≤ g; omega) _, h.l⟩
theorem LS.start {w w1 : World} {ps cs : Array Value} (hw1 : w1 = ((w.alloc (.cells ps 34)).alloc (.cells zeroNd 42)).alloc (.cells cs 42)) : LS w w1 (w.heap.size + 1 + 1) ps cs := by
  have r1 := StB.new (w.alloc (.cells ps 34)) 42 zeroNd
  rw [World.size_alloc] at r1
  have o1 := StB.new ((w.alloc (.cells ps 34)).alloc (.cells zeroNd 42)) 42 cs
  rw [World.size_alloc, World.size_alloc] at o1
  rw [hw1]
  exact ⟨((StB.new w _ _).alloc _).alloc _, r1.alloc _, o1, (((Below.refl _ _).alloc (Nat.le_refl _) _).alloc (by simp) _).alloc (by simp; omega) _, by omega⟩

set_option maxRecDepth 20000 in
set_option maxHeartbeats 8000000 in
theorem toNode_any (a b k q z : Value) (n : Nd) (w : World) (hr : RdN w a b k q z n) (hl : SmN n) :
    Calls Tryz.prog 6 #[NdV a b k q z n] w fun e w' => ∃ a' b' k' q' z', e = .returned (NdV a' b' k' q' z' n) ∧ OwnN w' w.heap.size a' b' k' q' z' n ∧ Below w.heap.size w w' := by
  have HR : Hid (∀ wx, Below w.heap.size w wx → RdN wx a b k q z n) := fun wx B => hr.below B
  have C1 : Hid (∀ wx, Below w.heap.size w wx → Calls Tryz.prog 19 #[.agg #[a, b]] wx fun e w' => ∃ u v, e = .returned (.agg #[u, v]) ∧ OwnD w' wx.heap.size u v n.xs n.ys ∧ Below wx.heap.size wx w') := fun wx B => toDisk_any a b n.xs n.ys wx (HR.out wx B).ra (HR.out wx B).rb (by have := hl.la; omega) (by have := hl.lb; omega)
  have C2 : Hid (∀ wx, Below w.heap.size w wx → Calls Tryz.prog 20 #[HV k n.h] wx fun e w' => ∃ u, e = .returned (HV u n.h) ∧ Own w' wx.heap.size u n.h.ks ∧ Below wx.heap.size wx w') := fun wx B => toHolding_any k n.h wx (HR.out wx B).rk (by have := hl.lk; omega)
  have CR : Hid (∀ wx, Calls Tryz.prog 21 #[RV n.r] wx fun e w' => e = .returned (RV n.r) ∧ Below wx.heap.size wx w') := fun wx => toRecord_any n.r wx
  have C3 : Hid (∀ wx, Below w.heap.size w wx → Calls Tryz.prog 22 #[CpV q n.c] wx fun e w' => ∃ u, e = .returned (CpV u n.c) ∧ Own w' wx.heap.size u n.c.ts ∧ Below wx.heap.size wx w') := fun wx B => toCopier_any q n.c wx (HR.out wx B).rq (by have := hl.lq; omega)
  have C4 : Hid (∀ wx, Below w.heap.size w wx → Calls Tryz.prog 23 #[SnV z n.s] wx fun e w' => ∃ u, e = .returned (SnV u n.s) ∧ Own w' wx.heap.size u n.s.ts ∧ Below wx.heap.size wx w') := fun wx B => toSink_any z n.s wx (HR.out wx B).rz (by have := hl.lz; omega)
  obtain ⟨a1, a2, rfl⟩ := reads_form hr.ra
  obtain ⟨b1, b2, rfl⟩ := reads_form hr.rb
  obtain ⟨k1, k2, rfl⟩ := reads_form hr.rk
  obtain ⟨q1, q2, rfl⟩ := reads_form hr.rq
  obtain ⟨z1, z2, rfl⟩ := reads_form hr.rz
  clear hr HR hl
  obtain ⟨w1, hw1⟩ : ∃ w1, w1 = ((w.alloc (.cells #[.int .i64 n.id, .bool n.up, .slice a1 n.xs.length a2, .slice b1 n.ys.length b2, .slice k1 n.h.ks.length k2, .int .i64 n.h.kd, .int .i64 n.h.ho, .int .i64 n.h.tu, .string ⟨n.log.toArray⟩, .int .i64 n.r.e, .int .i64 n.r.s, .int .i64 n.r.t, .int .i64 n.r.n, .int .i64 n.c.tr, .bool n.c.op, .int .i64 n.c.di, .int .i64 n.c.wa, .slice q1 n.c.ts.length q2, .int .i64 n.s.tr, .slice z1 n.s.ts.length z2] 34)).alloc (.cells #[.int .i64 0, .bool false, .slice none 0 0, .slice none 0 0, .slice none 0 0, .int .i64 0, .int .i64 0, .int .i64 0, .string ⟨#[]⟩, .int .i64 0, .int .i64 0, .int .i64 0, .int .i64 0, .int .i64 0, .bool false, .int .i64 0, .int .i64 0, .slice none 0 0, .int .i64 0, .slice none 0 0] 42)).alloc (.cells #[.int .i64 n.id, .bool n.up, .slice none 0 0, .slice none 0 0, .slice none 0 0, .int .i64 0, .int .i64 0, .int .i64 0, .string ⟨#[]⟩, .int .i64 0, .int .i64 0, .int .i64 0, .int .i64 0, .int .i64 0, .bool false, .int .i64 0, .int .i64 0, .slice none 0 0, .int .i64 0, .slice none 0 0] 42) := ⟨_, rfl⟩
  have HN : Hid (LS w w1 (w.heap.size + 1 + 1) #[.int .i64 n.id, .bool n.up, .slice a1 n.xs.length a2, .slice b1 n.ys.length b2, .slice k1 n.h.ks.length k2, .int .i64 n.h.kd, .int .i64 n.h.ho, .int .i64 n.h.tu, .string ⟨n.log.toArray⟩, .int .i64 n.r.e, .int .i64 n.r.s, .int .i64 n.r.t, .int .i64 n.r.n, .int .i64 n.c.tr, .bool n.c.op, .int .i64 n.c.di, .int .i64 n.c.wa, .slice q1 n.c.ts.length q2, .int .i64 n.s.tr, .slice z1 n.s.ts.length z2] #[.int .i64 n.id, .bool n.up, .slice none 0 0, .slice none 0 0, .slice none 0 0, .int .i64 0, .int .i64 0, .int .i64 0, .string ⟨#[]⟩, .int .i64 0, .int .i64 0, .int .i64 0, .int .i64 0, .int .i64 0, .bool false, .int .i64 0, .int .i64 0, .slice none 0 0, .int .i64 0, .slice none 0 0]) := LS.start hw1
  unfold HV hdA at C2
  unfold RV recA at CR
  unfold CpV cpA at C3
  unfold SnV snA at C4
  unfold NdV
  conv in ndA (.slice a1 n.xs.length a2) _ _ _ _ _ => unfold ndA S
  go_enter Tryz.func6, Tryz.ntmps6
  go_upto_region 4 with fail
  rw [← hw1]
  clear hw1
  obtain ⟨g, hg⟩ : ∃ g, g = w.heap.size + 1 + 1 := ⟨_, rfl⟩
  rw [← hg] at HN ⊢
  clear hg
  have p2 : w1.cell? ⟨w.heap.size, 2, none⟩ = some (.slice a1 n.xs.length a2) := HN.out.p.cell 2 rfl
  have p3 : w1.cell? ⟨w.heap.size, 3, none⟩ = some (.slice b1 n.ys.length b2) := HN.out.p.cell 3 rfl
  go_wp2_with fail
  refine (C1.out w1 HN.out.b).mono ?_
  rintro e w2 ⟨u, v, rfl, o1, bx⟩
  obtain ⟨c1, d1, rfl⟩ := reads_form o1.1.reads
  obtain ⟨c2, d2, rfl⟩ := reads_form o1.2.1.reads
  have O : Hid (Own w2 (g + 1) (.slice c1 n.xs.length d1) n.xs ∧ Own w2 (g + 1) (.slice c2 n.ys.length d2) n.ys ∧ [Value.slice c2 n.ys.length d2, Value.slice c1 n.xs.length d1].Pairwise apart) := ⟨o1.1.mono HN.out.o.lt, o1.2.1.mono HN.out.o.lt, pair_two o1.2.2⟩
  clear o1
  replace HN : Hid (LS w w2 g #[.int .i64 n.id, .bool n.up, .slice a1 n.xs.length a2, .slice b1 n.ys.length b2, .slice k1 n.h.ks.length k2, .int .i64 n.h.kd, .int .i64 n.h.ho, .int .i64 n.h.tu, .string ⟨n.log.toArray⟩, .int .i64 n.r.e, .int .i64 n.r.s, .int .i64 n.r.t, .int .i64 n.r.n, .int .i64 n.c.tr, .bool n.c.op, .int .i64 n.c.di, .int .i64 n.c.wa, .slice q1 n.c.ts.length q2, .int .i64 n.s.tr, .slice z1 n.s.ts.length z2] #[.int .i64 n.id, .bool n.up, .slice none 0 0, .slice none 0 0, .slice none 0 0, .int .i64 0, .int .i64 0, .int .i64 0, .string ⟨#[]⟩, .int .i64 0, .int .i64 0, .int .i64 0, .int .i64 0, .int .i64 0, .bool false, .int .i64 0, .int .i64 0, .slice none 0 0, .int .i64 0, .slice none 0 0]) := HN.out.below bx
  clear bx C1 p2 p3
  have s2 : w2.cell? ⟨g, 2, none⟩ = some (.slice none 0 0) := HN.out.o.cell 2 rfl
  have f2 := HN.out.o.frozen 2
  have s3 : w2.cell? ⟨g, 3, none⟩ = some (.slice none 0 0) := HN.out.o.cell 3 rfl
  have f3 := HN.out.o.frozen 3
  obtain ⟨w3, hw3⟩ : ∃ w3, w3 = ((w2.setCell ⟨g, 2, none⟩ (.slice c1 n.xs.length d1)).setCell ⟨g, 3, none⟩ (.slice c2 n.ys.length d2)) := ⟨_, rfl⟩
  have HN' : Hid (LS w w3 g #[.int .i64 n.id, .bool n.up, .slice a1 n.xs.length a2, .slice b1 n.ys.length b2, .slice k1 n.h.ks.length k2, .int .i64 n.h.kd, .int .i64 n.h.ho, .int .i64 n.h.tu, .string ⟨n.log.toArray⟩, .int .i64 n.r.e, .int .i64 n.r.s, .int .i64 n.r.t, .int .i64 n.r.n, .int .i64 n.c.tr, .bool n.c.op, .int .i64 n.c.di, .int .i64 n.c.wa, .slice q1 n.c.ts.length q2, .int .i64 n.s.tr, .slice z1 n.s.ts.length z2] #[.int .i64 n.id, .bool n.up, .slice c1 n.xs.length d1, .slice c2 n.ys.length d2, .slice none 0 0, .int .i64 0, .int .i64 0, .int .i64 0, .string ⟨#[]⟩, .int .i64 0, .int .i64 0, .int .i64 0, .int .i64 0, .int .i64 0, .bool false, .int .i64 0, .int .i64 0, .slice none 0 0, .int .i64 0, .slice none 0 0]) := by rw [hw3]; exact ((HN.out.put 2 (.slice c1 n.xs.length d1) rfl).put 3 (.slice c2 n.ys.length d2) rfl)
  replace O : Hid (Own w3 (g + 1) (.slice c1 n.xs.length d1) n.xs ∧ Own w3 (g + 1) (.slice c2 n.ys.length d2) n.ys ∧ [Value.slice c2 n.ys.length d2, Value.slice c1 n.xs.length d1].Pairwise apart) := by
    rw [hw3]
    exact ⟨((O.out.1.setLt (Nat.lt_succ_self g) 2 _).setLt (Nat.lt_succ_self g) 3 _), ((O.out.2.1.setLt (Nat.lt_succ_self g) 2 _).setLt (Nat.lt_succ_self g) 3 _), O.out.2.2⟩
  go_upto_region 5 with fail
  rw [← hw3]
  clear hw3 HN s2 f2 s3 f3
  have HN := HN'
  clear HN'
  have p4 : w3.cell? ⟨w.heap.size, 4, none⟩ = some (.slice k1 n.h.ks.length k2) := HN.out.p.cell 4 rfl
  have p5 : w3.cell? ⟨w.heap.size, 5, none⟩ = some (.int .i64 n.h.kd) := HN.out.p.cell 5 rfl
  have p6 : w3.cell? ⟨w.heap.size, 6, none⟩ = some (.int .i64 n.h.ho) := HN.out.p.cell 6 rfl
  have p7 : w3.cell? ⟨w.heap.size, 7, none⟩ = some (.int .i64 n.h.tu) := HN.out.p.cell 7 rfl
  go_wp2_with fail
  refine (C2.out w3 HN.out.b).mono ?_
  rintro e w4 ⟨u, rfl, o2, bx⟩
  obtain ⟨c3, d3, rfl⟩ := reads_form o2.reads
  have O' : Hid (Own w4 (g + 1) (.slice c1 n.xs.length d1) n.xs ∧ Own w4 (g + 1) (.slice c2 n.ys.length d2) n.ys ∧ Own w4 (g + 1) (.slice c3 n.h.ks.length d3) n.h.ks ∧ [Value.slice c3 n.h.ks.length d3, Value.slice c2 n.ys.length d2, Value.slice c1 n.xs.length d1].Pairwise apart) := by
    refine ⟨(O.out.1).below bx, (O.out.2.1).below bx, o2.mono HN.out.o.lt, pair_more (O.out.2.2) (fun x hx => ?_) o2⟩
    simp only [List.mem_cons, List.not_mem_nil, or_false] at hx
    rcases hx with rfl | rfl
    · exact fun y hy => (blk_new (O.out.2.1) y hy).2
    · exact fun y hy => (blk_new (O.out.1) y hy).2
  clear O o2
  have O := O'
  clear O'
  replace HN : Hid (LS w w4 g #[.int .i64 n.id, .bool n.up, .slice a1 n.xs.length a2, .slice b1 n.ys.length b2, .slice k1 n.h.ks.length k2, .int .i64 n.h.kd, .int .i64 n.h.ho, .int .i64 n.h.tu, .string ⟨n.log.toArray⟩, .int .i64 n.r.e, .int .i64 n.r.s, .int .i64 n.r.t, .int .i64 n.r.n, .int .i64 n.c.tr, .bool n.c.op, .int .i64 n.c.di, .int .i64 n.c.wa, .slice q1 n.c.ts.length q2, .int .i64 n.s.tr, .slice z1 n.s.ts.length z2] #[.int .i64 n.id, .bool n.up, .slice c1 n.xs.length d1, .slice c2 n.ys.length d2, .slice none 0 0, .int .i64 0, .int .i64 0, .int .i64 0, .string ⟨#[]⟩, .int .i64 0, .int .i64 0, .int .i64 0, .int .i64 0, .int .i64 0, .bool false, .int .i64 0, .int .i64 0, .slice none 0 0, .int .i64 0, .slice none 0 0]) := HN.out.below bx
  clear bx C2 p4 p5 p6 p7
  have s4 : w4.cell? ⟨g, 4, none⟩ = some (.slice none 0 0) := HN.out.o.cell 4 rfl
  have f4 := HN.out.o.frozen 4
  have s5 : w4.cell? ⟨g, 5, none⟩ = some (.int .i64 0) := HN.out.o.cell 5 rfl
  have f5 := HN.out.o.frozen 5
  have s6 : w4.cell? ⟨g, 6, none⟩ = some (.int .i64 0) := HN.out.o.cell 6 rfl
  have f6 := HN.out.o.frozen 6
  have s7 : w4.cell? ⟨g, 7, none⟩ = some (.int .i64 0) := HN.out.o.cell 7 rfl
  have f7 := HN.out.o.frozen 7
  obtain ⟨w5, hw5⟩ : ∃ w5, w5 = ((((w4.setCell ⟨g, 4, none⟩ (.slice c3 n.h.ks.length d3)).setCell ⟨g, 5, none⟩ (.int .i64 n.h.kd)).setCell ⟨g, 6, none⟩ (.int .i64 n.h.ho)).setCell ⟨g, 7, none⟩ (.int .i64 n.h.tu)) := ⟨_, rfl⟩
  have HN' : Hid (LS w w5 g #[.int .i64 n.id, .bool n.up, .slice a1 n.xs.length a2, .slice b1 n.ys.length b2, .slice k1 n.h.ks.length k2, .int .i64 n.h.kd, .int .i64 n.h.ho, .int .i64 n.h.tu, .string ⟨n.log.toArray⟩, .int .i64 n.r.e, .int .i64 n.r.s, .int .i64 n.r.t, .int .i64 n.r.n, .int .i64 n.c.tr, .bool n.c.op, .int .i64 n.c.di, .int .i64 n.c.wa, .slice q1 n.c.ts.length q2, .int .i64 n.s.tr, .slice z1 n.s.ts.length z2] #[.int .i64 n.id, .bool n.up, .slice c1 n.xs.length d1, .slice c2 n.ys.length d2, .slice c3 n.h.ks.length d3, .int .i64 n.h.kd, .int .i64 n.h.ho, .int .i64 n.h.tu, .string ⟨#[]⟩, .int .i64 0, .int .i64 0, .int .i64 0, .int .i64 0, .int .i64 0, .bool false, .int .i64 0, .int .i64 0, .slice none 0 0, .int .i64 0, .slice none 0 0]) := by rw [hw5]; exact ((((HN.out.put 4 (.slice c3 n.h.ks.length d3) rfl).put 5 (.int .i64 n.h.kd) rfl).put 6 (.int .i64 n.h.ho) rfl).put 7 (.int .i64 n.h.tu) rfl)
  replace O : Hid (Own w5 (g + 1) (.slice c1 n.xs.length d1) n.xs ∧ Own w5 (g + 1) (.slice c2 n.ys.length d2) n.ys ∧ Own w5 (g + 1) (.slice c3 n.h.ks.length d3) n.h.ks ∧ [Value.slice c3 n.h.ks.length d3, Value.slice c2 n.ys.length d2, Value.slice c1 n.xs.length d1].Pairwise apart) := by
    rw [hw5]
    exact ⟨((((O.out.1.setLt (Nat.lt_succ_self g) 4 _).setLt (Nat.lt_succ_self g) 5 _).setLt (Nat.lt_succ_self g) 6 _).setLt (Nat.lt_succ_self g) 7 _), ((((O.out.2.1.setLt (Nat.lt_succ_self g) 4 _).setLt (Nat.lt_succ_self g) 5 _).setLt (Nat.lt_succ_self g) 6 _).setLt (Nat.lt_succ_self g) 7 _), ((((O.out.2.2.1.setLt (Nat.lt_succ_self g) 4 _).setLt (Nat.lt_succ_self g) 5 _).setLt (Nat.lt_succ_self g) 6 _).setLt (Nat.lt_succ_self g) 7 _), O.out.2.2.2⟩
  go_upto_region 6 with fail
  rw [← hw5]
  clear hw5 HN s4 f4 s5 f5 s6 f6 s7 f7
  have HN := HN'
  clear HN'
  have p8 : w5.cell? ⟨w.heap.size, 8, none⟩ = some (.string ⟨n.log.toArray⟩) := HN.out.p.cell 8 rfl
  have s8 : w5.cell? ⟨g, 8, none⟩ = some (.string ⟨#[]⟩) := HN.out.o.cell 8 rfl
  have f8 := HN.out.o.frozen 8
  obtain ⟨w6, hw6⟩ : ∃ w6, w6 = (w5.setCell ⟨g, 8, none⟩ (.string ⟨n.log.toArray⟩)) := ⟨_, rfl⟩
  have HN' : Hid (LS w w6 g #[.int .i64 n.id, .bool n.up, .slice a1 n.xs.length a2, .slice b1 n.ys.length b2, .slice k1 n.h.ks.length k2, .int .i64 n.h.kd, .int .i64 n.h.ho, .int .i64 n.h.tu, .string ⟨n.log.toArray⟩, .int .i64 n.r.e, .int .i64 n.r.s, .int .i64 n.r.t, .int .i64 n.r.n, .int .i64 n.c.tr, .bool n.c.op, .int .i64 n.c.di, .int .i64 n.c.wa, .slice q1 n.c.ts.length q2, .int .i64 n.s.tr, .slice z1 n.s.ts.length z2] #[.int .i64 n.id, .bool n.up, .slice c1 n.xs.length d1, .slice c2 n.ys.length d2, .slice c3 n.h.ks.length d3, .int .i64 n.h.kd, .int .i64 n.h.ho, .int .i64 n.h.tu, .string ⟨n.log.toArray⟩, .int .i64 0, .int .i64 0, .int .i64 0, .int .i64 0, .int .i64 0, .bool false, .int .i64 0, .int .i64 0, .slice none 0 0, .int .i64 0, .slice none 0 0]) := by rw [hw6]; exact (HN.out.put 8 (.string ⟨n.log.toArray⟩) rfl)
  replace O : Hid (Own w6 (g + 1) (.slice c1 n.xs.length d1) n.xs ∧ Own w6 (g + 1) (.slice c2 n.ys.length d2) n.ys ∧ Own w6 (g + 1) (.slice c3 n.h.ks.length d3) n.h.ks ∧ [Value.slice c3 n.h.ks.length d3, Value.slice c2 n.ys.length d2, Value.slice c1 n.xs.length d1].Pairwise apart) := by
    rw [hw6]
    exact ⟨(O.out.1.setLt (Nat.lt_succ_self g) 8 _), (O.out.2.1.setLt (Nat.lt_succ_self g) 8 _), (O.out.2.2.1.setLt (Nat.lt_succ_self g) 8 _), O.out.2.2.2⟩
  go_upto_region 7 with fail
  rw [← hw6]
  clear hw6 HN s8 f8 p8
  have HN := HN'
  clear HN'
  have p9 : w6.cell? ⟨w.heap.size, 9, none⟩ = some (.int .i64 n.r.e) := HN.out.p.cell 9 rfl
  have p10 : w6.cell? ⟨w.heap.size, 10, none⟩ = some (.int .i64 n.r.s) := HN.out.p.cell 10 rfl
  have p11 : w6.cell? ⟨w.heap.size, 11, none⟩ = some (.int .i64 n.r.t) := HN.out.p.cell 11 rfl
  have p12 : w6.cell? ⟨w.heap.size, 12, none⟩ = some (.int .i64 n.r.n) := HN.out.p.cell 12 rfl
  go_wp2_with fail
  refine (CR.out w6).mono ?_
  rintro e w7 ⟨rfl, bx⟩
  replace O : Hid (Own w7 (g + 1) (.slice c1 n.xs.length d1) n.xs ∧ Own w7 (g + 1) (.slice c2 n.ys.length d2) n.ys ∧ Own w7 (g + 1) (.slice c3 n.h.ks.length d3) n.h.ks ∧ [Value.slice c3 n.h.ks.length d3, Value.slice c2 n.ys.length d2, Value.slice c1 n.xs.length d1].Pairwise apart) := ⟨(O.out.1).below bx, (O.out.2.1).below bx, (O.out.2.2.1).below bx, O.out.2.2.2⟩
  replace HN : Hid (LS w w7 g #[.int .i64 n.id, .bool n.up, .slice a1 n.xs.length a2, .slice b1 n.ys.length b2, .slice k1 n.h.ks.length k2, .int .i64 n.h.kd, .int .i64 n.h.ho, .int .i64 n.h.tu, .string ⟨n.log.toArray⟩, .int .i64 n.r.e, .int .i64 n.r.s, .int .i64 n.r.t, .int .i64 n.r.n, .int .i64 n.c.tr, .bool n.c.op, .int .i64 n.c.di, .int .i64 n.c.wa, .slice q1 n.c.ts.length q2, .int .i64 n.s.tr, .slice z1 n.s.ts.length z2] #[.int .i64 n.id, .bool n.up, .slice c1 n.xs.length d1, .slice c2 n.ys.length d2, .slice c3 n.h.ks.length d3, .int .i64 n.h.kd, .int .i64 n.h.ho, .int .i64 n.h.tu, .string ⟨n.log.toArray⟩, .int .i64 0, .int .i64 0, .int .i64 0, .int .i64 0, .int .i64 0, .bool false, .int .i64 0, .int .i64 0, .slice none 0 0, .int .i64 0, .slice none 0 0]) := HN.out.below bx
  clear bx CR p9 p10 p11 p12
  have s9 : w7.cell? ⟨g, 9, none⟩ = some (.int .i64 0) := HN.out.o.cell 9 rfl
  have f9 := HN.out.o.frozen 9
  have s10 : w7.cell? ⟨g, 10, none⟩ = some (.int .i64 0) := HN.out.o.cell 10 rfl
  have f10 := HN.out.o.frozen 10
  have s11 : w7.cell? ⟨g, 11, none⟩ = some (.int .i64 0) := HN.out.o.cell 11 rfl
  have f11 := HN.out.o.frozen 11
  have s12 : w7.cell? ⟨g, 12, none⟩ = some (.int .i64 0) := HN.out.o.cell 12 rfl
  have f12 := HN.out.o.frozen 12
  obtain ⟨w8, hw8⟩ : ∃ w8, w8 = ((((w7.setCell ⟨g, 9, none⟩ (.int .i64 n.r.e)).setCell ⟨g, 10, none⟩ (.int .i64 n.r.s)).setCell ⟨g, 11, none⟩ (.int .i64 n.r.t)).setCell ⟨g, 12, none⟩ (.int .i64 n.r.n)) := ⟨_, rfl⟩
  have HN' : Hid (LS w w8 g #[.int .i64 n.id, .bool n.up, .slice a1 n.xs.length a2, .slice b1 n.ys.length b2, .slice k1 n.h.ks.length k2, .int .i64 n.h.kd, .int .i64 n.h.ho, .int .i64 n.h.tu, .string ⟨n.log.toArray⟩, .int .i64 n.r.e, .int .i64 n.r.s, .int .i64 n.r.t, .int .i64 n.r.n, .int .i64 n.c.tr, .bool n.c.op, .int .i64 n.c.di, .int .i64 n.c.wa, .slice q1 n.c.ts.length q2, .int .i64 n.s.tr, .slice z1 n.s.ts.length z2] #[.int .i64 n.id, .bool n.up, .slice c1 n.xs.length d1, .slice c2 n.ys.length d2, .slice c3 n.h.ks.length d3, .int .i64 n.h.kd, .int .i64 n.h.ho, .int .i64 n.h.tu, .string ⟨n.log.toArray⟩, .int .i64 n.r.e, .int .i64 n.r.s, .int .i64 n.r.t, .int .i64 n.r.n, .int .i64 0, .bool false, .int .i64 0, .int .i64 0, .slice none 0 0, .int .i64 0, .slice none 0 0]) := by rw [hw8]; exact ((((HN.out.put 9 (.int .i64 n.r.e) rfl).put 10 (.int .i64 n.r.s) rfl).put 11 (.int .i64 n.r.t) rfl).put 12 (.int .i64 n.r.n) rfl)
  replace O : Hid (Own w8 (g + 1) (.slice c1 n.xs.length d1) n.xs ∧ Own w8 (g + 1) (.slice c2 n.ys.length d2) n.ys ∧ Own w8 (g + 1) (.slice c3 n.h.ks.length d3) n.h.ks ∧ [Value.slice c3 n.h.ks.length d3, Value.slice c2 n.ys.length d2, Value.slice c1 n.xs.length d1].Pairwise apart) := by
    rw [hw8]
    exact ⟨((((O.out.1.setLt (Nat.lt_succ_self g) 9 _).setLt (Nat.lt_succ_self g) 10 _).setLt (Nat.lt_succ_self g) 11 _).setLt (Nat.lt_succ_self g) 12 _), ((((O.out.2.1.setLt (Nat.lt_succ_self g) 9 _).setLt (Nat.lt_succ_self g) 10 _).setLt (Nat.lt_succ_self g) 11 _).setLt (Nat.lt_succ_self g) 12 _), ((((O.out.2.2.1.setLt (Nat.lt_succ_self g) 9 _).setLt (Nat.lt_succ_self g) 10 _).setLt (Nat.lt_succ_self g) 11 _).setLt (Nat.lt_succ_self g) 12 _), O.out.2.2.2⟩
  go_upto_region 8 with fail
  rw [← hw8]
  clear hw8 HN s9 f9 s10 f10 s11 f11 s12 f12
  have HN := HN'
  clear HN'
  have p13 : w8.cell? ⟨w.heap.size, 13, none⟩ = some (.int .i64 n.c.tr) := HN.out.p.cell 13 rfl
  have p14 : w8.cell? ⟨w.heap.size, 14, none⟩ = some (.bool n.c.op) := HN.out.p.cell 14 rfl
  have p15 : w8.cell? ⟨w.heap.size, 15, none⟩ = some (.int .i64 n.c.di) := HN.out.p.cell 15 rfl
  have p16 : w8.cell? ⟨w.heap.size, 16, none⟩ = some (.int .i64 n.c.wa) := HN.out.p.cell 16 rfl
  have p17 : w8.cell? ⟨w.heap.size, 17, none⟩ = some (.slice q1 n.c.ts.length q2) := HN.out.p.cell 17 rfl
  go_wp2_with fail
  refine (C3.out w8 HN.out.b).mono ?_
  rintro e w9 ⟨u, rfl, o2, bx⟩
  obtain ⟨c4, d4, rfl⟩ := reads_form o2.reads
  have O' : Hid (Own w9 (g + 1) (.slice c1 n.xs.length d1) n.xs ∧ Own w9 (g + 1) (.slice c2 n.ys.length d2) n.ys ∧ Own w9 (g + 1) (.slice c3 n.h.ks.length d3) n.h.ks ∧ Own w9 (g + 1) (.slice c4 n.c.ts.length d4) n.c.ts ∧ [Value.slice c4 n.c.ts.length d4, Value.slice c3 n.h.ks.length d3, Value.slice c2 n.ys.length d2, Value.slice c1 n.xs.length d1].Pairwise apart) := by
    refine ⟨(O.out.1).below bx, (O.out.2.1).below bx, (O.out.2.2.1).below bx, o2.mono HN.out.o.lt, pair_more (O.out.2.2.2) (fun x hx => ?_) o2⟩
    simp only [List.mem_cons, List.not_mem_nil, or_false] at hx
    rcases hx with rfl | rfl | rfl
    · exact fun y hy => (blk_new (O.out.2.2.1) y hy).2
    · exact fun y hy => (blk_new (O.out.2.1) y hy).2
    · exact fun y hy => (blk_new (O.out.1) y hy).2
  clear O o2
  have O := O'
  clear O'
  replace HN : Hid (LS w w9 g #[.int .i64 n.id, .bool n.up, .slice a1 n.xs.length a2, .slice b1 n.ys.length b2, .slice k1 n.h.ks.length k2, .int .i64 n.h.kd, .int .i64 n.h.ho, .int .i64 n.h.tu, .string ⟨n.log.toArray⟩, .int .i64 n.r.e, .int .i64 n.r.s, .int .i64 n.r.t, .int .i64 n.r.n, .int .i64 n.c.tr, .bool n.c.op, .int .i64 n.c.di, .int .i64 n.c.wa, .slice q1 n.c.ts.length q2, .int .i64 n.s.tr, .slice z1 n.s.ts.length z2] #[.int .i64 n.id, .bool n.up, .slice c1 n.xs.length d1, .slice c2 n.ys.length d2, .slice c3 n.h.ks.length d3, .int .i64 n.h.kd, .int .i64 n.h.ho, .int .i64 n.h.tu, .string ⟨n.log.toArray⟩, .int .i64 n.r.e, .int .i64 n.r.s, .int .i64 n.r.t, .int .i64 n.r.n, .int .i64 0, .bool false, .int .i64 0, .int .i64 0, .slice none 0 0, .int .i64 0, .slice none 0 0]) := HN.out.below bx
  clear bx C3 p13 p14 p15 p16 p17
  have s13 : w9.cell? ⟨g, 13, none⟩ = some (.int .i64 0) := HN.out.o.cell 13 rfl
  have f13 := HN.out.o.frozen 13
  have s14 : w9.cell? ⟨g, 14, none⟩ = some (.bool false) := HN.out.o.cell 14 rfl
  have f14 := HN.out.o.frozen 14
  have s15 : w9.cell? ⟨g, 15, none⟩ = some (.int .i64 0) := HN.out.o.cell 15 rfl
  have f15 := HN.out.o.frozen 15
  have s16 : w9.cell? ⟨g, 16, none⟩ = some (.int .i64 0) := HN.out.o.cell 16 rfl
  have f16 := HN.out.o.frozen 16
  have s17 : w9.cell? ⟨g, 17, none⟩ = some (.slice none 0 0) := HN.out.o.cell 17 rfl
  have f17 := HN.out.o.frozen 17
  obtain ⟨w10, hw10⟩ : ∃ w10, w10 = (((((w9.setCell ⟨g, 13, none⟩ (.int .i64 n.c.tr)).setCell ⟨g, 14, none⟩ (.bool n.c.op)).setCell ⟨g, 15, none⟩ (.int .i64 n.c.di)).setCell ⟨g, 16, none⟩ (.int .i64 n.c.wa)).setCell ⟨g, 17, none⟩ (.slice c4 n.c.ts.length d4)) := ⟨_, rfl⟩
  have HN' : Hid (LS w w10 g #[.int .i64 n.id, .bool n.up, .slice a1 n.xs.length a2, .slice b1 n.ys.length b2, .slice k1 n.h.ks.length k2, .int .i64 n.h.kd, .int .i64 n.h.ho, .int .i64 n.h.tu, .string ⟨n.log.toArray⟩, .int .i64 n.r.e, .int .i64 n.r.s, .int .i64 n.r.t, .int .i64 n.r.n, .int .i64 n.c.tr, .bool n.c.op, .int .i64 n.c.di, .int .i64 n.c.wa, .slice q1 n.c.ts.length q2, .int .i64 n.s.tr, .slice z1 n.s.ts.length z2] #[.int .i64 n.id, .bool n.up, .slice c1 n.xs.length d1, .slice c2 n.ys.length d2, .slice c3 n.h.ks.length d3, .int .i64 n.h.kd, .int .i64 n.h.ho, .int .i64 n.h.tu, .string ⟨n.log.toArray⟩, .int .i64 n.r.e, .int .i64 n.r.s, .int .i64 n.r.t, .int .i64 n.r.n, .int .i64 n.c.tr, .bool n.c.op, .int .i64 n.c.di, .int .i64 n.c.wa, .slice c4 n.c.ts.length d4, .int .i64 0, .slice none 0 0]) := by rw [hw10]; exact (((((HN.out.put 13 (.int .i64 n.c.tr) rfl).put 14 (.bool n.c.op) rfl).put 15 (.int .i64 n.c.di) rfl).put 16 (.int .i64 n.c.wa) rfl).put 17 (.slice c4 n.c.ts.length d4) rfl)
  replace O : Hid (Own w10 (g + 1) (.slice c1 n.xs.length d1) n.xs ∧ Own w10 (g + 1) (.slice c2 n.ys.length d2) n.ys ∧ Own w10 (g + 1) (.slice c3 n.h.ks.length d3) n.h.ks ∧ Own w10 (g + 1) (.slice c4 n.c.ts.length d4) n.c.ts ∧ [Value.slice c4 n.c.ts.length d4, Value.slice c3 n.h.ks.length d3, Value.slice c2 n.ys.length d2, Value.slice c1 n.xs.length d1].Pairwise apart) := by
    rw [hw10]
    exact ⟨(((((O.out.1.setLt (Nat.lt_succ_self g) 13 _).setLt (Nat.lt_succ_self g) 14 _).setLt (Nat.lt_succ_self g) 15 _).setLt (Nat.lt_succ_self g) 16 _).setLt (Nat.lt_succ_self g) 17 _), (((((O.out.2.1.setLt (Nat.lt_succ_self g) 13 _).setLt (Nat.lt_succ_self g) 14 _).setLt (Nat.lt_succ_self g) 15 _).setLt (Nat.lt_succ_self g) 16 _).setLt (Nat.lt_succ_self g) 17 _), (((((O.out.2.2.1.setLt (Nat.lt_succ_self g) 13 _).setLt (Nat.lt_succ_self g) 14 _).setLt (Nat.lt_succ_self g) 15 _).setLt (Nat.lt_succ_self g) 16 _).setLt (Nat.lt_succ_self g) 17 _), (((((O.out.2.2.2.1.setLt (Nat.lt_succ_self g) 13 _).setLt (Nat.lt_succ_self g) 14 _).setLt (Nat.lt_succ_self g) 15 _).setLt (Nat.lt_succ_self g) 16 _).setLt (Nat.lt_succ_self g) 17 _), O.out.2.2.2.2⟩
  go_upto_region 9 with fail
  rw [← hw10]
  clear hw10 HN s13 f13 s14 f14 s15 f15 s16 f16 s17 f17
  have HN := HN'
  clear HN'
  have p18 : w10.cell? ⟨w.heap.size, 18, none⟩ = some (.int .i64 n.s.tr) := HN.out.p.cell 18 rfl
  have p19 : w10.cell? ⟨w.heap.size, 19, none⟩ = some (.slice z1 n.s.ts.length z2) := HN.out.p.cell 19 rfl
  go_wp2_with fail
  refine (C4.out w10 HN.out.b).mono ?_
  rintro e w11 ⟨u, rfl, o2, bx⟩
  obtain ⟨c5, d5, rfl⟩ := reads_form o2.reads
  have O' : Hid (Own w11 (g + 1) (.slice c1 n.xs.length d1) n.xs ∧ Own w11 (g + 1) (.slice c2 n.ys.length d2) n.ys ∧ Own w11 (g + 1) (.slice c3 n.h.ks.length d3) n.h.ks ∧ Own w11 (g + 1) (.slice c4 n.c.ts.length d4) n.c.ts ∧ Own w11 (g + 1) (.slice c5 n.s.ts.length d5) n.s.ts ∧ [Value.slice c5 n.s.ts.length d5, Value.slice c4 n.c.ts.length d4, Value.slice c3 n.h.ks.length d3, Value.slice c2 n.ys.length d2, Value.slice c1 n.xs.length d1].Pairwise apart) := by
    refine ⟨(O.out.1).below bx, (O.out.2.1).below bx, (O.out.2.2.1).below bx, (O.out.2.2.2.1).below bx, o2.mono HN.out.o.lt, pair_more (O.out.2.2.2.2) (fun x hx => ?_) o2⟩
    simp only [List.mem_cons, List.not_mem_nil, or_false] at hx
    rcases hx with rfl | rfl | rfl | rfl
    · exact fun y hy => (blk_new (O.out.2.2.2.1) y hy).2
    · exact fun y hy => (blk_new (O.out.2.2.1) y hy).2
    · exact fun y hy => (blk_new (O.out.2.1) y hy).2
    · exact fun y hy => (blk_new (O.out.1) y hy).2
  clear O o2
  have O := O'
  clear O'
  replace HN : Hid (LS w w11 g #[.int .i64 n.id, .bool n.up, .slice a1 n.xs.length a2, .slice b1 n.ys.length b2, .slice k1 n.h.ks.length k2, .int .i64 n.h.kd, .int .i64 n.h.ho, .int .i64 n.h.tu, .string ⟨n.log.toArray⟩, .int .i64 n.r.e, .int .i64 n.r.s, .int .i64 n.r.t, .int .i64 n.r.n, .int .i64 n.c.tr, .bool n.c.op, .int .i64 n.c.di, .int .i64 n.c.wa, .slice q1 n.c.ts.length q2, .int .i64 n.s.tr, .slice z1 n.s.ts.length z2] #[.int .i64 n.id, .bool n.up, .slice c1 n.xs.length d1, .slice c2 n.ys.length d2, .slice c3 n.h.ks.length d3, .int .i64 n.h.kd, .int .i64 n.h.ho, .int .i64 n.h.tu, .string ⟨n.log.toArray⟩, .int .i64 n.r.e, .int .i64 n.r.s, .int .i64 n.r.t, .int .i64 n.r.n, .int .i64 n.c.tr, .bool n.c.op, .int .i64 n.c.di, .int .i64 n.c.wa, .slice c4 n.c.ts.length d4, .int .i64 0, .slice none 0 0]) := HN.out.below bx
  clear bx C4 p18 p19
  have s18 : w11.cell? ⟨g, 18, none⟩ = some (.int .i64 0) := HN.out.o.cell 18 rfl
  have f18 := HN.out.o.frozen 18
  have s19 : w11.cell? ⟨g, 19, none⟩ = some (.slice none 0 0) := HN.out.o.cell 19 rfl
  have f19 := HN.out.o.frozen 19
  obtain ⟨w12, hw12⟩ : ∃ w12, w12 = ((w11.setCell ⟨g, 18, none⟩ (.int .i64 n.s.tr)).setCell ⟨g, 19, none⟩ (.slice c5 n.s.ts.length d5)) := ⟨_, rfl⟩
  have HN' : Hid (LS w w12 g #[.int .i64 n.id, .bool n.up, .slice a1 n.xs.length a2, .slice b1 n.ys.length b2, .slice k1 n.h.ks.length k2, .int .i64 n.h.kd, .int .i64 n.h.ho, .int .i64 n.h.tu, .string ⟨n.log.toArray⟩, .int .i64 n.r.e, .int .i64 n.r.s, .int .i64 n.r.t, .int .i64 n.r.n, .int .i64 n.c.tr, .bool n.c.op, .int .i64 n.c.di, .int .i64 n.c.wa, .slice q1 n.c.ts.length q2, .int .i64 n.s.tr, .slice z1 n.s.ts.length z2] #[.int .i64 n.id, .bool n.up, .slice c1 n.xs.length d1, .slice c2 n.ys.length d2, .slice c3 n.h.ks.length d3, .int .i64 n.h.kd, .int .i64 n.h.ho, .int .i64 n.h.tu, .string ⟨n.log.toArray⟩, .int .i64 n.r.e, .int .i64 n.r.s, .int .i64 n.r.t, .int .i64 n.r.n, .int .i64 n.c.tr, .bool n.c.op, .int .i64 n.c.di, .int .i64 n.c.wa, .slice c4 n.c.ts.length d4, .int .i64 n.s.tr, .slice c5 n.s.ts.length d5]) := by rw [hw12]; exact ((HN.out.put 18 (.int .i64 n.s.tr) rfl).put 19 (.slice c5 n.s.ts.length d5) rfl)
  replace O : Hid (Own w12 (g + 1) (.slice c1 n.xs.length d1) n.xs ∧ Own w12 (g + 1) (.slice c2 n.ys.length d2) n.ys ∧ Own w12 (g + 1) (.slice c3 n.h.ks.length d3) n.h.ks ∧ Own w12 (g + 1) (.slice c4 n.c.ts.length d4) n.c.ts ∧ Own w12 (g + 1) (.slice c5 n.s.ts.length d5) n.s.ts ∧ [Value.slice c5 n.s.ts.length d5, Value.slice c4 n.c.ts.length d4, Value.slice c3 n.h.ks.length d3, Value.slice c2 n.ys.length d2, Value.slice c1 n.xs.length d1].Pairwise apart) := by
    rw [hw12]
    exact ⟨((O.out.1.setLt (Nat.lt_succ_self g) 18 _).setLt (Nat.lt_succ_self g) 19 _), ((O.out.2.1.setLt (Nat.lt_succ_self g) 18 _).setLt (Nat.lt_succ_self g) 19 _), ((O.out.2.2.1.setLt (Nat.lt_succ_self g) 18 _).setLt (Nat.lt_succ_self g) 19 _), ((O.out.2.2.2.1.setLt (Nat.lt_succ_self g) 18 _).setLt (Nat.lt_succ_self g) 19 _), ((O.out.2.2.2.2.1.setLt (Nat.lt_succ_self g) 18 _).setLt (Nat.lt_succ_self g) 19 _), O.out.2.2.2.2.2⟩
  go_upto_region 10 with fail
  rw [← hw12]
  clear hw12 HN s18 f18 s19 f19
  have HN := HN'
  clear HN'
  go_wp2_with (first | (refine wpList_getS Tryz.isNd rfl _ rfl g rfl (ndA (.slice c1 n.xs.length d1) (.slice c2 n.ys.length d2) (.slice c3 n.h.ks.length d3) (.slice c4 n.c.ts.length d4) (.slice c5 n.s.ts.length d5) n) rfl HN.out.o ?_) | (refine wpList_putS Tryz.isNd rfl _ _ rfl (w.heap.size + 1) (ndA (.slice c1 n.xs.length d1) (.slice c2 n.ys.length d2) (.slice c3 n.h.ks.length d3) (.slice c4 n.c.ts.length d4) (.slice c5 n.s.ts.length d5) n) zeroNd rfl rfl rfl rfl (ndA_one n rfl rfl rfl rfl rfl) HN.out.r ?_; intro w19 s19 g19))
  refine bodyPost_ret (results_S Tryz.isNd rfl _ _ (w.heap.size + 1) _ rfl rfl s19) rfl ?_
  refine ⟨_, _, _, _, _, rfl, ?_, HN.out.b.grown g19 HN.out.b.size (fun k e => by cases e; omega)⟩
  exact (OwnN.keptLt ⟨O.out.1, O.out.2.1, O.out.2.2.1, O.out.2.2.2.1, O.out.2.2.2.2.1, O.out.2.2.2.2.2⟩ g19 (by have := HN.out.l; omega)).mono (by have := HN.out.l; omega)
end Go.Proofs.YtlkkpolnllbljaaGreatDoor
/- What a law is given, opened: a list of numbers, and a struct of two of them, as the form of claims has them. -/
namespace Go.Proofs.YtlkkpolnllbljaaGreatDoor
open Go.ChangeShapes Go.WideShapes Go.ChangeAt Go.RowKit

theorem Tryz.cellsI : Tryz.prog.cellsOf 2 = 1 := by kernel_rfl
theorem Tryz.cellsL : Tryz.prog.cellsOf 22 = 1 := by kernel_rfl

theorem open_list {H : Type} {enc : TypeId × Value → H} {w : World} {base : Nat} {held : Bool} {fuel : Nat} {c : Value} {x : DataW H × List MemPlace}
    (h : DataW.trod enc Tryz.prog w base (fun _ => true) held fuel 22 [c] = some x) : ∃ xs, Reads w c xs := by
  rcases open_ints Tryz.underlying22 Tryz.underlying2 (by kernel_rfl) h with ⟨hcs, _⟩ | ⟨x, l, c', zs, hcs, _, hl, hm, hz, _, hcell, hwz⟩
  · simp at hcs
    subst hcs
    exact ⟨[], none, 0, rfl, Nat.le_refl _, ⟨Nat.zero_le _, fun _ => rfl⟩, .inl rfl⟩
  · simp at hcs
    subst hcs
    obtain ⟨xs, hl, hr⟩ := reads_row (w := w) (a := some x) (len := l) (cap := c') (zs := zs) (.inr ⟨x, rfl, hl, hm, by simpa using hz, hcell, hwz⟩)
    exact ⟨xs, hr⟩

theorem two_of {l : List Value} (h : l.length = 2) : ∃ a b, l = [a, b] := by
  match l, h with
  | [a, b], _ => exact ⟨a, b, rfl⟩

theorem Tryz.cellsD : Tryz.prog.cellsOf 24 = 2 := by kernel_rfl

set_option maxRecDepth 20000 in
set_option maxHeartbeats 400000 in
theorem open_disk {H : Type} {enc : TypeId × Value → H} {w : World} {base b' : Nat} {held : Bool} {v : Value} {d : DataW H} {p : List MemPlace}
    (hv : Value.okWide Tryz.prog w .any base 24 v) (h : DataW.Trod enc Tryz.prog w b' (fun _ => true) held 24 v d p) :
    ∃ a b xs ys, v = .agg #[a, b] ∧ Reads w a xs ∧ Reads w b ys := by
  obtain ⟨cs, rfl, hsz⟩ := okWide_struct Tryz.underlying24 hv
  rw [Tryz.cellsD] at hsz
  obtain ⟨l⟩ := cs
  obtain ⟨a, b, rfl⟩ := two_of (l := l) (by simpa using hsz)
  obtain ⟨fuel, hf⟩ := h
  obtain ⟨y0, y1, m, hx, _, hy0, hy1⟩ := trod_struct2 Tryz.underlying24 hf
  simp [Value.cells, Tryz.cellsL] at hy0 hy1
  obtain ⟨xs, hxs⟩ := open_list hy0
  obtain ⟨ys, hys⟩ := open_list hy1
  exact ⟨a, b, xs, ys, rfl, hxs, hys⟩
end Go.Proofs.YtlkkpolnllbljaaGreatDoor
/- What a law is given, opened: a holding, as the form of claims has it. -/
namespace Go.Proofs.YtlkkpolnllbljaaGreatDoor
open Go.ChangeShapes Go.WideShapes Go.ChangeAt Go.RowKit

theorem Tryz.cellsH : Tryz.prog.cellsOf 26 = 4 := by kernel_rfl
theorem four_vals {l : List Value} (h : l.length = 4) : ∃ a b c d, l = [a, b, c, d] := by
  match l, h with
  | [a, b, c, d], _ => exact ⟨a, b, c, d, rfl⟩
set_option maxRecDepth 20000 in
theorem open_num {H : Type} {enc : TypeId × Value → H} {w : World} {base : Nat} {held : Bool} {fuel : Nat} {c : Value} {x : DataW H × List MemPlace}
    (h : DataW.trod enc Tryz.prog w base (fun _ => true) held fuel 2 [c] = some x) : ∃ n : Int, c = .int .i64 n ∧ -9223372036854775808 ≤ n ∧ n ≤ 9223372036854775807 := by
  obtain ⟨n, he, _, hw⟩ := DataW.trod_int Tryz.underlying2 h
  simp at he
  exact ⟨n, he, by simpa [Lit.wf, IntKind.min, IntKind.max, IntKind.signed, IntKind.bits] using hw⟩
set_option maxRecDepth 20000 in
theorem open_holding {H : Type} {enc : TypeId × Value → H} {w : World} {base b' : Nat} {held : Bool} {v : Value} {d : DataW H} {p : List MemPlace}
    (hv : Value.okWide Tryz.prog w .any base 26 v) (h : DataW.Trod enc Tryz.prog w b' (fun _ => true) held 26 v d p) :
    ∃ (h : Hd) (u : Value), v = HV u h ∧ Reads w u h.ks := by
  obtain ⟨cs, rfl, hsz⟩ := okWide_struct Tryz.underlying26 hv
  rw [Tryz.cellsH] at hsz
  obtain ⟨l⟩ := cs
  obtain ⟨a, b, c, e, rfl⟩ := four_vals (l := l) (by simpa using hsz)
  obtain ⟨fuel, hf⟩ := h
  obtain ⟨xs, n, _, _, hl, hlen, hf⟩ := DataW.trod_struct Tryz.underlying26 hf
  match xs, hlen with
  | [y0, y1, y2, y3], _ =>
    have h0 := hf 0 _ rfl
    have h1 := hf 1 _ rfl
    have h2 := hf 2 _ rfl
    have h3 := hf 3 _ rfl
    simp [Value.cells, Tryz.cellsI, Tryz.cellsL] at h0 h1 h2 h3
    obtain ⟨ks, hks⟩ := open_list h0
    obtain ⟨n1, rfl, k1⟩ := open_num h1
    obtain ⟨n2, rfl, k2⟩ := open_num h2
    obtain ⟨n3, rfl, k3⟩ := open_num h3
    exact ⟨⟨ks, n1, n2, n3⟩, a, rfl, hks⟩
end Go.Proofs.YtlkkpolnllbljaaGreatDoor
/- What a law is given, opened: a copier, as the form of claims has it. -/
namespace Go.Proofs.YtlkkpolnllbljaaGreatDoor
open Go.ChangeShapes Go.WideShapes Go.ChangeAt Go.RowKit

theorem Tryz.cellsCp : Tryz.prog.cellsOf 30 = 5 := by kernel_rfl
theorem Tryz.cellsBo : Tryz.prog.cellsOf 4 = 1 := by kernel_rfl
theorem five_vals {l : List Value} (h : l.length = 5) : ∃ a b c d e, l = [a, b, c, d, e] := by
  match l, h with
  | [a, b, c, d, e], _ => exact ⟨a, b, c, d, e, rfl⟩
set_option maxRecDepth 20000 in
theorem open_numC {H : Type} {enc : TypeId × Value → H} {w : World} {base : Nat} {held : Bool} {fuel : Nat} {c : Value} {x : DataW H × List MemPlace}
    (h : DataW.trod enc Tryz.prog w base (fun _ => true) held fuel 2 [c] = some x) : ∃ n : Int, c = .int .i64 n := by
  obtain ⟨n, he, _, _⟩ := DataW.trod_int Tryz.underlying2 h
  simp at he
  exact ⟨n, he⟩
set_option maxRecDepth 20000 in
theorem open_boolC {H : Type} {enc : TypeId × Value → H} {w : World} {base : Nat} {held : Bool} {fuel : Nat} {c : Value} {x : DataW H × List MemPlace}
    (h : DataW.trod enc Tryz.prog w base (fun _ => true) held fuel 4 [c] = some x) : ∃ b : Bool, c = .bool b := by
  obtain ⟨b, he, _⟩ := DataW.trod_bool Tryz.underlying4 h
  simp at he
  exact ⟨b, he⟩
set_option maxRecDepth 20000 in
theorem open_copier {H : Type} {enc : TypeId × Value → H} {w : World} {base b' : Nat} {held : Bool} {v : Value} {d : DataW H} {p : List MemPlace}
    (hv : Value.okWide Tryz.prog w .any base 30 v) (h : DataW.Trod enc Tryz.prog w b' (fun _ => true) held 30 v d p) :
    ∃ (c : Cp) (u : Value), v = CpV u c ∧ Reads w u c.ts := by
  obtain ⟨cs, rfl, hsz⟩ := okWide_struct Tryz.underlying30 hv
  rw [Tryz.cellsCp] at hsz
  obtain ⟨l⟩ := cs
  obtain ⟨a, b, c, e, f, rfl⟩ := five_vals (l := l) (by simpa using hsz)
  obtain ⟨fuel, hf⟩ := h
  obtain ⟨xs, n, _, _, hl, hlen, hf⟩ := DataW.trod_struct Tryz.underlying30 hf
  match xs, hlen with
  | [y0, y1, y2, y3, y4], _ =>
    have h0 := hf 0 _ rfl
    have h1 := hf 1 _ rfl
    have h2 := hf 2 _ rfl
    have h3 := hf 3 _ rfl
    have h4 := hf 4 _ rfl
    simp [Value.cells, Tryz.cellsI, Tryz.cellsL, Tryz.cellsBo] at h0 h1 h2 h3 h4
    obtain ⟨n0, rfl⟩ := open_numC h0
    obtain ⟨o, rfl⟩ := open_boolC h1
    obtain ⟨n2, rfl⟩ := open_numC h2
    obtain ⟨n3, rfl⟩ := open_numC h3
    obtain ⟨ts, hts⟩ := open_list h4
    exact ⟨⟨n0, o, n2, n3, ts⟩, f, rfl, hts⟩
end Go.Proofs.YtlkkpolnllbljaaGreatDoor
/- What a law is given, opened: a sink, as the form of claims has it. -/
namespace Go.Proofs.YtlkkpolnllbljaaGreatDoor
open Go.ChangeShapes Go.WideShapes Go.ChangeAt Go.RowKit

theorem Tryz.cellsSn : Tryz.prog.cellsOf 32 = 2 := by kernel_rfl
theorem two_vals {l : List Value} (h : l.length = 2) : ∃ a b, l = [a, b] := by
  match l, h with
  | [a, b], _ => exact ⟨a, b, rfl⟩
set_option maxRecDepth 20000 in
theorem open_numK {H : Type} {enc : TypeId × Value → H} {w : World} {base : Nat} {held : Bool} {fuel : Nat} {c : Value} {x : DataW H × List MemPlace}
    (h : DataW.trod enc Tryz.prog w base (fun _ => true) held fuel 2 [c] = some x) : ∃ n : Int, c = .int .i64 n := by
  obtain ⟨n, he, _, _⟩ := DataW.trod_int Tryz.underlying2 h
  simp at he
  exact ⟨n, he⟩
set_option maxRecDepth 20000 in
theorem open_sink {H : Type} {enc : TypeId × Value → H} {w : World} {base b' : Nat} {held : Bool} {v : Value} {d : DataW H} {p : List MemPlace}
    (hv : Value.okWide Tryz.prog w .any base 32 v) (h : DataW.Trod enc Tryz.prog w b' (fun _ => true) held 32 v d p) :
    ∃ (c : Sn) (u : Value), v = SnV u c ∧ Reads w u c.ts := by
  obtain ⟨cs, rfl, hsz⟩ := okWide_struct Tryz.underlying32 hv
  rw [Tryz.cellsSn] at hsz
  obtain ⟨l⟩ := cs
  obtain ⟨a, f, rfl⟩ := two_vals (l := l) (by simpa using hsz)
  obtain ⟨fuel, hf⟩ := h
  obtain ⟨xs, n, _, _, hl, hlen, hf⟩ := DataW.trod_struct Tryz.underlying32 hf
  match xs, hlen with
  | [y0, y1], _ =>
    have h0 := hf 0 _ rfl
    have h1 := hf 1 _ rfl
    simp [Value.cells, Tryz.cellsI, Tryz.cellsL] at h0 h1
    obtain ⟨n0, rfl⟩ := open_numK h0
    obtain ⟨ts, hts⟩ := open_list h1
    exact ⟨⟨n0, ts⟩, f, rfl, hts⟩
end Go.Proofs.YtlkkpolnllbljaaGreatDoor
/- What a law is given, opened: a struct of four numbers, as the form of claims has it. -/
namespace Go.Proofs.YtlkkpolnllbljaaGreatDoor
open Go.ChangeShapes Go.WideShapes Go.ChangeAt Go.RowKit

theorem Tryz.cells1 : Tryz.prog.cellsOf 2 = 1 := by kernel_rfl
theorem Tryz.cellsR : Tryz.prog.cellsOf 28 = 4 := by kernel_rfl
theorem four_of {l : List Value} (h : l.length = 4) : ∃ a b c d, l = [a, b, c, d] := by
  match l, h with
  | [a, b, c, d], _ => exact ⟨a, b, c, d, rfl⟩
set_option maxRecDepth 20000 in
theorem open_one {H : Type} {enc : TypeId × Value → H} {w : World} {base : Nat} {held : Bool} {fuel : Nat} {c : Value} {x : DataW H × List MemPlace}
    (h : DataW.trod enc Tryz.prog w base (fun _ => true) held fuel 2 [c] = some x) : ∃ n : Int, c = .int .i64 n ∧ -9223372036854775808 ≤ n ∧ n ≤ 9223372036854775807 := by
  obtain ⟨n, he, _, hw⟩ := DataW.trod_int Tryz.underlying2 h
  simp at he
  exact ⟨n, he, by simpa [Lit.wf, IntKind.min, IntKind.max, IntKind.signed, IntKind.bits] using hw⟩
set_option maxRecDepth 20000 in
theorem open_record {H : Type} {enc : TypeId × Value → H} {w : World} {base b' : Nat} {held : Bool} {v : Value} {d : DataW H} {p : List MemPlace}
    (hv : Value.okWide Tryz.prog w .any base 28 v) (h : DataW.Trod enc Tryz.prog w b' (fun _ => true) held 28 v d p) :
    ∃ r : Rc, v = RV r ∧ r.Fit := by
  obtain ⟨cs, rfl, hsz⟩ := okWide_struct Tryz.underlying28 hv
  rw [Tryz.cellsR] at hsz
  obtain ⟨l⟩ := cs
  obtain ⟨a, b, c, e, rfl⟩ := four_of (l := l) (by simpa using hsz)
  obtain ⟨fuel, hf⟩ := h
  obtain ⟨xs, n, _, _, hl, hlen, hf⟩ := DataW.trod_struct Tryz.underlying28 hf
  match xs, hlen with
  | [y0, y1, y2, y3], _ =>
    have h0 := hf 0 _ rfl
    have h1 := hf 1 _ rfl
    have h2 := hf 2 _ rfl
    have h3 := hf 3 _ rfl
    simp [Value.cells, Tryz.cells1] at h0 h1 h2 h3
    obtain ⟨n0, rfl, k0⟩ := open_one h0
    obtain ⟨n1, rfl, k1⟩ := open_one h1
    obtain ⟨n2, rfl, k2⟩ := open_one h2
    obtain ⟨n3, rfl, k3⟩ := open_one h3
    exact ⟨⟨n0, n1, n2, n3⟩, rfl, k0, k1, k2, k3⟩
end Go.Proofs.YtlkkpolnllbljaaGreatDoor
/- What a law is given, opened: a house, as the form of claims has it. -/
namespace Go.Proofs.YtlkkpolnllbljaaGreatDoor
open Go.ChangeShapes Go.WideShapes Go.ChangeAt Go.RowKit

theorem Tryz.cellsNd : Tryz.prog.cellsOf 34 = 20 := by kernel_rfl
theorem Tryz.cellsSt : Tryz.prog.cellsOf 9 = 1 := by kernel_rfl
theorem twenty_vals {l : List Value} (h : l.length = 20) : ∃ a0 a1 a2 a3 a4 a5 a6 a7 a8 a9 b0 b1 b2 b3 b4 b5 b6 b7 b8 b9, l = [a0, a1, a2, a3, a4, a5, a6, a7, a8, a9, b0, b1, b2, b3, b4, b5, b6, b7, b8, b9] := by
  match l, h with
  | [a0, a1, a2, a3, a4, a5, a6, a7, a8, a9, b0, b1, b2, b3, b4, b5, b6, b7, b8, b9], _ => exact ⟨a0, a1, a2, a3, a4, a5, a6, a7, a8, a9, b0, b1, b2, b3, b4, b5, b6, b7, b8, b9, rfl⟩
set_option maxRecDepth 20000 in
theorem open_str {H : Type} {enc : TypeId × Value → H} {w : World} {base : Nat} {held : Bool} {fuel : Nat} {c : Value} {x : DataW H × List MemPlace}
    (h : DataW.trod enc Tryz.prog w base (fun _ => true) held fuel 9 [c] = some x) : ∃ s : Bs, c = S s ∧ s.length ≤ maxLen := by
  obtain ⟨s, he, _, hl⟩ := DataW.trod_string Tryz.underlying9 h
  simp at he
  obtain ⟨⟨l⟩⟩ := s
  exact ⟨l, he, hl⟩
set_option maxRecDepth 20000 in
set_option maxHeartbeats 2000000 in
theorem open_node {H : Type} {enc : TypeId × Value → H} {w : World} {base b' : Nat} {held : Bool} {v : Value} {d : DataW H} {p : List MemPlace}
    (hv : Value.okWide Tryz.prog w .any base 34 v) (h : DataW.Trod enc Tryz.prog w b' (fun _ => true) held 34 v d p) :
    ∃ (n : Nd) (a b k q z : Value), v = NdV a b k q z n ∧ RdN w a b k q z n ∧ n.r.Fit ∧ n.log.length ≤ maxLen := by
  obtain ⟨cs, rfl, hsz⟩ := okWide_struct Tryz.underlying34 hv
  rw [Tryz.cellsNd] at hsz
  obtain ⟨l⟩ := cs
  obtain ⟨a0, a1, a2, a3, a4, a5, a6, a7, a8, a9, b0, b1, b2, b3, b4, b5, b6, b7, b8, b9, rfl⟩ := twenty_vals (l := l) (by simpa using hsz)
  obtain ⟨fuel, hf⟩ := h
  obtain ⟨xs, n, _, _, hl, hlen, hf⟩ := DataW.trod_struct Tryz.underlying34 hf
  match xs, hlen with
  | [y0, y1, y2, y3, y4, y5, y6, y7], _ =>
    have h0 := hf 0 _ rfl
    have h1 := hf 1 _ rfl
    have h2 := hf 2 _ rfl
    have h3 := hf 3 _ rfl
    have h4 := hf 4 _ rfl
    have h5 := hf 5 _ rfl
    have h6 := hf 6 _ rfl
    have h7 := hf 7 _ rfl
    simp [Value.cells, Tryz.cellsI, Tryz.cellsBo, Tryz.cellsSt, Tryz.cellsD, Tryz.cellsH, Tryz.cellsR, Tryz.cellsCp, Tryz.cellsSn] at h0 h1 h2 h3 h4 h5 h6 h7
    obtain ⟨id, rfl⟩ := open_numC h0
    obtain ⟨up, rfl⟩ := open_boolC h1
    obtain ⟨log, rfl, hlog⟩ := open_str h4
    obtain ⟨zs, _, _, _, _, zlen, hz⟩ := DataW.trod_struct Tryz.underlying24 h2
    obtain ⟨ts, _, _, _, _, tlen, ht⟩ := DataW.trod_struct Tryz.underlying26 h3
    obtain ⟨rs, _, _, _, _, rlen, hr⟩ := DataW.trod_struct Tryz.underlying28 h5
    obtain ⟨ks, _, _, _, _, klen, hk⟩ := DataW.trod_struct Tryz.underlying30 h6
    obtain ⟨ss, _, _, _, _, slen, hs⟩ := DataW.trod_struct Tryz.underlying32 h7
    match zs, zlen, ts, tlen with
    | [z0, z1], _, [t0, t1, t2, t3], _ =>
      match rs, rlen, ks, klen with
      | [r0, r1, r2, r3], _, [k0, k1, k2, k3, k4], _ =>
        match ss, slen with
        | [s0, s1], _ =>
          have u0 := hz 0 _ rfl
          have u1 := hz 1 _ rfl
          have v0 := ht 0 _ rfl
          have v1 := ht 1 _ rfl
          have v2 := ht 2 _ rfl
          have v3 := ht 3 _ rfl
          have c0 := hr 0 _ rfl
          have c1 := hr 1 _ rfl
          have c2 := hr 2 _ rfl
          have c3 := hr 3 _ rfl
          have d0 := hk 0 _ rfl
          have d1 := hk 1 _ rfl
          have d2 := hk 2 _ rfl
          have d3 := hk 3 _ rfl
          have d4 := hk 4 _ rfl
          have e0 := hs 0 _ rfl
          have e1 := hs 1 _ rfl
          simp [Tryz.cellsI, Tryz.cellsL, Tryz.cellsBo] at u0 u1 v0 v1 v2 v3 c0 c1 c2 c3 d0 d1 d2 d3 d4 e0 e1
          obtain ⟨xs, hxs⟩ := open_list u0
          obtain ⟨ys, hys⟩ := open_list u1
          obtain ⟨kk, hkk⟩ := open_list v0
          obtain ⟨n1, rfl⟩ := open_numC v1
          obtain ⟨n2, rfl⟩ := open_numC v2
          obtain ⟨n3, rfl⟩ := open_numC v3
          obtain ⟨m0, rfl, f0⟩ := open_one c0
          obtain ⟨m1, rfl, f1⟩ := open_one c1
          obtain ⟨m2, rfl, f2⟩ := open_one c2
          obtain ⟨m3, rfl, f3⟩ := open_one c3
          obtain ⟨o0, rfl⟩ := open_numC d0
          obtain ⟨o1, rfl⟩ := open_boolC d1
          obtain ⟨o2, rfl⟩ := open_numC d2
          obtain ⟨o3, rfl⟩ := open_numC d3
          obtain ⟨cts, hcts⟩ := open_list d4
          obtain ⟨q0, rfl⟩ := open_numC e0
          obtain ⟨sts, hsts⟩ := open_list e1
          exact ⟨⟨id, up, xs, ys, ⟨kk, n1, n2, n3⟩, log, ⟨m0, m1, m2, m3⟩, ⟨o0, o1, o2, o3, cts⟩, ⟨q0, sts⟩⟩, _, _, _, _, _, rfl, ⟨hxs, hys, hkk, hcts, hsts⟩, ⟨f0, f1, f2, f3⟩, hlog⟩
end Go.Proofs.YtlkkpolnllbljaaGreatDoor
/- What a house that does something leaves, plainly. -/
namespace Go.Proofs.YtlkkpolnllbljaaGreatDoor
open Go.RowKit

/- What the law on telling asks, of what is done. -/
structure TellR (n : Nd) (p : Nd × List Mg × Bool) : Prop where
  ok : NdR p.1
  ep : p.1.r.e = n.r.e
  sn : p.1.r.n = n.r.n
  td : n.r.t ≤ p.1.r.t
  id : p.1.id = n.id
  one : p.2.1.length ≤ 1
  msg : ∀ m ∈ p.2.1, m.dst = 1 - n.id ∧ m.tr = p.1.r.t ∧ p.1.up = true ∧ (m.kd = 3 → m.va = n.ys.getD m.pl.toNat 0 ∧ m.tn = p.1.c.ts.getD m.pl.toNat 0 ∧ 0 ≤ m.pl ∧ m.pl < (n.ys.length : Int) ∧ n.ys.length = p.1.c.ts.length)
  st : p.1.r.s ≠ n.r.s → p.1.r.s = 2 ∧ n.r.s = 1 ∧ n.c.clean = true ∧ p.1.xs = p.1.ys
  fr : (framesB p.1.log).1.length ≤ (framesB n.log).1.length + 1
  len : p.1.ys.length = n.ys.length
  no : p.2.2 = false → p = (n, [], false)
theorem both_same {xs ys : List Int} (h : bothOk xs ys = true) : bothOk ys ys = true := by
  unfold bothOk at h ⊢
  simp only [Bool.and_eq_true, decide_eq_true_eq] at h ⊢
  exact ⟨h.2.1, h.2.1, trivial⟩
theorem TellR.same {n : Nd} (h : NdR n) : TellR n (n, [], false) :=
  ⟨h, rfl, rfl, Int.le_refl _, rfl, by simp, by simp, fun e => absurd rfl e, by simp, rfl, fun _ => rfl⟩
theorem TellR.say {n : Nd} (h : NdR n) (hu : n.up = true) (m : Mg) (h1 : m.dst = 1 - n.id) (h2 : m.tr = n.r.t) (h3 : m.kd ≠ 3) : TellR n (n, [m], true) :=
  ⟨h, rfl, rfl, Int.le_refl _, rfl, by simp, by
    intro x hx
    simp only [List.mem_singleton] at hx
    subst hx
    exact ⟨h1, h2, hu, fun e => absurd e h3⟩, fun e => absurd rfl e, by simp, rfl, fun e => by cases e⟩
theorem next_to' (c : Cp) : c.next.tr = c.tr ∧ c.next.ts.length = c.ts.length := by unfold Cp.next; split <;> simp
theorem NdR.move {n : Nd} (h : NdR n) (hu : n.up = true) (torn : Int) (hs : n.r.s = 1) (ht : n.r.t < 100000) (hf : (framesB n.log).1.length < 2000) : TellR n (n.move torn) := by
  have hr := (Rc.ok_iff n.r).1 h.r
  have hq : (({ n.r with t := n.r.t + 1 } : Rc)).ok = true := (Rc.ok_iff _).2 ⟨hr.1, hr.2.1, by simp only; omega, hr.2.2.2⟩
  obtain ⟨p, hp⟩ : ∃ p, p = n.note { n.r with t := n.r.t + 1 } torn := ⟨_, rfl⟩
  have hsk : n.s.tr = 0 := by
    by_cases e : n.s.tr = 0
    · exact e
    · have := (h.sk e).1; omega
  have hb := h.dk
  unfold bothOk blocksOk lenOk at hb
  simp only [Bool.and_eq_true, decide_eq_true_eq] at hb
  have hmade : Cp.made n.ys.length (n.r.t + 1) = true := by
    unfold Cp.made
    rw [(inI_iff _ _ _).2 (by omega), (inI_iff _ _ _).2 (by omega)]
    rfl
  unfold Nd.move
  simp only [← hp]
  rcases h.note hu hq hf p hp with ⟨e, hN, e1, e2, e3, e4, e5, e6, e7, e8⟩ | ⟨e, e1, e2, e3, e4⟩
  · rw [e]
    simp only [Bool.false_eq_true, if_false]
    exact ⟨hN, by rw [e2], by rw [e2], by rw [e2]; exact Int.le_refl _, e4, by simp, by simp, fun x => absurd (by rw [e2]) x, Nat.le_trans (Nat.le_of_eq e8) (Nat.le_succ _), e5, fun x => by cases x⟩
  · rw [e]
    simp only [if_true]
    have hcl : (Cp.new n.ys.length (n.r.t + 1)).ts.length = n.ys.length := by unfold Cp.new; rw [if_pos hmade]; simp
    have hct : (Cp.new n.ys.length (n.r.t + 1)).tr = n.r.t + 1 := by unfold Cp.new; rw [if_pos hmade]
    rw [e1] at e2 e3 e4 ⊢
    refine ⟨⟨h.id, h.dk, h.h, hq, e3, Cp.new_ok _ _ hmade, h.s, ?_, fun x => ?_, fun _ => ⟨?_, hct, hcl⟩, fun x => absurd hsk x⟩, rfl, rfl, ?_, rfl, by simp, ?_, fun x => absurd rfl x, ?_, rfl, fun x => by cases x⟩
    · show LogR _ _ n.up
      rw [hu]; exact e2
    · rw [hu] at x; cases x
    · show n.r.s ≠ 3
      omega
    · show n.r.t ≤ n.r.t + 1
      omega
    · intro m hm
      simp only [List.mem_singleton] at hm
      subst hm
      exact ⟨rfl, rfl, hu, fun x => by simp [Nd.msg] at x⟩
    · show (framesB (n.log ++ _)).1.length ≤ _
      exact Nat.le_of_eq e4
theorem NdR.give {n : Nd} (h : NdR n) (hu : n.up = true) (torn : Int) (hs : n.r.s = 1) (hcl : n.c.clean = true) (hf : (framesB n.log).1.length < 2000) : TellR n (n.give torn) := by
  have hr := (Rc.ok_iff n.r).1 h.r
  have hq : (({ n.r with s := 2 } : Rc)).ok = true := (Rc.ok_iff _).2 ⟨hr.1, by simp only; omega, hr.2.2.1, hr.2.2.2⟩
  have h' : NdR ({ n with xs := n.ys } : Nd) := ⟨h.id, both_same h.dk, h.h, h.r, h.ll, h.c, h.s, h.lg, h.dn, h.cp, h.sk⟩
  have hsk : n.s.tr = 0 := by
    by_cases e : n.s.tr = 0
    · exact e
    · have := (h.sk e).1; omega
  obtain ⟨p, hp⟩ : ∃ p, p = ({ n with xs := n.ys } : Nd).note { n.r with s := 2 } torn := ⟨_, rfl⟩
  unfold Nd.give
  simp only [← hp]
  rcases h'.note hu hq hf p hp with ⟨e, hN, e1, e2, e3, e4, e5, e6, e7, e8⟩ | ⟨e, e1, e2, e3, e4⟩
  · rw [e]
    simp only [Bool.false_eq_true, if_false]
    exact ⟨hN, by rw [e2], by rw [e2], by rw [e2]; exact Int.le_refl _, e4, by simp, by simp, fun x => absurd (by rw [e2]) x, Nat.le_trans (Nat.le_of_eq e8) (Nat.le_succ _), e5, fun x => by cases x⟩
  · rw [e]
    simp only [if_true]
    rw [e1] at e2 e3 e4 ⊢
    refine ⟨⟨h.id, both_same h.dk, h.h, hq, e3, h.c, h.s, ?_, fun x => ?_, fun x => ?_, fun x => absurd hsk x⟩, rfl, rfl, Int.le_refl _, rfl, by simp, ?_, fun _ => ⟨rfl, hs, hcl, rfl⟩, ?_, rfl, fun x => by cases x⟩
    · show LogR _ _ n.up
      rw [hu]; exact e2
    · rw [hu] at x; cases x
    · have := h.cp x
      exact ⟨by simp, this.2.1, this.2.2⟩
    · intro m hm
      simp only [List.mem_singleton] at hm
      subst hm
      exact ⟨rfl, rfl, hu, fun x => by simp [Nd.hand, Nd.msg] at x⟩
    · show (framesB (n.log ++ _)).1.length ≤ _
      exact Nat.le_of_eq e4
theorem NdR.copy {n : Nd} (h : NdR n) (hu : n.up = true) (hc : n.c.tr ≠ 0) : TellR n n.copy := by
  unfold Nd.copy
  split
  · exact TellR.same h
  · rename_i hx
    have hcp := h.cp hc
    have hg : n.c.goes = true := by
      cases e : n.c.goes with
      | true => rfl
      | false => unfold Cp.nx at hx; rw [e] at hx; simp at hx
    have hnx : n.c.nx = firstI n.c.di := by unfold Cp.nx; rw [if_pos hg]
    have hft := (Cp.fit h.c).first
    have hnt := next_to' n.c
    refine ⟨⟨h.id, h.dk, h.h, h.r, h.ll, Cp.next_ok h.c, h.s, h.lg, fun x => ?_, fun _ => ⟨hcp.1, ?_, ?_⟩, h.sk⟩, rfl, rfl, Int.le_refl _, rfl, by simp, ?_, fun x => absurd rfl x, by simp, rfl, fun x => by cases x⟩
    · rw [hu] at x; cases x
    · show n.c.next.tr = n.r.t
      rw [hnt.1]; exact hcp.2.1
    · show n.c.next.ts.length = n.ys.length
      rw [hnt.2]; exact hcp.2.2
    · intro m hm
      simp only [List.mem_singleton] at hm
      subst hm
      refine ⟨rfl, rfl, hu, fun _ => ⟨rfl, rfl, ?_, ?_, ?_⟩⟩
      · show 0 ≤ n.c.nx
        omega
      · show n.c.nx < (n.ys.length : Int)
        rw [hnx, ← hcp.2.2]; exact hft
      · show n.ys.length = n.c.next.ts.length
        rw [hnt.2, hcp.2.2]
theorem NdR.tell {n : Nd} (h : NdR n) (k torn : Int) (hf : (framesB n.log).1.length < 2000) : TellR n (n.tell k torn) := by
  unfold Nd.tell
  split
  · exact TellR.same h
  · rename_i hu'
    have hu : n.up = true := by simpa using hu'
    split
    · rename_i e; exact h.move hu torn e.2.1 e.2.2.2 hf
    · split
      · rename_i e
        split
        · have hcp := h.cp e.2
          refine ⟨⟨h.id, h.dk, h.h, h.r, h.ll, Cp.again_ok h.c, h.s, h.lg, fun x => ?_, fun _ => hcp, h.sk⟩, rfl, rfl, Int.le_refl _, rfl, by simp, by simp, fun x => absurd rfl x, by simp, rfl, fun x => by cases x⟩
          rw [hu] at x; cases x
        · exact TellR.say h hu _ rfl rfl (by simp [Nd.msg])
      · split
        · rename_i e; exact h.copy hu e.2
        · split
          · rename_i e; exact h.give hu torn e.2.1 e.2.2.2 hf
          · split
            · exact TellR.say h hu _ rfl rfl (by simp [Nd.hand, Nd.msg])
            · split
              · exact TellR.say h hu _ rfl rfl (by simp [Nd.msg])
              · split
                · refine ⟨⟨h.id, h.dk, h.h, h.r, h.ll, Cp.zero_ok, h.s, h.lg, fun x => ?_, fun x => absurd rfl x, h.sk⟩, rfl, rfl, Int.le_refl _, rfl, by simp, by simp, fun x => absurd rfl x, by simp, rfl, fun x => by cases x⟩
                  rw [hu] at x; cases x
                · exact TellR.same h
end Go.Proofs.YtlkkpolnllbljaaGreatDoor
