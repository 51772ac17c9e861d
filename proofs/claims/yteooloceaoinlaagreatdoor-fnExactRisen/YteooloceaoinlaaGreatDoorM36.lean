/- Houses by the program: freshNode. -/
import Derived.Test.YteooloceaoinlaaGreatDoorM32
import Derived.Test.YteooloceaoinlaaGreatDoorM33
import Derived.Test.YteooloceaoinlaaGreatDoorM35
import Derived.Test.YteooloceaoinlaaGreatDoorM30
import Derived.Test.YteooloceaoinlaaGreatDoorM34
import Derived.Test.YteooloceaoinlaaGreatDoorM25
namespace Go.Proofs.YteooloceaoinlaaGreatDoor
open Go.ChangeShapes Go.WideShapes Go.ChangeAt Go.RowKit

theorem five_new {w7 w8 w9 : World} {base : Nat} {a b k q z : Value} {xs ys ks qs zs : List Int} (o : OwnR w7 base a b k xs ys ks) (oq : Mine w8 w7.heap.size q qs) (oz : Mine w9 w8.heap.size z zs) (h : w7.heap.size ≤ w8.heap.size) : Five (blk a) (blk b) (blk k) (mineOf q qs) (mineOf z zs) := by
  have ha := fun x hx => (blk_new o.1.1 x hx).2
  have hb := fun x hx => (blk_new o.1.2.1 x hx).2
  have hk := fun x hx => (blk_new o.2.1 x hx).2
  have hq := fun {x : Nat} (hx : x ∈ mineOf q qs) => mineOf_lt oq hx
  have hz := fun {x : Nat} (hx : x ∈ mineOf z zs) => mineOf_lt oz hx
  exact ⟨apart_iff.1 o.1.2.2, apart_iff.1 o.2.2.1, fun x h1 h2 => by have := ha x h1; have := (hq h2).1; omega, fun x h1 h2 => by have := ha x h1; have := (hz h2).1; omega, apart_iff.1 o.2.2.2,
    fun x h1 h2 => by have := hb x h1; have := (hq h2).1; omega, fun x h1 h2 => by have := hb x h1; have := (hz h2).1; omega, fun x h1 h2 => by have := hk x h1; have := (hq h2).1; omega, fun x h1 h2 => by have := hk x h1; have := (hz h2).1; omega, fun x h1 h2 => by have := (hq h1).2; have := (hz h2).1; omega⟩
set_option maxRecDepth 20000 in
set_option maxHeartbeats 2000000 in
theorem tail7 {w wx : World} {a b k q z : Value} {n : Nd} (h : FS w wx (ndA a b k q z n)) (q' z' : Value) : FS w (((((((wx.setCell ⟨w.heap.size, 13, none⟩ (.int .i64 n.c.tr)).setCell ⟨w.heap.size, 14, none⟩ (.bool n.c.op)).setCell ⟨w.heap.size, 15, none⟩ (.int .i64 n.c.di)).setCell ⟨w.heap.size, 16, none⟩ (.int .i64 n.c.wa)).setCell ⟨w.heap.size, 17, none⟩ q').setCell ⟨w.heap.size, 18, none⟩ (.int .i64 n.s.tr)).setCell ⟨w.heap.size, 19, none⟩ z') (ndA a b k q' z' n) :=
  ((((((h.put 13 (.int .i64 n.c.tr) rfl).put 14 (.bool n.c.op) rfl).put 15 (.int .i64 n.c.di) rfl).put 16 (.int .i64 n.c.wa) rfl).put 17 q' rfl).put 18 (.int .i64 n.s.tr) rfl).put 19 z' rfl
theorem own7 {wx : World} {base g : Nat} {a b k q z : Value} {n : Nd} (h : MineN wx base a b k q z n) (hg : g < base) (c0 c1 c2 c3 c4 c5 c6 : Value) : MineN (((((((wx.setCell ⟨g, 13, none⟩ c0).setCell ⟨g, 14, none⟩ c1).setCell ⟨g, 15, none⟩ c2).setCell ⟨g, 16, none⟩ c3).setCell ⟨g, 17, none⟩ c4).setCell ⟨g, 18, none⟩ c5).setCell ⟨g, 19, none⟩ c6) base a b k q z n :=
  ((((((h.keptLt (grownSet _ g 13 c0) hg).keptLt (grownSet _ g 14 c1) hg).keptLt (grownSet _ g 15 c2) hg).keptLt (grownSet _ g 16 c3) hg).keptLt (grownSet _ g 17 c4) hg).keptLt (grownSet _ g 18 c5) hg).keptLt (grownSet _ g 19 c6) hg
theorem MineN.setLt {w : World} {base g : Nat} {a b k q z : Value} {n : Nd} (h : MineN w base a b k q z n) (hb : g < base) (j : Nat) (x : Value) : MineN (w.setCell ⟨g, j, none⟩ x) base a b k q z n := h.keptLt (grownSet w g j x) hb

set_option maxRecDepth 20000 in
set_option maxHeartbeats 8000000 in
theorem ifreshN_any (a b k q z : Value) (n : Nd) (w : World) (hr : RdN w a b k q z n) (hl : SmN n) (hx1 : 1 ≤ n.xs.length) (hy1 : 1 ≤ n.ys.length) (hk1 : 1 ≤ n.h.ks.length) :
    Calls Tryz.prog 48 #[NdV a b k q z n] w fun e w' => ∃ a' b' k' q' z', e = .returned (NdV a' b' k' q' z' n) ∧ MineN w' w.heap.size a' b' k' q' z' n ∧ Below w.heap.size w w' := by
  have HR : Hid (∀ wx, Below w.heap.size w wx → RdN wx a b k q z n) := fun wx B => hr.below B
  have CS : Hid (∀ wx, Below w.heap.size w wx → Calls Tryz.prog 35 #[NdV a b k q z n] wx fun e w' => e = .returned (SRV a b k n.h) ∧ Below wx.heap.size wx w') := fun wx B => istoreof_any a b k q z n wx (HR.out wx B)
  have CF : Hid (∀ wx, Below w.heap.size w wx → Calls Tryz.prog 86 #[SRV a b k n.h] wx fun e w' => ∃ a b k, e = .returned (SRV a b k n.h) ∧ OwnR w' wx.heap.size a b k n.xs n.ys n.h.ks ∧ Below wx.heap.size wx w') := fun wx B => ifreshStore_any a b k n.xs n.ys n.h wx (HR.out wx B).ra (HR.out wx B).rb (HR.out wx B).rk hx1 hy1 hk1 (by have := hl.la; omega) (by have := hl.lb; omega) (by have := hl.lk; omega)
  have CL : Hid (∀ wx, Calls Tryz.prog 87 #[S n.log] wx fun e w' => e = .returned (S n.log) ∧ Below wx.heap.size wx w') := fun wx => iclone_any n.log wx (by have := hl.ll; omega)
  have CQ : Hid (∀ wx, Below w.heap.size w wx → Calls Tryz.prog 88 #[CpV q n.c] wx fun e w' => ∃ u, e = .returned (CpV u n.c) ∧ Mine w' wx.heap.size u n.c.ts ∧ Below wx.heap.size wx w') := fun wx B => ifreshC_any q n.c wx (HR.out wx B).rq (by have := hl.lq; omega)
  have CZ : Hid (∀ wx, Below w.heap.size w wx → Calls Tryz.prog 89 #[SnV z n.s] wx fun e w' => ∃ u, e = .returned (SnV u n.s) ∧ Mine w' wx.heap.size u n.s.ts ∧ Below wx.heap.size wx w') := fun wx B => ifreshS_any z n.s wx (HR.out wx B).rz (by have := hl.lz; omega)
  obtain ⟨ao, ac, rfl⟩ := reads_form hr.ra
  obtain ⟨bo, bc, rfl⟩ := reads_form hr.rb
  obtain ⟨ko, kc, rfl⟩ := reads_form hr.rk
  obtain ⟨qo, qc, rfl⟩ := reads_form hr.rq
  obtain ⟨zo, zc, rfl⟩ := reads_form hr.rz
  clear hr HR hl hx1 hy1 hk1
  obtain ⟨w1, hw1⟩ : ∃ w1, w1 = (w.alloc (.cells (ndA (.slice ao n.xs.length ac) (.slice bo n.ys.length bc) (.slice ko n.h.ks.length kc) (.slice qo n.c.ts.length qc) (.slice zo n.s.ts.length zc) n) 43)).alloc (.cells zeroNd 43) := ⟨_, rfl⟩
  have HF : Hid (FS w w1 (ndA (.slice ao n.xs.length ac) (.slice bo n.ys.length bc) (.slice ko n.h.ks.length kc) (.slice qo n.c.ts.length qc) (.slice zo n.s.ts.length zc) n)) := by rw [hw1]; exact FS.start w _
  unfold SRV srA at CS CF
  unfold CpV cpA at CQ
  unfold SnV snA at CZ
  unfold S at CL
  unfold NdV at CS ⊢
  unfold ndA zeroNd S at hw1
  conv in ndA (.slice ao n.xs.length ac) _ _ _ _ _ => unfold ndA S
  go_enter Tryz.func48, Tryz.ntmps48
  go_upto_region 1 with fail
  rw [← hw1]
  clear hw1
  go_wp2_with (refine wpList_getSG Tryz.isNd rfl _ rfl w.heap.size rfl (ndA (.slice ao n.xs.length ac) (.slice bo n.ys.length bc) (.slice ko n.h.ks.length kc) (.slice qo n.c.ts.length qc) (.slice zo n.s.ts.length zc) n) rfl HF.out.p ?_)
  refine (CS.out w1 HF.out.b).mono ?_
  rintro e w2 ⟨rfl, b2⟩
  replace HF : Hid (FS w w2 (ndA (.slice ao n.xs.length ac) (.slice bo n.ys.length bc) (.slice ko n.h.ks.length kc) (.slice qo n.c.ts.length qc) (.slice zo n.s.ts.length zc) n)) := HF.out.below b2
  clear b2 CS
  go_wp2_with fail
  refine (CF.out w2 HF.out.b).mono ?_
  rintro e w3 ⟨a', b', k', rfl, o3, b3⟩
  obtain ⟨a1, a2, rfl⟩ := reads_form o3.1.1.reads
  obtain ⟨b1, b2, rfl⟩ := reads_form o3.1.2.1.reads
  obtain ⟨k1, k2, rfl⟩ := reads_form o3.2.1.reads
  obtain ⟨w4, hw4⟩ : ∃ w4, w4 = w3.alloc (.cells #[.slice a1 n.xs.length a2, .slice b1 n.ys.length b2, .slice k1 n.h.ks.length k2, .int .i64 n.h.kd, .int .i64 n.h.ho, .int .i64 n.h.tu] 72) := ⟨_, rfl⟩
  have b4 : Below w3.heap.size w3 w4 := by rw [hw4]; exact (Below.refl _ _).alloc (Nat.le_refl _) _
  have O4 : Hid (OwnR w4 (w.heap.size + 2) (.slice a1 n.xs.length a2) (.slice b1 n.ys.length b2) (.slice k1 n.h.ks.length k2) n.xs n.ys n.h.ks) := (o3.mono HF.out.lt).below b4
  replace HF : Hid (FS w w4 (ndA (.slice ao n.xs.length ac) (.slice bo n.ys.length bc) (.slice ko n.h.ks.length kc) (.slice qo n.c.ts.length qc) (.slice zo n.s.ts.length zc) n)) := (HF.out.below b3).below b4
  have T4 : Hid (StB w4 w3.heap.size 72 #[.slice a1 n.xs.length a2, .slice b1 n.ys.length b2, .slice k1 n.h.ks.length k2, .int .i64 n.h.kd, .int .i64 n.h.ho, .int .i64 n.h.tu]) := by rw [hw4]; exact StB.new _ _ _
  go_upto_region 2 with fail
  rw [← hw4]
  clear hw4 o3 b3 b4 CF
  have s0 : w4.drew.cell? ⟨w3.heap.size, 0, none⟩ = some (.slice a1 n.xs.length a2) := T4.out.dr.cell 0 rfl
  have s1 : w4.drew.cell? ⟨w3.heap.size, 1, none⟩ = some (.slice b1 n.ys.length b2) := T4.out.dr.cell 1 rfl
  have s2 : w4.drew.cell? ⟨w3.heap.size, 2, none⟩ = some (.slice k1 n.h.ks.length k2) := T4.out.dr.cell 2 rfl
  have s3 : w4.drew.cell? ⟨w3.heap.size, 3, none⟩ = some (.int .i64 n.h.kd) := T4.out.dr.cell 3 rfl
  have s4 : w4.drew.cell? ⟨w3.heap.size, 4, none⟩ = some (.int .i64 n.h.ho) := T4.out.dr.cell 4 rfl
  have s5 : w4.drew.cell? ⟨w3.heap.size, 5, none⟩ = some (.int .i64 n.h.tu) := T4.out.dr.cell 5 rfl
  have p2 : w4.drew.cell? ⟨w.heap.size, 2, none⟩ = some (.slice ao n.xs.length ac) := HF.out.p.dr.cell 2 rfl
  have fp2 : w4.drew.frozen? ⟨w.heap.size, 2, none⟩ = false := HF.out.p.dr.frozen 2
  have p3 : w4.drew.cell? ⟨w.heap.size, 3, none⟩ = some (.slice bo n.ys.length bc) := HF.out.p.dr.cell 3 rfl
  have fp3 : w4.drew.frozen? ⟨w.heap.size, 3, none⟩ = false := HF.out.p.dr.frozen 3
  have p4 : w4.drew.cell? ⟨w.heap.size, 4, none⟩ = some (.slice ko n.h.ks.length kc) := HF.out.p.dr.cell 4 rfl
  have fp4 : w4.drew.frozen? ⟨w.heap.size, 4, none⟩ = false := HF.out.p.dr.frozen 4
  have p5 : w4.drew.cell? ⟨w.heap.size, 5, none⟩ = some (.int .i64 n.h.kd) := HF.out.p.dr.cell 5 rfl
  have fp5 : w4.drew.frozen? ⟨w.heap.size, 5, none⟩ = false := HF.out.p.dr.frozen 5
  have p6 : w4.drew.cell? ⟨w.heap.size, 6, none⟩ = some (.int .i64 n.h.ho) := HF.out.p.dr.cell 6 rfl
  have fp6 : w4.drew.frozen? ⟨w.heap.size, 6, none⟩ = false := HF.out.p.dr.frozen 6
  have p7 : w4.drew.cell? ⟨w.heap.size, 7, none⟩ = some (.int .i64 n.h.tu) := HF.out.p.dr.cell 7 rfl
  have fp7 : w4.drew.frozen? ⟨w.heap.size, 7, none⟩ = false := HF.out.p.dr.frozen 7
  have u0 : w4.cell? ⟨w3.heap.size, 0, none⟩ = some (.slice a1 n.xs.length a2) := T4.out.cell 0 rfl
  have u1 : w4.cell? ⟨w3.heap.size, 1, none⟩ = some (.slice b1 n.ys.length b2) := T4.out.cell 1 rfl
  have u2 : w4.cell? ⟨w3.heap.size, 2, none⟩ = some (.slice k1 n.h.ks.length k2) := T4.out.cell 2 rfl
  have u3 : w4.cell? ⟨w3.heap.size, 3, none⟩ = some (.int .i64 n.h.kd) := T4.out.cell 3 rfl
  have u4 : w4.cell? ⟨w3.heap.size, 4, none⟩ = some (.int .i64 n.h.ho) := T4.out.cell 4 rfl
  have u5 : w4.cell? ⟨w3.heap.size, 5, none⟩ = some (.int .i64 n.h.tu) := T4.out.cell 5 rfl
  have v2 : w4.cell? ⟨w.heap.size, 2, none⟩ = some (.slice ao n.xs.length ac) := HF.out.p.cell 2 rfl
  have fv2 : w4.frozen? ⟨w.heap.size, 2, none⟩ = false := HF.out.p.frozen 2
  have v3 : w4.cell? ⟨w.heap.size, 3, none⟩ = some (.slice bo n.ys.length bc) := HF.out.p.cell 3 rfl
  have fv3 : w4.frozen? ⟨w.heap.size, 3, none⟩ = false := HF.out.p.frozen 3
  have v4 : w4.cell? ⟨w.heap.size, 4, none⟩ = some (.slice ko n.h.ks.length kc) := HF.out.p.cell 4 rfl
  have fv4 : w4.frozen? ⟨w.heap.size, 4, none⟩ = false := HF.out.p.frozen 4
  have v5 : w4.cell? ⟨w.heap.size, 5, none⟩ = some (.int .i64 n.h.kd) := HF.out.p.cell 5 rfl
  have fv5 : w4.frozen? ⟨w.heap.size, 5, none⟩ = false := HF.out.p.frozen 5
  have v6 : w4.cell? ⟨w.heap.size, 6, none⟩ = some (.int .i64 n.h.ho) := HF.out.p.cell 6 rfl
  have fv6 : w4.frozen? ⟨w.heap.size, 6, none⟩ = false := HF.out.p.frozen 6
  have v7 : w4.cell? ⟨w.heap.size, 7, none⟩ = some (.int .i64 n.h.tu) := HF.out.p.cell 7 rfl
  have fv7 : w4.frozen? ⟨w.heap.size, 7, none⟩ = false := HF.out.p.frozen 7
  obtain ⟨w5, hw5⟩ : ∃ w5, w5 = ((((((w4.setCell ⟨w.heap.size, 2, none⟩ (.slice a1 n.xs.length a2)).setCell ⟨w.heap.size, 3, none⟩ (.slice b1 n.ys.length b2)).setCell ⟨w.heap.size, 4, none⟩ (.slice k1 n.h.ks.length k2)).setCell ⟨w.heap.size, 5, none⟩ (.int .i64 n.h.kd)).setCell ⟨w.heap.size, 6, none⟩ (.int .i64 n.h.ho)).setCell ⟨w.heap.size, 7, none⟩ (.int .i64 n.h.tu)).drew := ⟨_, rfl⟩
  have HF5 : Hid (FS w w5 (ndA (.slice a1 n.xs.length a2) (.slice b1 n.ys.length b2) (.slice k1 n.h.ks.length k2) (.slice qo n.c.ts.length qc) (.slice zo n.s.ts.length zc) n)) := by
    rw [hw5]
    exact FS.below ((((((HF.out.put 2 (.slice a1 n.xs.length a2) rfl).put 3 (.slice b1 n.ys.length b2) rfl).put 4 (.slice k1 n.h.ks.length k2) rfl).put 5 (.int .i64 n.h.kd) rfl).put 6 (.int .i64 n.h.ho) rfl).put 7 (.int .i64 n.h.tu) rfl) (Below.refl _ _).drew
  have O5 : Hid (OwnR w5 (w.heap.size + 2) (.slice a1 n.xs.length a2) (.slice b1 n.ys.length b2) (.slice k1 n.h.ks.length k2) n.xs n.ys n.h.ks) := by
    rw [hw5]
    exact (((((((O4.out.keptLt (grownSet _ w.heap.size 2 (.slice a1 n.xs.length a2)) (by omega)).keptLt (grownSet _ w.heap.size 3 (.slice b1 n.ys.length b2)) (by omega)).keptLt (grownSet _ w.heap.size 4 (.slice k1 n.h.ks.length k2)) (by omega)).keptLt (grownSet _ w.heap.size 5 (.int .i64 n.h.kd)) (by omega)).keptLt (grownSet _ w.heap.size 6 (.int .i64 n.h.ho)) (by omega)).keptLt (grownSet _ w.heap.size 7 (.int .i64 n.h.tu)) (by omega))).below (Below.refl _ _).drew
  have hn1 : ¬ w3.heap.size = w.heap.size := fun e => by
    have h1 := T4.out
    have h2 := HF.out.p
    rw [e] at h1
    exact absurd rfl (StB.typ h1 h2 (by decide))
  have hn2 : ¬ w.heap.size = w3.heap.size := fun e => hn1 e.symm
  go_region
  all_goals
    rw [← hw5]
    clear hn1 hn2 hw5 HF O4 T4 s0 u0 s1 u1 s2 u2 s3 u3 s4 u4 s5 u5 p2 fp2 v2 fv2 p3 fp3 v3 fv3 p4 fp4 v4 fv4 p5 fp5 v5 fv5 p6 fp6 v6 fv6 p7 fp7 v7 fv7
    have HF : Hid (FS w w5 (ndA (.slice a1 n.xs.length a2) (.slice b1 n.ys.length b2) (.slice k1 n.h.ks.length k2) (.slice qo n.c.ts.length qc) (.slice zo n.s.ts.length zc) n)) := HF5
    clear HF5
    have p8 : w5.cell? ⟨w.heap.size, 8, none⟩ = some (.string ⟨n.log.toArray⟩) := HF.out.p.cell 8 rfl
    go_wp2_with fail
    refine (CL.out w5).mono ?_
    rintro e w6 ⟨rfl, b6⟩
    have O6 : Hid (OwnR w6 (w.heap.size + 2) (.slice a1 n.xs.length a2) (.slice b1 n.ys.length b2) (.slice k1 n.h.ks.length k2) n.xs n.ys n.h.ks) := O5.out.below b6
    replace HF : Hid (FS w w6 (ndA (.slice a1 n.xs.length a2) (.slice b1 n.ys.length b2) (.slice k1 n.h.ks.length k2) (.slice qo n.c.ts.length qc) (.slice zo n.s.ts.length zc) n)) := HF.out.below b6
    clear O5 b6 p8 CL
    have p8 : w6.cell? ⟨w.heap.size, 8, none⟩ = some (.string ⟨n.log.toArray⟩) := HF.out.p.cell 8 rfl
    have fp8 : w6.frozen? ⟨w.heap.size, 8, none⟩ = false := HF.out.p.frozen 8
    obtain ⟨w7, hw7⟩ : ∃ w7, w7 = w6.setCell ⟨w.heap.size, 8, none⟩ (.string ⟨n.log.toArray⟩) := ⟨_, rfl⟩
    have O7 : Hid (OwnR w7 (w.heap.size + 2) (.slice a1 n.xs.length a2) (.slice b1 n.ys.length b2) (.slice k1 n.h.ks.length k2) n.xs n.ys n.h.ks) := by rw [hw7]; exact O6.out.keptLt (grownSet _ w.heap.size 8 _) (by omega)
    have HF7 : Hid (FS w w7 (ndA (.slice a1 n.xs.length a2) (.slice b1 n.ys.length b2) (.slice k1 n.h.ks.length k2) (.slice qo n.c.ts.length qc) (.slice zo n.s.ts.length zc) n)) := by rw [hw7]; exact HF.out.put 8 _ rfl
    go_upto_region 4 with fail
    rw [← hw7]
    clear hw7 HF O6 p8 fp8
    have HF : Hid (FS w w7 (ndA (.slice a1 n.xs.length a2) (.slice b1 n.ys.length b2) (.slice k1 n.h.ks.length k2) (.slice qo n.c.ts.length qc) (.slice zo n.s.ts.length zc) n)) := HF7
    clear HF7
    have p13 : w7.drew.cell? ⟨w.heap.size, 13, none⟩ = some (.int .i64 n.c.tr) := HF.out.p.dr.cell 13 rfl
    have p14 : w7.drew.cell? ⟨w.heap.size, 14, none⟩ = some (.bool n.c.op) := HF.out.p.dr.cell 14 rfl
    have p15 : w7.drew.cell? ⟨w.heap.size, 15, none⟩ = some (.int .i64 n.c.di) := HF.out.p.dr.cell 15 rfl
    have p16 : w7.drew.cell? ⟨w.heap.size, 16, none⟩ = some (.int .i64 n.c.wa) := HF.out.p.dr.cell 16 rfl
    have p17 : w7.drew.cell? ⟨w.heap.size, 17, none⟩ = some (.slice qo n.c.ts.length qc) := HF.out.p.dr.cell 17 rfl
    have p18 : w7.drew.cell? ⟨w.heap.size, 18, none⟩ = some (.int .i64 n.s.tr) := HF.out.p.dr.cell 18 rfl
    have p19 : w7.drew.cell? ⟨w.heap.size, 19, none⟩ = some (.slice zo n.s.ts.length zc) := HF.out.p.dr.cell 19 rfl
    have v13 : w7.cell? ⟨w.heap.size, 13, none⟩ = some (.int .i64 n.c.tr) := HF.out.p.cell 13 rfl
    have v14 : w7.cell? ⟨w.heap.size, 14, none⟩ = some (.bool n.c.op) := HF.out.p.cell 14 rfl
    have v15 : w7.cell? ⟨w.heap.size, 15, none⟩ = some (.int .i64 n.c.di) := HF.out.p.cell 15 rfl
    have v16 : w7.cell? ⟨w.heap.size, 16, none⟩ = some (.int .i64 n.c.wa) := HF.out.p.cell 16 rfl
    have v17 : w7.cell? ⟨w.heap.size, 17, none⟩ = some (.slice qo n.c.ts.length qc) := HF.out.p.cell 17 rfl
    have v18 : w7.cell? ⟨w.heap.size, 18, none⟩ = some (.int .i64 n.s.tr) := HF.out.p.cell 18 rfl
    have v19 : w7.cell? ⟨w.heap.size, 19, none⟩ = some (.slice zo n.s.ts.length zc) := HF.out.p.cell 19 rfl
    go_region_with
      (first
        | (go_at_call 88; refine (CQ.out _ (bel_drew HF.out.b)).mono ?_; rintro e w8 ⟨q', rfl, o8, b8⟩; obtain ⟨q1, q2, rfl⟩ := reads_form o8.reads; have HF8 : Hid (FS w w8 (ndA (.slice a1 n.xs.length a2) (.slice b1 n.ys.length b2) (.slice k1 n.h.ks.length k2) (.slice qo n.c.ts.length qc) (.slice zo n.s.ts.length zc) n)) := FS.below (FS.below HF.out (Below.refl _ _).drew) b8; have O8 : Hid (OwnR w8 (w.heap.size + 2) (.slice a1 n.xs.length a2) (.slice b1 n.ys.length b2) (.slice k1 n.h.ks.length k2) n.xs n.ys n.h.ks ∧ Mine w8 w7.heap.size (.slice q1 n.c.ts.length q2) n.c.ts ∧ w7.heap.size ≤ w8.heap.size) := ⟨(O7.out.below (Below.refl _ _).drew).below b8, o8, b8.size⟩; clear o8 b8; have m13 : w8.cell? ⟨w.heap.size, 13, none⟩ = some (.int .i64 n.c.tr) := HF8.out.p.cell 13 rfl; have m14 : w8.cell? ⟨w.heap.size, 14, none⟩ = some (.bool n.c.op) := HF8.out.p.cell 14 rfl; have m15 : w8.cell? ⟨w.heap.size, 15, none⟩ = some (.int .i64 n.c.di) := HF8.out.p.cell 15 rfl; have m16 : w8.cell? ⟨w.heap.size, 16, none⟩ = some (.int .i64 n.c.wa) := HF8.out.p.cell 16 rfl; have m17 : w8.cell? ⟨w.heap.size, 17, none⟩ = some (.slice qo n.c.ts.length qc) := HF8.out.p.cell 17 rfl; have m18 : w8.cell? ⟨w.heap.size, 18, none⟩ = some (.int .i64 n.s.tr) := HF8.out.p.cell 18 rfl; have m19 : w8.cell? ⟨w.heap.size, 19, none⟩ = some (.slice zo n.s.ts.length zc) := HF8.out.p.cell 19 rfl; skip)
        | (go_at_call 89; refine (CZ.out _ HF8.out.b).mono ?_; rintro e w9 ⟨z', rfl, o9, b9⟩; obtain ⟨z1, z2, rfl⟩ := reads_form o9.reads; have HF9 : Hid (FS w w9 (ndA (.slice a1 n.xs.length a2) (.slice b1 n.ys.length b2) (.slice k1 n.h.ks.length k2) (.slice qo n.c.ts.length qc) (.slice zo n.s.ts.length zc) n)) := HF8.out.below b9; have O9 : Hid (MineN w9 (w.heap.size + 2) (.slice a1 n.xs.length a2) (.slice b1 n.ys.length b2) (.slice k1 n.h.ks.length k2) (.slice q1 n.c.ts.length q2) (.slice z1 n.s.ts.length z2) n) := ⟨(O8.out.1.below b9).1.1, (O8.out.1.below b9).1.2.1, (O8.out.1.below b9).2.1, (O8.out.2.1.below b9).mono HF.out.lt, o9.mono (Nat.le_trans HF.out.lt O8.out.2.2), five_new O7.out O8.out.2.1 o9 O8.out.2.2⟩; clear o9 b9; have t13 : w9.cell? ⟨w.heap.size, 13, none⟩ = some (.int .i64 n.c.tr) := HF9.out.p.cell 13 rfl; have ft13 : w9.frozen? ⟨w.heap.size, 13, none⟩ = false := HF9.out.p.frozen 13; have t14 : w9.cell? ⟨w.heap.size, 14, none⟩ = some (.bool n.c.op) := HF9.out.p.cell 14 rfl; have ft14 : w9.frozen? ⟨w.heap.size, 14, none⟩ = false := HF9.out.p.frozen 14; have t15 : w9.cell? ⟨w.heap.size, 15, none⟩ = some (.int .i64 n.c.di) := HF9.out.p.cell 15 rfl; have ft15 : w9.frozen? ⟨w.heap.size, 15, none⟩ = false := HF9.out.p.frozen 15; have t16 : w9.cell? ⟨w.heap.size, 16, none⟩ = some (.int .i64 n.c.wa) := HF9.out.p.cell 16 rfl; have ft16 : w9.frozen? ⟨w.heap.size, 16, none⟩ = false := HF9.out.p.frozen 16; have t17 : w9.cell? ⟨w.heap.size, 17, none⟩ = some (.slice qo n.c.ts.length qc) := HF9.out.p.cell 17 rfl; have ft17 : w9.frozen? ⟨w.heap.size, 17, none⟩ = false := HF9.out.p.frozen 17; have t18 : w9.cell? ⟨w.heap.size, 18, none⟩ = some (.int .i64 n.s.tr) := HF9.out.p.cell 18 rfl; have ft18 : w9.frozen? ⟨w.heap.size, 18, none⟩ = false := HF9.out.p.frozen 18; have t19 : w9.cell? ⟨w.heap.size, 19, none⟩ = some (.slice zo n.s.ts.length zc) := HF9.out.p.cell 19 rfl; have ft19 : w9.frozen? ⟨w.heap.size, 19, none⟩ = false := HF9.out.p.frozen 19; skip))
    all_goals
      obtain ⟨w10, hw10⟩ : ∃ w10, w10 = (((((((w9.setCell ⟨w.heap.size, 13, none⟩ (.int .i64 n.c.tr)).setCell ⟨w.heap.size, 14, none⟩ (.bool n.c.op)).setCell ⟨w.heap.size, 15, none⟩ (.int .i64 n.c.di)).setCell ⟨w.heap.size, 16, none⟩ (.int .i64 n.c.wa)).setCell ⟨w.heap.size, 17, none⟩ (.slice q1 n.c.ts.length q2)).setCell ⟨w.heap.size, 18, none⟩ (.int .i64 n.s.tr)).setCell ⟨w.heap.size, 19, none⟩ (.slice z1 n.s.ts.length z2)) := ⟨_, rfl⟩
      have HF10 : Hid (FS w w10 (ndA (.slice a1 n.xs.length a2) (.slice b1 n.ys.length b2) (.slice k1 n.h.ks.length k2) (.slice q1 n.c.ts.length q2) (.slice z1 n.s.ts.length z2) n)) := by rw [hw10]; exact tail7 HF9.out _ _
      have O10 : Hid (MineN w10 (w.heap.size + 2) (.slice a1 n.xs.length a2) (.slice b1 n.ys.length b2) (.slice k1 n.h.ks.length k2) (.slice q1 n.c.ts.length q2) (.slice z1 n.s.ts.length z2) n) := by rw [hw10]; exact own7 O9.out (by omega) _ _ _ _ _ _ _
      rw [← hw10]
      clear hw10 HF O7 HF8 O8 HF9 O9 CQ CZ p13 v13 m13 t13 ft13 p14 v14 m14 t14 ft14 p15 v15 m15 t15 ft15 p16 v16 m16 t16 ft16 p17 v17 m17 t17 ft17 p18 v18 m18 t18 ft18 p19 v19 m19 t19 ft19
      go_wp2_with (first | (refine wpList_getS Tryz.isNd rfl _ rfl w.heap.size rfl (ndA (.slice a1 n.xs.length a2) (.slice b1 n.ys.length b2) (.slice k1 n.h.ks.length k2) (.slice q1 n.c.ts.length q2) (.slice z1 n.s.ts.length z2) n) rfl HF10.out.p ?_) | (refine wpList_putS Tryz.isNd rfl _ _ rfl (w.heap.size + 1) (ndA (.slice a1 n.xs.length a2) (.slice b1 n.ys.length b2) (.slice k1 n.h.ks.length k2) (.slice q1 n.c.ts.length q2) (.slice z1 n.s.ts.length z2) n) zeroNd rfl rfl rfl rfl (ndA_one n rfl rfl rfl rfl rfl) HF10.out.r ?_; intro w19 s19 g19))
      refine bodyPost_ret (results_S Tryz.isNd rfl _ _ (w.heap.size + 1) _ rfl rfl s19) rfl ?_
      exact ⟨_, _, _, _, _, rfl, (O10.out.keptLt g19 (by omega)).mono (by omega), HF10.out.b.grown g19 HF10.out.b.size (fun k e => by cases e; omega)⟩
end Go.Proofs.YteooloceaoinlaaGreatDoor
/- Houses by the program: fallen, Fallen, Risen. -/
namespace Go.Proofs.YteooloceaoinlaaGreatDoor
open Go.ChangeShapes Go.WideShapes Go.ChangeAt Go.RowKit

theorem NdR.small {n : Nd} (h : NdR n) : 1 ≤ n.xs.length ∧ 1 ≤ n.ys.length ∧ 1 ≤ n.h.ks.length := by
  obtain ⟨k1, k2, k3⟩ := bothOk_yes h.dk
  exact ⟨(blocksOk_len k1).1, (blocksOk_len k2).1, by rw [Hd.ok_len h.h]; decide⟩

set_option maxRecDepth 20000 in
set_option maxHeartbeats 4000000 in
theorem ifallen_any (a b k q z : Value) (n : Nd) (set : Int) (w : World) (hr : RdN w a b k q z n) (hl : SmN n) (hb : bothOk n.xs n.ys = true) (hs : setOk set = true) :
    Calls Tryz.prog 49 #[NdV a b k q z n, .int .i64 set] w fun e w' => ∃ a' b', e = .returned (NdV a' b' k (.slice none 0 0) (.slice none 0 0) (n.down set)) ∧ OwnD w' w.heap.size a' b' (n.down set).xs (n.down set).ys ∧ Below w.heap.size w w' := by
  have CL : Hid (∀ wx, Below w.heap.size w wx → Calls Tryz.prog 90 #[.agg #[a, b], .int .i64 set] wx fun e w' => ∃ u v, e = .returned (.agg #[u, v]) ∧ OwnD w' wx.heap.size u v (chosenUp n.xs n.ys set 8 n.xs.length) (chosenUp n.xs n.ys set 8 n.xs.length) ∧ Below wx.heap.size wx w') := fun wx B => by
    have h := lost_any a b n.xs n.ys set wx (hr.below B).ra (hr.below B).rb (by have := hl.la; omega) (by have := hl.lb; omega)
    rwa [show loK n.xs n.ys set = (chosenUp n.xs n.ys set 8 n.xs.length) by simp [loK, hb, hs], show loN n.xs n.ys set = (chosenUp n.xs n.ys set 8 n.xs.length) by simp [loN, hb, hs]] at h
  obtain ⟨ao, ac, rfl⟩ := reads_form hr.ra
  obtain ⟨bo, bc, rfl⟩ := reads_form hr.rb
  obtain ⟨ko, kc, rfl⟩ := reads_form hr.rk
  obtain ⟨qo, qc, rfl⟩ := reads_form hr.rq
  obtain ⟨zo, zc, rfl⟩ := reads_form hr.rz
  clear hr hl hb hs
  obtain ⟨w1, hw1⟩ : ∃ w1, w1 = (w.alloc (.cells (ndA (.slice ao n.xs.length ac) (.slice bo n.ys.length bc) (.slice ko n.h.ks.length kc) (.slice qo n.c.ts.length qc) (.slice zo n.s.ts.length zc) n) 43)).alloc (.cells zeroNd 43) := ⟨_, rfl⟩
  have HF : Hid (FS w w1 (ndA (.slice ao n.xs.length ac) (.slice bo n.ys.length bc) (.slice ko n.h.ks.length kc) (.slice qo n.c.ts.length qc) (.slice zo n.s.ts.length zc) n)) := by rw [hw1]; exact FS.start w _
  unfold ndA zeroNd S at hw1
  unfold NdV
  conv in ndA (.slice ao n.xs.length ac) _ _ _ _ _ => unfold ndA S
  go_enter Tryz.func49, Tryz.ntmps49
  go_upto_region 1 with fail
  rw [← hw1]
  clear hw1
  have p1 : w1.cell? ⟨w.heap.size, 1, none⟩ = some (.bool n.up) := HF.out.p.cell 1 rfl
  have fp1 : w1.frozen? ⟨w.heap.size, 1, none⟩ = false := HF.out.p.frozen 1
  obtain ⟨w2, hw2⟩ : ∃ w2, w2 = w1.setCell ⟨w.heap.size, 1, none⟩ (.bool false) := ⟨_, rfl⟩
  have HF2 : Hid (FS w w2 #[.int .i64 n.id, .bool false, .slice ao n.xs.length ac, .slice bo n.ys.length bc, .slice ko n.h.ks.length kc, .int .i64 n.h.kd, .int .i64 n.h.ho, .int .i64 n.h.tu, .string ⟨n.log.toArray⟩, .int .i64 n.r.e, .int .i64 n.r.s, .int .i64 n.r.t, .int .i64 n.r.n, .int .i64 n.c.tr, .bool n.c.op, .int .i64 n.c.di, .int .i64 n.c.wa, .slice qo n.c.ts.length qc, .int .i64 n.s.tr, .slice zo n.s.ts.length zc]) := by rw [hw2]; exact HF.out.put 1 _ rfl
  go_upto_region 2 with fail
  rw [← hw2]
  clear hw2 HF p1 fp1
  have p2 : w2.cell? ⟨w.heap.size, 2, none⟩ = some (.slice ao n.xs.length ac) := HF2.out.p.cell 2 rfl
  have p3 : w2.cell? ⟨w.heap.size, 3, none⟩ = some (.slice bo n.ys.length bc) := HF2.out.p.cell 3 rfl
  go_wp2_with fail
  refine (CL.out w2 HF2.out.b).mono ?_
  rintro e w3 ⟨u, v, rfl, o3, b3⟩
  obtain ⟨u1, u2, rfl⟩ := reads_form o3.1.reads
  obtain ⟨v1, v2, rfl⟩ := reads_form o3.2.1.reads
  have O3 : Hid (OwnD w3 (w.heap.size + 2) (.slice u1 (chosenUp n.xs n.ys set 8 n.xs.length).length u2) (.slice v1 (chosenUp n.xs n.ys set 8 n.xs.length).length v2) (chosenUp n.xs n.ys set 8 n.xs.length) (chosenUp n.xs n.ys set 8 n.xs.length)) := ⟨o3.1.mono HF2.out.lt, o3.2.1.mono HF2.out.lt, o3.2.2⟩
  have HF3 : Hid (FS w w3 #[.int .i64 n.id, .bool false, .slice ao n.xs.length ac, .slice bo n.ys.length bc, .slice ko n.h.ks.length kc, .int .i64 n.h.kd, .int .i64 n.h.ho, .int .i64 n.h.tu, .string ⟨n.log.toArray⟩, .int .i64 n.r.e, .int .i64 n.r.s, .int .i64 n.r.t, .int .i64 n.r.n, .int .i64 n.c.tr, .bool n.c.op, .int .i64 n.c.di, .int .i64 n.c.wa, .slice qo n.c.ts.length qc, .int .i64 n.s.tr, .slice zo n.s.ts.length zc]) := HF2.out.below b3
  clear CL HF2 p2 p3 o3 b3
  have p2 : w3.cell? ⟨w.heap.size, 2, none⟩ = some (.slice ao n.xs.length ac) := HF3.out.p.cell 2 rfl
  have fp2 : w3.frozen? ⟨w.heap.size, 2, none⟩ = false := HF3.out.p.frozen 2
  have p3 : w3.cell? ⟨w.heap.size, 3, none⟩ = some (.slice bo n.ys.length bc) := HF3.out.p.cell 3 rfl
  have fp3 : w3.frozen? ⟨w.heap.size, 3, none⟩ = false := HF3.out.p.frozen 3
  obtain ⟨w4, hw4⟩ : ∃ w4, w4 = ((w3.setCell ⟨w.heap.size, 2, none⟩ (.slice u1 (chosenUp n.xs n.ys set 8 n.xs.length).length u2)).setCell ⟨w.heap.size, 3, none⟩ (.slice v1 (chosenUp n.xs n.ys set 8 n.xs.length).length v2)) := ⟨_, rfl⟩
  have HF4 : Hid (FS w w4 #[.int .i64 n.id, .bool false, .slice u1 (chosenUp n.xs n.ys set 8 n.xs.length).length u2, .slice v1 (chosenUp n.xs n.ys set 8 n.xs.length).length v2, .slice ko n.h.ks.length kc, .int .i64 n.h.kd, .int .i64 n.h.ho, .int .i64 n.h.tu, .string ⟨n.log.toArray⟩, .int .i64 n.r.e, .int .i64 n.r.s, .int .i64 n.r.t, .int .i64 n.r.n, .int .i64 n.c.tr, .bool n.c.op, .int .i64 n.c.di, .int .i64 n.c.wa, .slice qo n.c.ts.length qc, .int .i64 n.s.tr, .slice zo n.s.ts.length zc]) := by rw [hw4]; exact ((HF3.out.put 2 (.slice u1 (chosenUp n.xs n.ys set 8 n.xs.length).length u2) rfl).put 3 (.slice v1 (chosenUp n.xs n.ys set 8 n.xs.length).length v2) rfl)
  have O4 : Hid (OwnD w4 (w.heap.size + 2) (.slice u1 (chosenUp n.xs n.ys set 8 n.xs.length).length u2) (.slice v1 (chosenUp n.xs n.ys set 8 n.xs.length).length v2) (chosenUp n.xs n.ys set 8 n.xs.length) (chosenUp n.xs n.ys set 8 n.xs.length)) := by
    rw [hw4]
    exact ⟨(O3.out.1.setLt (g := w.heap.size) (by omega) 2 _).setLt (g := w.heap.size) (by omega) 3 _, (O3.out.2.1.setLt (g := w.heap.size) (by omega) 2 _).setLt (g := w.heap.size) (by omega) 3 _, O3.out.2.2⟩
  go_upto_region 3 with fail
  rw [← hw4]
  clear hw4 HF3 O3 p2 p3 fp2 fp3
  have p13 : w4.cell? ⟨w.heap.size, 13, none⟩ = some (.int .i64 n.c.tr) := HF4.out.p.cell 13 rfl
  have fp13 : w4.frozen? ⟨w.heap.size, 13, none⟩ = false := HF4.out.p.frozen 13
  have p14 : w4.cell? ⟨w.heap.size, 14, none⟩ = some (.bool n.c.op) := HF4.out.p.cell 14 rfl
  have fp14 : w4.frozen? ⟨w.heap.size, 14, none⟩ = false := HF4.out.p.frozen 14
  have p15 : w4.cell? ⟨w.heap.size, 15, none⟩ = some (.int .i64 n.c.di) := HF4.out.p.cell 15 rfl
  have fp15 : w4.frozen? ⟨w.heap.size, 15, none⟩ = false := HF4.out.p.frozen 15
  have p16 : w4.cell? ⟨w.heap.size, 16, none⟩ = some (.int .i64 n.c.wa) := HF4.out.p.cell 16 rfl
  have fp16 : w4.frozen? ⟨w.heap.size, 16, none⟩ = false := HF4.out.p.frozen 16
  have p17 : w4.cell? ⟨w.heap.size, 17, none⟩ = some (.slice qo n.c.ts.length qc) := HF4.out.p.cell 17 rfl
  have fp17 : w4.frozen? ⟨w.heap.size, 17, none⟩ = false := HF4.out.p.frozen 17
  have p18 : w4.cell? ⟨w.heap.size, 18, none⟩ = some (.int .i64 n.s.tr) := HF4.out.p.cell 18 rfl
  have fp18 : w4.frozen? ⟨w.heap.size, 18, none⟩ = false := HF4.out.p.frozen 18
  have p19 : w4.cell? ⟨w.heap.size, 19, none⟩ = some (.slice zo n.s.ts.length zc) := HF4.out.p.cell 19 rfl
  have fp19 : w4.frozen? ⟨w.heap.size, 19, none⟩ = false := HF4.out.p.frozen 19
  obtain ⟨w5, hw5⟩ : ∃ w5, w5 = (((((((w4.setCell ⟨w.heap.size, 13, none⟩ (.int .i64 0)).setCell ⟨w.heap.size, 14, none⟩ (.bool false)).setCell ⟨w.heap.size, 15, none⟩ (.int .i64 0)).setCell ⟨w.heap.size, 16, none⟩ (.int .i64 0)).setCell ⟨w.heap.size, 17, none⟩ (.slice none 0 0)).setCell ⟨w.heap.size, 18, none⟩ (.int .i64 0)).setCell ⟨w.heap.size, 19, none⟩ (.slice none 0 0)) := ⟨_, rfl⟩
  have HF5 : Hid (FS w w5 (ndA (.slice u1 (chosenUp n.xs n.ys set 8 n.xs.length).length u2) (.slice v1 (chosenUp n.xs n.ys set 8 n.xs.length).length v2) (.slice ko n.h.ks.length kc) (.slice none 0 0) (.slice none 0 0) (n.down set))) := by rw [hw5]; exact (((((((HF4.out.put 13 (.int .i64 0) rfl).put 14 (.bool false) rfl).put 15 (.int .i64 0) rfl).put 16 (.int .i64 0) rfl).put 17 (.slice none 0 0) rfl).put 18 (.int .i64 0) rfl).put 19 (.slice none 0 0) rfl)
  have O5 : Hid (OwnD w5 (w.heap.size + 2) (.slice u1 (chosenUp n.xs n.ys set 8 n.xs.length).length u2) (.slice v1 (chosenUp n.xs n.ys set 8 n.xs.length).length v2) (chosenUp n.xs n.ys set 8 n.xs.length) (chosenUp n.xs n.ys set 8 n.xs.length)) := by
    rw [hw5]
    exact ⟨(((((((O4.out.1.setLt (g := w.heap.size) (by omega) 13 _).setLt (g := w.heap.size) (by omega) 14 _).setLt (g := w.heap.size) (by omega) 15 _).setLt (g := w.heap.size) (by omega) 16 _).setLt (g := w.heap.size) (by omega) 17 _).setLt (g := w.heap.size) (by omega) 18 _).setLt (g := w.heap.size) (by omega) 19 _), (((((((O4.out.2.1.setLt (g := w.heap.size) (by omega) 13 _).setLt (g := w.heap.size) (by omega) 14 _).setLt (g := w.heap.size) (by omega) 15 _).setLt (g := w.heap.size) (by omega) 16 _).setLt (g := w.heap.size) (by omega) 17 _).setLt (g := w.heap.size) (by omega) 18 _).setLt (g := w.heap.size) (by omega) 19 _), O4.out.2.2⟩
  go_upto_region 4 with fail
  rw [← hw5]
  clear hw5 HF4 O4 p13 fp13 p14 fp14 p15 fp15 p16 fp16 p17 fp17 p18 fp18 p19 fp19
  go_wp2_with (first | (refine wpList_getS Tryz.isNd rfl _ rfl w.heap.size rfl (ndA (.slice u1 (chosenUp n.xs n.ys set 8 n.xs.length).length u2) (.slice v1 (chosenUp n.xs n.ys set 8 n.xs.length).length v2) (.slice ko n.h.ks.length kc) (.slice none 0 0) (.slice none 0 0) (n.down set)) rfl HF5.out.p ?_) | (refine wpList_putS Tryz.isNd rfl _ _ rfl (w.heap.size + 1) (ndA (.slice u1 (chosenUp n.xs n.ys set 8 n.xs.length).length u2) (.slice v1 (chosenUp n.xs n.ys set 8 n.xs.length).length v2) (.slice ko n.h.ks.length kc) (.slice none 0 0) (.slice none 0 0) (n.down set)) zeroNd rfl rfl rfl rfl (ndA_one _ rfl rfl rfl rfl rfl) HF5.out.r ?_; intro w19 s19 g19))
  refine bodyPost_ret (results_S Tryz.isNd rfl _ _ (w.heap.size + 1) _ rfl rfl s19) rfl ?_
  exact ⟨_, _, rfl, ⟨(O5.out.1.keptLt g19 (by omega)).mono (by omega), (O5.out.2.1.keptLt g19 (by omega)).mono (by omega), O5.out.2.2⟩, HF5.out.b.grown g19 HF5.out.b.size (fun k e => by cases e; omega)⟩

end Go.Proofs.YteooloceaoinlaaGreatDoor
