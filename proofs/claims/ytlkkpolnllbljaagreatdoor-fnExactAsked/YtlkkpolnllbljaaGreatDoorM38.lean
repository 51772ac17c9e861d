/- A house that is asked, by the program: commanded. -/
import Derived.Test.YtlkkpolnllbljaaGreatDoorM37
import Derived.Test.YtlkkpolnllbljaaGreatDoorM22
import Derived.Scope
import Derived.ScopeJumps
import Derived.WalkMore
import Derived.WalkKit
import Derived.Test.YtlkkpolnllbljaaGreatDoorM33
import Derived.Test.YtlkkpolnllbljaaGreatDoorM26
import Derived.Deep.QuietTactic
import Derived.BigQuiet
namespace Go.Proofs.YtlkkpolnllbljaaGreatDoor
open Go.ChangeShapes Go.WideShapes Go.ChangeAt Go.RowKit

set_option maxRecDepth 20000 in
set_option maxHeartbeats 8000000 in
theorem icmdN_any (a b k q z : Value) (n : Nd) (i : Int) (c : Cm) (w : World) (base : Nat) (hm : MineN w base a b k q z n) (hb : base ≤ w.heap.size) (hl : SmN n) (ht : TabS w) :
    Calls Tryz.prog 29 #[NdV a b k q z n, .int .i64 i, CV c] w fun e w' => ∃ a' b' k' q', e = .returned (.tuple #[NdV a' b' k' q' z (n.cmd i c).1, AV (n.cmd i c).2]) ∧ MineN w' base a' b' k' q' z (n.cmd i c).1 ∧ Below w.heap.size w w' := by
  have HR : Hid (∀ wx, Below w.heap.size w wx → RdN wx a b k q z n) := fun wx B => hm.reads.below B
  have CS : Hid (∀ wx, Below w.heap.size w wx → Calls Tryz.prog 64 #[NdV a b k q z n] wx fun e w' => e = .returned (SRV a b k n.h) ∧ Below wx.heap.size wx w') := fun wx B => istoreof_any a b k q z n wx (HR.out wx B)
  have HE : Hid (n.cmd i c = ({ n with xs := (Sr.did ⟨n.xs, n.ys, n.h⟩ i c).1.xs, ys := (Sr.did ⟨n.xs, n.ys, n.h⟩ i c).1.ys, h := (Sr.did ⟨n.xs, n.ys, n.h⟩ i c).1.h, c := if decide ((Sr.did ⟨n.xs, n.ys, n.h⟩ i c).2.st = 0) && c.chg then n.c.Mark c.p else n.c }, (Sr.did ⟨n.xs, n.ys, n.h⟩ i c).2)) := rfl
  have CD : Hid (∀ wx, Below w.heap.size w wx → Calls Tryz.prog 78 #[SRV a b k n.h, .int .i64 i, CV c] wx fun e w' => ∃ a b k, e = .returned (.tuple #[SRV a b k (Sr.did ⟨n.xs, n.ys, n.h⟩ i c).1.h, AV (Sr.did ⟨n.xs, n.ys, n.h⟩ i c).2]) ∧ OwnR w' wx.heap.size a b k (Sr.did ⟨n.xs, n.ys, n.h⟩ i c).1.xs (Sr.did ⟨n.xs, n.ys, n.h⟩ i c).1.ys (Sr.did ⟨n.xs, n.ys, n.h⟩ i c).1.h.ks ∧ Below wx.heap.size wx w') := fun wx B => iDidStore_any a b k n.xs n.ys n.h i c wx (HR.out wx B).ra (HR.out wx B).rb (HR.out wx B).rk (by have := hl.la; omega) (by have := hl.lb; omega) (by have := hl.lk; omega) (ht.below B)
  have CG : Hid (∀ wx, Calls Tryz.prog 79 #[CV c] wx fun e w' => e = .returned (.bool c.chg) ∧ Below wx.heap.size wx w') := fun wx => ichg_any c wx
  have CM : Hid (∀ wx, Below w.heap.size w wx → Calls Tryz.prog 80 #[CpV q n.c, .int .i64 c.p] wx fun e w' => ∃ u, e = .returned (CpV u (n.c.Mark c.p)) ∧ Mine w' wx.heap.size u (n.c.Mark c.p).ts ∧ Below wx.heap.size wx w') := fun wx B => imarked_any q n.c c.p wx (HR.out wx B).rq (by have := hl.lq; omega)
  obtain ⟨x, hx⟩ : ∃ x, x = n.cmd i c := ⟨_, rfl⟩
  rw [← hx] at HE ⊢
  clear hx
  obtain ⟨d, hd⟩ : ∃ d, d = Sr.did ⟨n.xs, n.ys, n.h⟩ i c := ⟨_, rfl⟩
  rw [← hd] at HE CD
  clear hd
  obtain ⟨s, an⟩ := d
  dsimp only at HE CD
  have HM : Hid (MineN w base a b k q z n ∧ base ≤ w.heap.size) := ⟨hm, hb⟩
  obtain ⟨ao, ac, rfl⟩ := reads_form hm.oa.reads
  obtain ⟨bo, bc, rfl⟩ := reads_form hm.ob.reads
  obtain ⟨ko, kc, rfl⟩ := reads_form hm.ok.reads
  obtain ⟨qo, qc, rfl⟩ := reads_form hm.oq.reads
  obtain ⟨zo, zc, rfl⟩ := reads_form hm.oz.reads
  obtain ⟨w1, hw1⟩ : ∃ w1, w1 = (((w.alloc (.cells (ndA (.slice ao n.xs.length ac) (.slice bo n.ys.length bc) (.slice ko n.h.ks.length kc) (.slice qo n.c.ts.length qc) (.slice zo n.s.ts.length zc) n) 42)).alloc (.cells (cmA c) 66)).alloc (.cells zeroNd 42)).alloc (.cells (anA ⟨0, []⟩) 44) := ⟨_, rfl⟩
  have HF : Hid (AskS w w1 (ndA (.slice ao n.xs.length ac) (.slice bo n.ys.length bc) (.slice ko n.h.ks.length kc) (.slice qo n.c.ts.length qc) (.slice zo n.s.ts.length zc) n) c) := by rw [hw1]; exact AskS.start w _ c
  clear hm hb hl ht HR
  unfold SRV AV at CD
  unfold SRV at CS
  unfold CpV cpA at CM
  unfold ndA zeroNd cmA anA S at hw1
  unfold NdV at CS ⊢
  unfold CV at CD CG ⊢
  conv in ndA (.slice ao n.xs.length ac) _ _ _ _ _ => unfold ndA S
  conv in cmA c => unfold cmA
  go_enter Tryz.func29, Tryz.ntmps29
  go_upto_region 1 with fail
  rw [← hw1]
  clear hw1
  obtain ⟨C, hCd⟩ : ∃ C, C = fun x => Below w1.heap.size w1 x := ⟨_, rfl⟩
  have HQ : Hid (∀ x, C x → Below w1.heap.size w1 x) := by rw [hCd]; exact fun _ h => h
  have HN : Hid (∀ x y, C x → Later x y → C y) := by rw [hCd]; exact fun _ _ h b => h.trans (b.mono h.size)
  have H0 : Hid (C w1.drew) := by rw [hCd]; exact (Below.refl _ _).drew
  have hne : Nonempty (Kin C) := ⟨⟨_, H0.out⟩⟩
  clear hCd
  refine wp_region_gs_last3 (C := C) (E := byDst fun d => if d = 12 then some (isG (.agg (srA (.slice ao n.xs.length ac) (.slice bo n.ys.length bc) (.slice ko n.h.ks.length kc) n.h))) else if d = 15 then some (didG w1.heap.size s an) else if d = 8 then some (alG w1.heap.size 96 zeR) else if d = 9 then some (alG w1.heap.size 44 (anA ⟨0, []⟩)) else none) (R := Later) HN.out (byDst_later (by intro d s hs u x y hx hl; split at hs; (cases hs; trivial); split at hs; (cases hs; exact didG_later hx hl); split at hs; (cases hs; exact alG_later hx hl); split at hs; (cases hs; exact alG_later hx hl); cases hs)) 7 _ _ (byDst_looks _ _) (by kernel_rfl) (by kernel_rfl) (by kernel_rfl) (by kernel_rfl) (by simp) (by simp) rfl rfl rfl rfl rfl rfl (fun _ => rfl) (fun a v => execOp_put (ops := #[]) _ (by intro cs b h; cases h) a _ v (by intro d hd; cases hd; decide)) H0.out ?_
  refine gs_loadS Tryz.isNd rfl (by first | rfl | kernel_rfl) _ rfl w.heap.size rfl (ndA (.slice ao n.xs.length ac) (.slice bo n.ys.length bc) (.slice ko n.h.ks.length kc) (.slice qo n.c.ts.length qc) (.slice zo n.s.ts.length zc) n) rfl (fun y => HF.out.p.below (HQ.out _ y.h)) ?_
  refine gs_call (isG (.agg (srA (.slice ao n.xs.length ac) (.slice bo n.ys.length bc) (.slice ko n.h.ks.length kc) n.h))) rfl (by first | rfl | kernel_rfl) (fun wq hB => ?_) (fun uq hu => ?_)
  · go_simp
    refine ⟨rfl, ?_⟩
    exact isG_of (CS.out _ (HF.out.b.trans ((HQ.out _ hB.1).mono HF.out.b.size)))
  obtain rfl := hu
  iterate 1 (refine gs_plain rfl (fun K hK => ?_); go_simp; refine hK _ ?_; clear hK K)
  refine gs_loadS isCm5 rfl (by first | rfl | kernel_rfl) _ rfl (w.heap.size + 1) rfl (cmA c) rfl (fun y => HF.out.c.below (HQ.out _ y.h)) ?_
  refine gs_call (didG w1.heap.size s an) rfl (by first | rfl | kernel_rfl) (fun wq hB => ?_) (fun uq hu => ?_)
  · go_simp
    refine ⟨rfl, ?_⟩
    exact didG_of (HQ.out _ hB.1).size (CD.out _ (HF.out.b.trans ((HQ.out _ hB.1).mono HF.out.b.size)))
  obtain ⟨a1, a2, b1, b2, k1, k2, rfl⟩ := hu
  iterate 3 (refine gs_plain rfl (fun K hK => ?_); go_simp; refine hK _ ?_; clear hK K)
  refine gs_call (alG w1.heap.size 96 zeR) rfl (by first | rfl | kernel_rfl) (fun wq hB => ?_) (fun uq hu => ?_)
  · go_simp
    exact alG_of (HQ.out _ hB.1).size
  obtain ⟨g8, rfl⟩ := hu
  refine gs_call (alG w1.heap.size 44 (anA ⟨0, []⟩)) rfl (by first | rfl | kernel_rfl) (fun wq hB => ?_) (fun uq hu => ?_)
  · go_simp
    exact alG_of (HQ.out _ hB.1).size
  obtain ⟨g9, rfl⟩ := hu
  refine gs_end (fun w4 hz => ?_)
  have bz := HQ.out _ hz.1
  have q9 := hz.2 _ (List.mem_cons_self ..) g9 rfl
  have q8 := hz.2 _ (List.mem_cons_of_mem _ (List.mem_cons_self ..)) g8 rfl
  have qd := hz.2 _ (List.mem_cons_of_mem _ (List.mem_cons_of_mem _ (List.mem_cons_self ..))) _ _ _ _ _ _ _ rfl
  refine sure_put Tryz.isR _ _ rfl g8 (srA (.slice a1 s.xs.length a2) (.slice b1 s.ys.length b2) (.slice k1 s.h.ks.length k2) s.h) zeR rfl rfl rfl rfl (srA_one s.h rfl rfl rfl) q8.1 ?_
  intro w5 s5 g5
  refine ⟨trivial, ?_⟩
  refine last_putL Tryz.isA rfl rfl _ _ rfl g9 (anA an) (anA ⟨0, []⟩) rfl rfl rfl rfl (anA_one _) (q9.1.keptT q8.1 g5 (by decide)) ?_
  intro w6 s6 g6
  have hlt := HF.out.lt
  have HF6 : Hid (AskS w w6 (ndA (.slice ao n.xs.length ac) (.slice bo n.ys.length bc) (.slice ko n.h.ks.length kc) (.slice qo n.c.ts.length qc) (.slice zo n.s.ts.length zc) n) c) := ((HF.out.below bz).kept g5 (by have := q8.2; omega)).kept g6 (by have := q9.2; omega)
  have V6 : Hid (StB w6 g8 96 (srA (.slice a1 s.xs.length a2) (.slice b1 s.ys.length b2) (.slice k1 s.h.ks.length k2) s.h) ∧ StB w6 g9 44 (anA an) ∧ w.heap.size + 4 ≤ g8 ∧ w.heap.size + 4 ≤ g9) := ⟨s5.keptT (q9.1.keptT q8.1 g5 (by decide)) g6 (by decide), s6, by have := q8.2; omega, by have := q9.2; omega⟩
  have M6 : Hid (MineN w6 base (.slice a1 s.xs.length a2) (.slice b1 s.ys.length b2) (.slice k1 s.h.ks.length k2) (.slice qo n.c.ts.length qc) (.slice zo n.s.ts.length zc) { n with xs := s.xs, ys := s.ys, h := s.h }) := ((HM.out.1.did HM.out.2 (HF.out.b.trans (bz.mono HF.out.b.size)) (qd.mono HF.out.b.size)).putBy q8.1 (by decide) g5).putBy (q9.1.keptT q8.1 g5 (by decide)) (by decide) g6
  clear s5 s6 g5 g6 qd q8 q9 bz hz hlt HQ HN H0 hne CS CD HF
  have u0 : w6.cell? ⟨g8, 0, none⟩ = some (.slice a1 s.xs.length a2) := V6.out.1.cell 0 rfl
  have s0 : w6.drew.cell? ⟨g8, 0, none⟩ = some (.slice a1 s.xs.length a2) := V6.out.1.dr.cell 0 rfl
  have v2 : w6.cell? ⟨w.heap.size, 2, none⟩ = some (.slice ao n.xs.length ac) := HF6.out.p.cell 2 rfl
  have p2 : w6.drew.cell? ⟨w.heap.size, 2, none⟩ = some (.slice ao n.xs.length ac) := HF6.out.p.dr.cell 2 rfl
  have fv2 : w6.frozen? ⟨w.heap.size, 2, none⟩ = false := HF6.out.p.frozen 2
  have fp2 : w6.drew.frozen? ⟨w.heap.size, 2, none⟩ = false := HF6.out.p.dr.frozen 2
  have u1 : w6.cell? ⟨g8, 1, none⟩ = some (.slice b1 s.ys.length b2) := V6.out.1.cell 1 rfl
  have s1 : w6.drew.cell? ⟨g8, 1, none⟩ = some (.slice b1 s.ys.length b2) := V6.out.1.dr.cell 1 rfl
  have v3 : w6.cell? ⟨w.heap.size, 3, none⟩ = some (.slice bo n.ys.length bc) := HF6.out.p.cell 3 rfl
  have p3 : w6.drew.cell? ⟨w.heap.size, 3, none⟩ = some (.slice bo n.ys.length bc) := HF6.out.p.dr.cell 3 rfl
  have fv3 : w6.frozen? ⟨w.heap.size, 3, none⟩ = false := HF6.out.p.frozen 3
  have fp3 : w6.drew.frozen? ⟨w.heap.size, 3, none⟩ = false := HF6.out.p.dr.frozen 3
  have u2 : w6.cell? ⟨g8, 2, none⟩ = some (.slice k1 s.h.ks.length k2) := V6.out.1.cell 2 rfl
  have s2 : w6.drew.cell? ⟨g8, 2, none⟩ = some (.slice k1 s.h.ks.length k2) := V6.out.1.dr.cell 2 rfl
  have v4 : w6.cell? ⟨w.heap.size, 4, none⟩ = some (.slice ko n.h.ks.length kc) := HF6.out.p.cell 4 rfl
  have p4 : w6.drew.cell? ⟨w.heap.size, 4, none⟩ = some (.slice ko n.h.ks.length kc) := HF6.out.p.dr.cell 4 rfl
  have fv4 : w6.frozen? ⟨w.heap.size, 4, none⟩ = false := HF6.out.p.frozen 4
  have fp4 : w6.drew.frozen? ⟨w.heap.size, 4, none⟩ = false := HF6.out.p.dr.frozen 4
  have u3 : w6.cell? ⟨g8, 3, none⟩ = some (.int .i64 s.h.kd) := V6.out.1.cell 3 rfl
  have s3 : w6.drew.cell? ⟨g8, 3, none⟩ = some (.int .i64 s.h.kd) := V6.out.1.dr.cell 3 rfl
  have v5 : w6.cell? ⟨w.heap.size, 5, none⟩ = some (.int .i64 n.h.kd) := HF6.out.p.cell 5 rfl
  have p5 : w6.drew.cell? ⟨w.heap.size, 5, none⟩ = some (.int .i64 n.h.kd) := HF6.out.p.dr.cell 5 rfl
  have fv5 : w6.frozen? ⟨w.heap.size, 5, none⟩ = false := HF6.out.p.frozen 5
  have fp5 : w6.drew.frozen? ⟨w.heap.size, 5, none⟩ = false := HF6.out.p.dr.frozen 5
  have u4 : w6.cell? ⟨g8, 4, none⟩ = some (.int .i64 s.h.ho) := V6.out.1.cell 4 rfl
  have s4 : w6.drew.cell? ⟨g8, 4, none⟩ = some (.int .i64 s.h.ho) := V6.out.1.dr.cell 4 rfl
  have v6 : w6.cell? ⟨w.heap.size, 6, none⟩ = some (.int .i64 n.h.ho) := HF6.out.p.cell 6 rfl
  have p6 : w6.drew.cell? ⟨w.heap.size, 6, none⟩ = some (.int .i64 n.h.ho) := HF6.out.p.dr.cell 6 rfl
  have fv6 : w6.frozen? ⟨w.heap.size, 6, none⟩ = false := HF6.out.p.frozen 6
  have fp6 : w6.drew.frozen? ⟨w.heap.size, 6, none⟩ = false := HF6.out.p.dr.frozen 6
  have u5 : w6.cell? ⟨g8, 5, none⟩ = some (.int .i64 s.h.tu) := V6.out.1.cell 5 rfl
  have s5 : w6.drew.cell? ⟨g8, 5, none⟩ = some (.int .i64 s.h.tu) := V6.out.1.dr.cell 5 rfl
  have v7 : w6.cell? ⟨w.heap.size, 7, none⟩ = some (.int .i64 n.h.tu) := HF6.out.p.cell 7 rfl
  have p7 : w6.drew.cell? ⟨w.heap.size, 7, none⟩ = some (.int .i64 n.h.tu) := HF6.out.p.dr.cell 7 rfl
  have fv7 : w6.frozen? ⟨w.heap.size, 7, none⟩ = false := HF6.out.p.frozen 7
  have fp7 : w6.drew.frozen? ⟨w.heap.size, 7, none⟩ = false := HF6.out.p.dr.frozen 7
  obtain ⟨w7, hw7⟩ : ∃ w7, w7 = ((((((w6.setCell ⟨w.heap.size, 2, none⟩ (.slice a1 s.xs.length a2)).setCell ⟨w.heap.size, 3, none⟩ (.slice b1 s.ys.length b2)).setCell ⟨w.heap.size, 4, none⟩ (.slice k1 s.h.ks.length k2)).setCell ⟨w.heap.size, 5, none⟩ (.int .i64 s.h.kd)).setCell ⟨w.heap.size, 6, none⟩ (.int .i64 s.h.ho)).setCell ⟨w.heap.size, 7, none⟩ (.int .i64 s.h.tu)).drew := ⟨_, rfl⟩
  have HF7 : Hid (AskS w w7 (ndA (.slice a1 s.xs.length a2) (.slice b1 s.ys.length b2) (.slice k1 s.h.ks.length k2) (.slice qo n.c.ts.length qc) (.slice zo n.s.ts.length zc) { n with xs := s.xs, ys := s.ys, h := s.h }) c) := by
    rw [hw7]
    exact AskS.below ((((((HF6.out.put 2 (.slice a1 s.xs.length a2) rfl).put 3 (.slice b1 s.ys.length b2) rfl).put 4 (.slice k1 s.h.ks.length k2) rfl).put 5 (.int .i64 s.h.kd) rfl).put 6 (.int .i64 s.h.ho) rfl).put 7 (.int .i64 s.h.tu) rfl) (Below.refl _ _).drew
  have T7 : Hid (Turned w6 w7 [w.heap.size]) := by
    rw [hw7]
    exact turned6 w6 w.heap.size 2 3 4 5 6 7 _ _ _ _ _ _
  have M7 : Hid (MineN w7 base (.slice a1 s.xs.length a2) (.slice b1 s.ys.length b2) (.slice k1 s.h.ks.length k2) (.slice qo n.c.ts.length qc) (.slice zo n.s.ts.length zc) { n with xs := s.xs, ys := s.ys, h := s.h }) := M6.out.turned T7.out HF6.out.p (by decide)
  have V7 : Hid (StB w7 g9 44 (anA an) ∧ w.heap.size + 4 ≤ g9) := ⟨V6.out.2.1.turned T7.out (by simp; have := V6.out.2.2.2; omega), V6.out.2.2.2⟩
  have hn1 : ¬ g8 = w.heap.size := by have := V6.out.2.2.1; omega
  have hn2 : ¬ w.heap.size = g8 := fun e => hn1 e.symm
  clear T7
  go_upto_region 2 with fail
  go_region
  all_goals
    rw [← hw7]
    clear hw7 hn1 hn2 V6 M6 HF6 u0 s0 v2 p2 fv2 fp2 u1 s1 v3 p3 fv3 fp3 u2 s2 v4 p4 fv4 fp4 u3 s3 v5 p5 fv5 fp5 u4 s4 v6 p6 fv6 fp6 u5 s5 v7 p7 fv7 fp7
    have y0 : w7.cell? ⟨g9, 0, none⟩ = some (.int .i64 an.st) := V7.out.1.cell 0 rfl
    by_cases hst : an.st = 0
    · go_wp2_with (first | (refine wpList_getS isCm5 rfl _ rfl (w.heap.size + 1) rfl (cmA c) rfl HF7.out.c ?_) | (refine wpList_getSG isCm5 rfl _ rfl (w.heap.size + 1) rfl (cmA c) rfl HF7.out.c ?_))
      refine (CG.out w7).mono ?_
      rintro e w8 ⟨rfl, b8⟩
      have HF8 : Hid (AskS w w8 (ndA (.slice a1 s.xs.length a2) (.slice b1 s.ys.length b2) (.slice k1 s.h.ks.length k2) (.slice qo n.c.ts.length qc) (.slice zo n.s.ts.length zc) { n with xs := s.xs, ys := s.ys, h := s.h }) c) := HF7.out.below b8
      have M8 : Hid (MineN w8 base (.slice a1 s.xs.length a2) (.slice b1 s.ys.length b2) (.slice k1 s.h.ks.length k2) (.slice qo n.c.ts.length qc) (.slice zo n.s.ts.length zc) { n with xs := s.xs, ys := s.ys, h := s.h }) := M7.out.below b8
      have V8 : Hid (StB w8 g9 44 (anA an) ∧ w.heap.size + 4 ≤ g9) := ⟨V7.out.1.below b8, V7.out.2⟩
      clear HF7 M7 V7 b8 y0 CG
      cases hch : c.chg with
      | false =>
        have HX : Hid (x = ({ n with xs := s.xs, ys := s.ys, h := s.h }, an)) := by show x = _; rw [HE.out, if_neg (by simp [hch])]
        go_upto_region 5 with fail
        obtain ⟨C, hCd⟩ : ∃ C, C = fun x => Below w8.heap.size w8 x := ⟨_, rfl⟩
        have HQ : Hid (∀ x, C x → Below w8.heap.size w8 x) := by rw [hCd]; exact fun _ h => h
        have HN : Hid (∀ x y, C x → Later x y → C y) := by rw [hCd]; exact fun _ _ h b => h.trans (b.mono h.size)
        have H0 : Hid (C w8.drew) := by rw [hCd]; exact (Below.refl _ _).drew
        have hne : Nonempty (Kin C) := ⟨⟨_, H0.out⟩⟩
        clear hCd
        refine wp_region_gs_lastp (fun a => a.eval (.tmp 9) = .pointer (some ⟨g9, 0, none⟩)) (fun x y => x.grownBy y (some (w.heap.size + 1 + 1))) (C := C) (E := byDst fun _ => none) (R := Later) HN.out (byDst_later (by intro d s hs; cases hs)) 1 _ _ (byDst_looks _ _) (by kernel_rfl) (by kernel_rfl) (by kernel_rfl) (by kernel_rfl) (by simp) (by simp) rfl rfl rfl rfl rfl (keepJ (by kernel_rfl)) rfl (fun a x y v ja cx dd hq => pure_loadS Tryz.isA _ rfl g9 ja (anA an) rfl (V8.out.1.below (HQ.out _ cx)) ((V8.out.1.below (HQ.out _ cx)).kept dd (by simp; have := V8.out.2; omega)) hq) (fun _ => rfl) (fun a v => execOp_put (ops := #[]) _ (by intro cs b h; cases h) a _ v (by intro d hd; cases hd; decide)) H0.out ?_
        refine gs_loadS Tryz.isNd rfl (by first | rfl | kernel_rfl) _ rfl w.heap.size rfl (ndA (.slice a1 s.xs.length a2) (.slice b1 s.ys.length b2) (.slice k1 s.h.ks.length k2) (.slice qo n.c.ts.length qc) (.slice zo n.s.ts.length zc) { n with xs := s.xs, ys := s.ys, h := s.h }) rfl (fun y => HF8.out.p.below (HQ.out _ y.h)) ?_
        refine gs_loadS Tryz.isA rfl (by first | rfl | kernel_rfl) _ rfl g9 rfl (anA an) rfl (fun y => V8.out.1.below (HQ.out _ y.h)) ?_
        refine gs_end (fun w16 hz => ?_)
        have bz := HQ.out _ hz.1
        refine sure_put Tryz.isNd _ _ rfl (w.heap.size + 1 + 1) (ndA (.slice a1 s.xs.length a2) (.slice b1 s.ys.length b2) (.slice k1 s.h.ks.length k2) (.slice qo n.c.ts.length qc) (.slice zo n.s.ts.length zc) { n with xs := s.xs, ys := s.ys, h := s.h }) zeroNd rfl rfl rfl rfl (ndA_one _ rfl rfl rfl rfl rfl) (HF8.out.r.below bz) ?_
        intro w17 s17 g17
        refine ⟨g17, ?_⟩
        refine last_putL Tryz.isA rfl rfl _ _ rfl (w.heap.size + 1 + 1 + 1) (anA an) (anA ⟨0, []⟩) rfl rfl rfl rfl (anA_one _) ((HF8.out.ra.below bz).kept g17 (by simp)) ?_
        intro w18 s18 g18
        go_wp2_with fail
        refine bodyPost_ret (results_NA rfl _ _ (w.heap.size + 1 + 1) (w.heap.size + 1 + 1 + 1) _ _ rfl rfl rfl rfl (s17.kept g18 (by simp)) s18) rfl ?_
        rw [HX.out]
        have bb := (HF8.out.below bz).b.grown g17 (HF8.out.below bz).b.size (fun k e => by cases e; omega)
        exact ⟨_, _, _, _, rfl, ((M8.out.below bz).putBy (HF8.out.r.below bz) (by decide) g17).putBy ((HF8.out.ra.below bz).kept g17 (by simp)) (by decide) g18, bb.grown g18 bb.size (fun k e => by cases e; omega)⟩
      | true =>
        have HX : Hid (x = ({ n with xs := s.xs, ys := s.ys, h := s.h, c := n.c.Mark c.p }, an)) := by show x = _; rw [HE.out, if_pos (by simp [hch, hst])]
        have p13 : w8.cell? ⟨w.heap.size, 13, none⟩ = some (.int .i64 n.c.tr) := HF8.out.p.cell 13 rfl
        have p14 : w8.cell? ⟨w.heap.size, 14, none⟩ = some (.bool n.c.op) := HF8.out.p.cell 14 rfl
        have p15 : w8.cell? ⟨w.heap.size, 15, none⟩ = some (.int .i64 n.c.di) := HF8.out.p.cell 15 rfl
        have p16 : w8.cell? ⟨w.heap.size, 16, none⟩ = some (.int .i64 n.c.wa) := HF8.out.p.cell 16 rfl
        have p17 : w8.cell? ⟨w.heap.size, 17, none⟩ = some (.slice qo n.c.ts.length qc) := HF8.out.p.cell 17 rfl
        have c1 : w8.cell? ⟨w.heap.size + 1, 1, none⟩ = some (.int .i64 c.p) := HF8.out.c.cell 1 rfl
        go_wp2_with fail
        refine (CM.out w8 HF8.out.b).mono ?_
        rintro e w9 ⟨u, rfl, o9, b9⟩
        obtain ⟨u1, u2, rfl⟩ := reads_form o9.reads
        clear p13 p14 p15 p16 p17 c1
        have HF9 : Hid (AskS w w9 (ndA (.slice a1 s.xs.length a2) (.slice b1 s.ys.length b2) (.slice k1 s.h.ks.length k2) (.slice qo n.c.ts.length qc) (.slice zo n.s.ts.length zc) { n with xs := s.xs, ys := s.ys, h := s.h }) c) := HF8.out.below b9
        have M9 : Hid (MineN w9 base (.slice a1 s.xs.length a2) (.slice b1 s.ys.length b2) (.slice k1 s.h.ks.length k2) (.slice u1 (n.c.Mark c.p).ts.length u2) (.slice zo n.s.ts.length zc) { n with xs := s.xs, ys := s.ys, h := s.h, c := n.c.Mark c.p }) := M8.out.marked (Nat.le_trans HM.out.2 HF8.out.b.size) b9 o9
        have V9 : Hid (StB w9 g9 44 (anA an) ∧ w.heap.size + 4 ≤ g9) := ⟨V8.out.1.below b9, V8.out.2⟩
        clear HF8 M8 V8 b9 o9 CM
        have p13 : w9.cell? ⟨w.heap.size, 13, none⟩ = some (.int .i64 n.c.tr) := HF9.out.p.cell 13 rfl
        have f13 : w9.frozen? ⟨w.heap.size, 13, none⟩ = false := HF9.out.p.frozen 13
        have p14 : w9.cell? ⟨w.heap.size, 14, none⟩ = some (.bool n.c.op) := HF9.out.p.cell 14 rfl
        have f14 : w9.frozen? ⟨w.heap.size, 14, none⟩ = false := HF9.out.p.frozen 14
        have p15 : w9.cell? ⟨w.heap.size, 15, none⟩ = some (.int .i64 n.c.di) := HF9.out.p.cell 15 rfl
        have f15 : w9.frozen? ⟨w.heap.size, 15, none⟩ = false := HF9.out.p.frozen 15
        have p16 : w9.cell? ⟨w.heap.size, 16, none⟩ = some (.int .i64 n.c.wa) := HF9.out.p.cell 16 rfl
        have f16 : w9.frozen? ⟨w.heap.size, 16, none⟩ = false := HF9.out.p.frozen 16
        have p17 : w9.cell? ⟨w.heap.size, 17, none⟩ = some (.slice qo n.c.ts.length qc) := HF9.out.p.cell 17 rfl
        have f17 : w9.frozen? ⟨w.heap.size, 17, none⟩ = false := HF9.out.p.frozen 17
        obtain ⟨w10, hw10⟩ : ∃ w10, w10 = (((((w9.setCell ⟨w.heap.size, 13, none⟩ (.int .i64 (n.c.Mark c.p).tr)).setCell ⟨w.heap.size, 14, none⟩ (.bool (n.c.Mark c.p).op)).setCell ⟨w.heap.size, 15, none⟩ (.int .i64 (n.c.Mark c.p).di)).setCell ⟨w.heap.size, 16, none⟩ (.int .i64 (n.c.Mark c.p).wa)).setCell ⟨w.heap.size, 17, none⟩ (.slice u1 (n.c.Mark c.p).ts.length u2)) := ⟨_, rfl⟩
        have HF10 : Hid (AskS w w10 (ndA (.slice a1 s.xs.length a2) (.slice b1 s.ys.length b2) (.slice k1 s.h.ks.length k2) (.slice u1 (n.c.Mark c.p).ts.length u2) (.slice zo n.s.ts.length zc) { n with xs := s.xs, ys := s.ys, h := s.h, c := n.c.Mark c.p }) c) := by rw [hw10]; exact (AskS.put (AskS.put (AskS.put (AskS.put (AskS.put HF9.out 13 (.int .i64 (n.c.Mark c.p).tr) rfl) 14 (.bool (n.c.Mark c.p).op) rfl) 15 (.int .i64 (n.c.Mark c.p).di) rfl) 16 (.int .i64 (n.c.Mark c.p).wa) rfl) 17 (.slice u1 (n.c.Mark c.p).ts.length u2) rfl)
        have T10 : Hid (Turned w9 w10 [w.heap.size]) := by rw [hw10]; exact turned5 w9 w.heap.size 13 14 15 16 17 _ _ _ _ _
        have M10 : Hid (MineN w10 base (.slice a1 s.xs.length a2) (.slice b1 s.ys.length b2) (.slice k1 s.h.ks.length k2) (.slice u1 (n.c.Mark c.p).ts.length u2) (.slice zo n.s.ts.length zc) { n with xs := s.xs, ys := s.ys, h := s.h, c := n.c.Mark c.p }) := M9.out.turned T10.out HF9.out.p (by decide)
        have V10 : Hid (StB w10 g9 44 (anA an) ∧ w.heap.size + 4 ≤ g9) := ⟨V9.out.1.turned T10.out (by simp; have := V9.out.2; omega), V9.out.2⟩
        clear T10
        go_upto_region 5 with fail
        rw [← hw10]
        clear hw10 HF9 M9 V9 p13 f13 p14 f14 p15 f15 p16 f16 p17 f17
        obtain ⟨C, hCd⟩ : ∃ C, C = fun x => Below w10.heap.size w10 x := ⟨_, rfl⟩
        have HQ : Hid (∀ x, C x → Below w10.heap.size w10 x) := by rw [hCd]; exact fun _ h => h
        have HN : Hid (∀ x y, C x → Later x y → C y) := by rw [hCd]; exact fun _ _ h b => h.trans (b.mono h.size)
        have H0 : Hid (C w10.drew) := by rw [hCd]; exact (Below.refl _ _).drew
        have hne : Nonempty (Kin C) := ⟨⟨_, H0.out⟩⟩
        clear hCd
        refine wp_region_gs_lastp (fun a => a.eval (.tmp 9) = .pointer (some ⟨g9, 0, none⟩)) (fun x y => x.grownBy y (some (w.heap.size + 1 + 1))) (C := C) (E := byDst fun _ => none) (R := Later) HN.out (byDst_later (by intro d s hs; cases hs)) 1 _ _ (byDst_looks _ _) (by kernel_rfl) (by kernel_rfl) (by kernel_rfl) (by kernel_rfl) (by simp) (by simp) rfl rfl rfl rfl rfl (keepJ (by kernel_rfl)) rfl (fun a x y v ja cx dd hq => pure_loadS Tryz.isA _ rfl g9 ja (anA an) rfl (V10.out.1.below (HQ.out _ cx)) ((V10.out.1.below (HQ.out _ cx)).kept dd (by simp; have := V10.out.2; omega)) hq) (fun _ => rfl) (fun a v => execOp_put (ops := #[]) _ (by intro cs b h; cases h) a _ v (by intro d hd; cases hd; decide)) H0.out ?_
        refine gs_loadS Tryz.isNd rfl (by first | rfl | kernel_rfl) _ rfl w.heap.size rfl (ndA (.slice a1 s.xs.length a2) (.slice b1 s.ys.length b2) (.slice k1 s.h.ks.length k2) (.slice u1 (n.c.Mark c.p).ts.length u2) (.slice zo n.s.ts.length zc) { n with xs := s.xs, ys := s.ys, h := s.h, c := n.c.Mark c.p }) rfl (fun y => HF10.out.p.below (HQ.out _ y.h)) ?_
        refine gs_loadS Tryz.isA rfl (by first | rfl | kernel_rfl) _ rfl g9 rfl (anA an) rfl (fun y => V10.out.1.below (HQ.out _ y.h)) ?_
        refine gs_end (fun w16 hz => ?_)
        have bz := HQ.out _ hz.1
        refine sure_put Tryz.isNd _ _ rfl (w.heap.size + 1 + 1) (ndA (.slice a1 s.xs.length a2) (.slice b1 s.ys.length b2) (.slice k1 s.h.ks.length k2) (.slice u1 (n.c.Mark c.p).ts.length u2) (.slice zo n.s.ts.length zc) { n with xs := s.xs, ys := s.ys, h := s.h, c := n.c.Mark c.p }) zeroNd rfl rfl rfl rfl (ndA_one _ rfl rfl rfl rfl rfl) (HF10.out.r.below bz) ?_
        intro w17 s17 g17
        refine ⟨g17, ?_⟩
        refine last_putL Tryz.isA rfl rfl _ _ rfl (w.heap.size + 1 + 1 + 1) (anA an) (anA ⟨0, []⟩) rfl rfl rfl rfl (anA_one _) ((HF10.out.ra.below bz).kept g17 (by simp)) ?_
        intro w18 s18 g18
        go_wp2_with fail
        refine bodyPost_ret (results_NA rfl _ _ (w.heap.size + 1 + 1) (w.heap.size + 1 + 1 + 1) _ _ rfl rfl rfl rfl (s17.kept g18 (by simp)) s18) rfl ?_
        rw [HX.out]
        have bb := (HF10.out.below bz).b.grown g17 (HF10.out.below bz).b.size (fun k e => by cases e; omega)
        exact ⟨_, _, _, _, rfl, ((M10.out.below bz).putBy (HF10.out.r.below bz) (by decide) g17).putBy ((HF10.out.ra.below bz).kept g17 (by simp)) (by decide) g18, bb.grown g18 bb.size (fun k e => by cases e; omega)⟩
    · have HX : Hid (x = ({ n with xs := s.xs, ys := s.ys, h := s.h }, an)) := by show x = _; rw [HE.out, if_neg (by simp [hst])]
      go_upto_region 5 with fail
      obtain ⟨C, hCd⟩ : ∃ C, C = fun x => Below w7.heap.size w7 x := ⟨_, rfl⟩
      have HQ : Hid (∀ x, C x → Below w7.heap.size w7 x) := by rw [hCd]; exact fun _ h => h
      have HN : Hid (∀ x y, C x → Later x y → C y) := by rw [hCd]; exact fun _ _ h b => h.trans (b.mono h.size)
      have H0 : Hid (C w7.drew) := by rw [hCd]; exact (Below.refl _ _).drew
      have hne : Nonempty (Kin C) := ⟨⟨_, H0.out⟩⟩
      clear hCd
      refine wp_region_gs_lastp (fun a => a.eval (.tmp 9) = .pointer (some ⟨g9, 0, none⟩)) (fun x y => x.grownBy y (some (w.heap.size + 1 + 1))) (C := C) (E := byDst fun _ => none) (R := Later) HN.out (byDst_later (by intro d s hs; cases hs)) 1 _ _ (byDst_looks _ _) (by kernel_rfl) (by kernel_rfl) (by kernel_rfl) (by kernel_rfl) (by simp) (by simp) rfl rfl rfl rfl rfl (keepJ (by kernel_rfl)) rfl (fun a x y v ja cx dd hq => pure_loadS Tryz.isA _ rfl g9 ja (anA an) rfl (V7.out.1.below (HQ.out _ cx)) ((V7.out.1.below (HQ.out _ cx)).kept dd (by simp; have := V7.out.2; omega)) hq) (fun _ => rfl) (fun a v => execOp_put (ops := #[]) _ (by intro cs b h; cases h) a _ v (by intro d hd; cases hd; decide)) H0.out ?_
      refine gs_loadS Tryz.isNd rfl (by first | rfl | kernel_rfl) _ rfl w.heap.size rfl (ndA (.slice a1 s.xs.length a2) (.slice b1 s.ys.length b2) (.slice k1 s.h.ks.length k2) (.slice qo n.c.ts.length qc) (.slice zo n.s.ts.length zc) { n with xs := s.xs, ys := s.ys, h := s.h }) rfl (fun y => HF7.out.p.below (HQ.out _ y.h)) ?_
      refine gs_loadS Tryz.isA rfl (by first | rfl | kernel_rfl) _ rfl g9 rfl (anA an) rfl (fun y => V7.out.1.below (HQ.out _ y.h)) ?_
      refine gs_end (fun w16 hz => ?_)
      have bz := HQ.out _ hz.1
      refine sure_put Tryz.isNd _ _ rfl (w.heap.size + 1 + 1) (ndA (.slice a1 s.xs.length a2) (.slice b1 s.ys.length b2) (.slice k1 s.h.ks.length k2) (.slice qo n.c.ts.length qc) (.slice zo n.s.ts.length zc) { n with xs := s.xs, ys := s.ys, h := s.h }) zeroNd rfl rfl rfl rfl (ndA_one _ rfl rfl rfl rfl rfl) (HF7.out.r.below bz) ?_
      intro w17 s17 g17
      refine ⟨g17, ?_⟩
      refine last_putL Tryz.isA rfl rfl _ _ rfl (w.heap.size + 1 + 1 + 1) (anA an) (anA ⟨0, []⟩) rfl rfl rfl rfl (anA_one _) ((HF7.out.ra.below bz).kept g17 (by simp)) ?_
      intro w18 s18 g18
      go_wp2_with fail
      refine bodyPost_ret (results_NA rfl _ _ (w.heap.size + 1 + 1) (w.heap.size + 1 + 1 + 1) _ _ rfl rfl rfl rfl (s17.kept g18 (by simp)) s18) rfl ?_
      rw [HX.out]
      have bb := (HF7.out.below bz).b.grown g17 (HF7.out.below bz).b.size (fun k e => by cases e; omega)
      exact ⟨_, _, _, _, rfl, ((M7.out.below bz).putBy (HF7.out.r.below bz) (by decide) g17).putBy ((HF7.out.ra.below bz).kept g17 (by simp)) (by decide) g18, bb.grown g18 bb.size (fun k e => by cases e; omega)⟩
end Go.Proofs.YtlkkpolnllbljaaGreatDoor
/- A scope with labels: the jumps are followed one after the other, as many as there are. -/
namespace Go.Proofs.YtlkkpolnllbljaaGreatDoor
open Go.ChangeShapes Go.WideShapes Go.ChangeAt Go.RowKit

/- What is to hold at a way out of the scope's code c, where up to n jumps are still to come. -/
def Scoped (P : Program) (c : Code) (Q : Exit → Act → World → Prop) : Nat → Exit → Act → World → Prop
  | 0, .goto _, _, _ => False
  | n + 1, .goto l, a, w => ∃ rest, findLabel c l = some rest ∧ rest.wp P (Scoped P c Q n) a w
  | _, e, a, w => Q e a w
theorem scoped_key {P : Program} {c : Code} {Q : Exit → Act → World → Prop} (n : Nat) : ∀ (d : Code) (a : Act) (w : World), d.wp P (Scoped P c Q n) a w →
    ∀ b k cs, ∃ e a' w', Q e a' w' ∧ Arrives P (lone (b.at a (.code d :: .inScope c :: k)) cs w) b k cs e a' w' := by
  induction n with
  | zero =>
    intro d a w h b k cs
    obtain ⟨e, a₁, w₁, hq, harr⟩ := h b (.inScope c :: k) cs
    cases e with
    | normal => exact ⟨.normal, a₁, w₁, hq, Steps.trans harr (.one step_inScope)⟩
    | exit id => exact ⟨.exit id, a₁, w₁, hq, fun k' hk => harr k' (by simp [exitTo, hk])⟩
    | goto l => exact hq.elim
    | ret => exact ⟨_, a₁, w₁, hq, harr⟩
    | panic ch => exact ⟨_, a₁, w₁, hq, harr⟩
    | outgrown => exact ⟨_, a₁, w₁, hq, harr⟩
  | succ n ih =>
    intro d a w h b k cs
    obtain ⟨e, a₁, w₁, hq, harr⟩ := h b (.inScope c :: k) cs
    cases e with
    | normal => exact ⟨.normal, a₁, w₁, hq, Steps.trans harr (.one step_inScope)⟩
    | exit id => exact ⟨.exit id, a₁, w₁, hq, fun k' hk => harr k' (by simp [exitTo, hk])⟩
    | goto l =>
      obtain ⟨rest, hf, hr⟩ := hq
      have hg : gotoIn l (.inScope c :: k) = some (.code rest :: .inScope c :: k) := by simp [gotoIn, hf]
      obtain ⟨e₂, a₂, w₂, hq₂, harr₂⟩ := ih rest a₁ w₁ hr b k cs
      exact ⟨e₂, a₂, w₂, hq₂, .of_steps (harr _ hg) harr₂⟩
    | ret => exact ⟨_, a₁, w₁, hq, harr⟩
    | panic ch => exact ⟨_, a₁, w₁, hq, harr⟩
    | outgrown => exact ⟨_, a₁, w₁, hq, harr⟩
theorem wp_scoped {P : Program} {c : Code} {Q : Exit → Act → World → Prop} {a : Act} {w : World} (n : Nat) (h : c.wp P (Scoped P c Q n) a w) : (Code.scope c).wp P Q a w := by
  intro b k cs
  obtain ⟨e, a', w', hq, harr⟩ := scoped_key n c a w h b k cs
  exact ⟨e, a', w', hq, .of_steps (.one step_scope) harr⟩
theorem scoped_jump {P : Program} {c : Code} {Q : Exit → Act → World → Prop} {a : Act} {w : World} (n l : Nat) (rest : Code) (hf : findLabel c l = some rest) (h : rest.wp P (Scoped P c Q n) a w) : Scoped P c Q (n + 1) (.goto l) a w := ⟨rest, hf, h⟩
theorem scoped_ret {P : Program} {c : Code} {Q : Exit → Act → World → Prop} {a : Act} {w : World} {n : Nat} (h : Q .ret a w) : Scoped P c Q n .ret a w := by cases n <;> exact h
end Go.Proofs.YtlkkpolnllbljaaGreatDoor
/- The last byte of a command, and its fields told apart, by the program: lastByte, readFields. -/
namespace Go.Proofs.YtlkkpolnllbljaaGreatDoor
open Go.ChangeShapes Go.WideShapes Go.ChangeAt Go.RowKit

set_option maxRecDepth 20000 in
set_option maxHeartbeats 1000000 in
theorem ilastB_any (l : Bs) (w : World) (hl : l.length ≤ 1048576) :
    Calls Tryz.prog 68 #[S l] w fun e w' => e = .returned (.int .u8 (sumI l)) ∧ w' = w := by
  have hsz : (⟨l.toArray⟩ : ByteArray).size = l.length := rfl
  unfold S
  go_enter Tryz.func68, Tryz.ntmps68
  go_wp2
  go_loop [3, 7] (fun h i => ∃ j : Nat, j ≤ l.length ∧ i = .int .i64 j ∧ ∃ x : Int, h = .int .u8 x ∧ 0 ≤ x ∧ x < 256 ∧ Hid (x = sumN l j % 256)) (fun _ i => l.length - (intOf i).toNat)
  case atStart => exact ⟨0, Nat.zero_le _, rfl, 0, rfl, by omega, by omega, by simp [Hid, sumN]⟩
  case round =>
    obtain ⟨j, hj, rfl, x, rfl, hx0, hx1, HX⟩ := hrel
    by_cases hlt : (j : Int) < (l.length : Int)
    · go_wp2
      go_round
      case rel =>
        have h1 : j < l.length := by omega
        have h2 : byteI (l.getD j 0) = byteI l[j] := by simp [h1]
        have h3 := sumN_step l j h1
        rw [h2] at h3
        have h4 : ((⟨l.toArray⟩ : ByteArray)[j]'(by omega)).toNat = l[j].toNat := rfl
        refine ⟨j + 1, by omega, by go_num, _, rfl, by omega, by omega, ?_⟩
        rw [Hid, h3, HX.out, h4]
        unfold byteI
        omega
      case measure => simp [intOf]; omega
    · have HE : Hid (sumI l = 255 - x) := by
        have e : j = l.length := by omega
        have h := HX.out
        rw [e] at h
        unfold sumN at h
        rw [List.take_length] at h
        rw [Hid, sumI, h]
      go_wp2
      go_ret
      rw [HE.out]
      exact ⟨rfl, rfl⟩

theorem w8 (x : UInt8) : wrap64 (byteI x) = byteI x := by have := byteI_bd x; exact wrap_small this.1 (by omega)
theorem w16 (x y : UInt8) : wrap64 (wrap64 (byteI x * 256) + byteI y) = byteI x * 256 + byteI y := by
  have := byteI_bd x
  have := byteI_bd y
  rw [wrap_small (x := byteI x * 256) (by omega) (by omega), wrap_small (by omega) (by omega)]
theorem cm_wraps (a b c d e f g i : UInt8) : (⟨wrap64 (wrap64 (byteI a)), wrap64 (wrap64 (byteI b)), wrap64 (wrap64 (wrap64 (wrap64 (byteI c)) * 256) + wrap64 (byteI d)), wrap64 (wrap64 (wrap64 (wrap64 (byteI e)) * 256) + wrap64 (byteI f)), wrap64 (wrap64 (byteI g))⟩ : Cm) = cmOf [a, b, c, d, e, f, g, i] := by
  simp only [w8, w16]
  rfl
theorem two_cmW (w : World) (c d : Cm) : CmB ((w.alloc (.cells (cmA c) 66)).alloc (.cells (cmA d) 66)) w.heap.size 66 c ∧ Below w.heap.size w ((w.alloc (.cells (cmA c) 66)).alloc (.cells (cmA d) 66)) :=
  ⟨(CmB.new w _ c).alloc _, ((Below.refl _ _).alloc (Nat.le_refl _) _).alloc (by simp) _⟩

set_option maxRecDepth 20000 in
set_option maxHeartbeats 4000000 in
theorem ireadF_any (l : Bs) (w : World) (hl : l.length = 8) :
    Calls Tryz.prog 69 #[S l] w fun e w' => e = .returned (CV (cmOf l)) ∧ Below w.heap.size w w' := by
  obtain ⟨a, b, c, d, e, f, g, i, rfl⟩ := eight_of hl
  have ha := byteI_bd a
  have hb := byteI_bd b
  have hc := byteI_bd c
  have hd := byteI_bd d
  have he := byteI_bd e
  have hf := byteI_bd f
  have hg := byteI_bd g
  unfold S
  go_enter Tryz.func69, Tryz.ntmps69
  go_wp2
  refine wp_scoped 11 ?_
  go_wp2
  go_step3
  go_wp2
  go_step3
  refine scoped_jump 10 1 _ rfl ?_
  go_wp2
  go_step3
  refine scoped_jump 9 0 _ rfl ?_
  go_wp2
  go_step3
  refine scoped_jump 8 2 _ rfl ?_
  go_wp2
  go_step3
  refine scoped_jump 7 0 _ rfl ?_
  go_wp2
  go_step3
  refine scoped_jump 6 0 _ rfl ?_
  go_wp2
  go_step3
  refine scoped_jump 5 3 _ rfl ?_
  go_wp2
  go_step3
  refine scoped_jump 4 0 _ rfl ?_
  go_wp2
  go_step3
  refine scoped_jump 3 0 _ rfl ?_
  go_wp2
  go_step3
  refine scoped_jump 2 4 _ rfl ?_
  go_wp2
  go_step3
  refine scoped_jump 1 0 _ rfl ?_
  go_wp2
  go_step3
  refine scoped_jump 0 5 _ rfl ?_
  go_wp2
  refine scoped_ret ?_
  have h := two_cmW w ⟨wrap64 (wrap64 (byteI a)), wrap64 (wrap64 (byteI b)), wrap64 (wrap64 (wrap64 (wrap64 (byteI c)) * 256) + wrap64 (byteI d)), wrap64 (wrap64 (wrap64 (wrap64 (byteI e)) * 256) + wrap64 (byteI f)), wrap64 (wrap64 (byteI g))⟩ ⟨wrap64 (wrap64 (byteI a)), wrap64 (wrap64 (byteI b)), wrap64 (wrap64 (wrap64 (wrap64 (byteI c)) * 256) + wrap64 (byteI d)), wrap64 (wrap64 (wrap64 (wrap64 (byteI e)) * 256) + wrap64 (byteI f)), wrap64 (wrap64 (byteI g))⟩
  refine bodyPost_ret (results_C rfl _ _ w.heap.size _ rfl h.1) rfl ?_
  exact ⟨congrArg (fun c => Ending.returned (CV c)) (cm_wraps a b c d e f g i), h.2⟩
end Go.Proofs.YtlkkpolnllbljaaGreatDoor
/- ShowCmd and ReadCmd of the program. -/
namespace Go.Proofs.YtlkkpolnllbljaaGreatDoor
open Go.ChangeShapes Go.WideShapes Go.ChangeAt Go.RowKit

theorem extract_take (l : Bs) (b : Nat) : (⟨l.toArray⟩ : ByteArray).extract 0 b = ⟨(l.take b).toArray⟩ := by
  apply ByteArray.ext
  rw [ByteArray.data_extract]
  simp [List.extract_toArray]

set_option maxRecDepth 20000 in
set_option maxHeartbeats 2000000 in
theorem ireadC_any (s : Bs) (w : World) (hl : s.length ≤ 1048576) :
    Calls Tryz.prog 25 #[S s] w fun e w' => e = .returned (.tuple #[CV (readC s), .int .i64 (codeC s)]) ∧ Below w.heap.size w w' := by
  have hsz : (⟨s.toArray⟩ : ByteArray).size = s.length := rfl
  obtain ⟨w2, hw2⟩ : ∃ w2, w2 = w.alloc (.cells (cmA Cm.zero) 66) := ⟨_, rfl⟩
  have Z2 : CmB w2 w.heap.size 66 Cm.zero := by rw [hw2]; exact CmB.new w _ _
  have B2 : Below w.heap.size w w2 := by rw [hw2]; exact (Below.refl _ _).alloc (Nat.le_refl _) _
  unfold cmA Cm.zero at hw2
  dsimp only at hw2
  unfold S
  by_cases h8 : (s.length : Int) < 8
  · have HE : Hid (codeC s = 1 ∧ readC s = Cm.zero) := code_short (by omega)
    go_enter Tryz.func25, Tryz.ntmps25
    go_wp2
    rw [← hw2]
    refine bodyPost_ret (results_C2 rfl _ _ w.heap.size _ _ rfl rfl Z2) rfl ?_
    rw [HE.out.1, HE.out.2]
    exact ⟨rfl, B2⟩
  · by_cases h9 : 8 < (s.length : Int)
    · have HE : Hid (codeC s = 2 ∧ readC s = Cm.zero) := code_long (by omega)
      go_enter Tryz.func25, Tryz.ntmps25
      go_wp2
      rw [← hw2]
      refine bodyPost_ret (results_C2 rfl _ _ w.heap.size _ _ rfl rfl Z2) rfl ?_
      rw [HE.out.1, HE.out.2]
      exact ⟨rfl, B2⟩
    · have hl8 : s.length = 8 := by omega
      have H1 : Hid (byteI (s.getD 7 0) ≠ sumI (s.take 7) → codeC s = 3 ∧ readC s = Cm.zero) := code_sum hl8
      have H2 : Hid (byteI (s.getD 7 0) = sumI (s.take 7) → inI (cmOf s).o 1 12 = false → codeC s = 4 ∧ readC s = Cm.zero) := code_op hl8
      have H3 : Hid (byteI (s.getD 7 0) = sumI (s.take 7) → inI (cmOf s).o 1 12 = true → (cmOf s).ok = false → codeC s = 5 ∧ readC s = Cm.zero) := code_field hl8
      have H4 : Hid (byteI (s.getD 7 0) = sumI (s.take 7) → (cmOf s).ok = true → codeC s = 0 ∧ readC s = cmOf s) := code_ok hl8
      have cs := fun wx => ilastB_any (s.take 7) wx (by simp; omega)
      have cf := fun wx => ireadF_any s wx hl8
      have c2 := fun wx => iop_any (cmOf s).o wx
      have c3 := fun wx => icmdok_any (cmOf s) wx
      have h7 : 7 < s.length := by omega
      have e7 : byteI (s.getD 7 0) = (((⟨s.toArray⟩ : ByteArray)[7]'h7).toNat : Int) := by
        rw [List.getD_eq_getElem?_getD, List.getElem?_eq_getElem h7]
        rfl
      have hex := extract_take s 7
      rw [e7] at H1 H2 H3 H4
      obtain ⟨z, hz⟩ : ∃ z, z = sumI (s.take 7) := ⟨_, rfl⟩
      rw [← hz] at H1 H2 H3 H4
      simp only [← hz] at cs
      obtain ⟨c, hc⟩ : ∃ c, c = cmOf s := ⟨_, rfl⟩
      rw [← hc] at H2 H3 H4
      simp only [← hc] at cf c2 c3
      unfold S at cs cf
      have hl8' : (s.length : Int) = 8 := by omega
      clear e7 hz hc hl8 hl h8 h9
      have HW : Hid (w2 = w.alloc (.cells #[.int .i64 0, .int .i64 0, .int .i64 0, .int .i64 0, .int .i64 0] 66)) := hw2
      have hws : w.heap.size < w2.heap.size := Z2.lt
      clear hw2
      go_enter Tryz.func25, Tryz.ntmps25
      go_wp2
      rw [← HW.out]
      go_quiet ((go_at_call 68; exact Calls.quiet_of_same (cs _)))
      obtain ⟨w5, hw5⟩ : ∃ w5, w5 = w2.drewN nq := ⟨_, rfl⟩
      have Z5 : CmB w5 w.heap.size 66 Cm.zero := by rw [hw5]; exact Z2
      have B5 : Below w.heap.size w w5 := by rw [hw5]; exact below_drewN B2 nq
      have hsz5 : w.heap.size < w5.heap.size := Z5.lt
      rw [← hw5]
      clear hw5 HW hws Z2 B2 cs hex
      by_cases hd : (((⟨s.toArray⟩ : ByteArray)[7]'h7).toNat : Int) = z
      · have HA : Hid (inI c.o 1 12 = false → codeC s = 4 ∧ readC s = Cm.zero) := H2.out hd
        have HB : Hid (inI c.o 1 12 = true → c.ok = false → codeC s = 5 ∧ readC s = Cm.zero) := H3.out hd
        have HD : Hid (c.ok = true → codeC s = 0 ∧ readC s = c) := H4.out hd
        clear H1 H2 H3 H4
        obtain ⟨b1, hb1⟩ : ∃ b1, b1 = inI c.o 1 12 := ⟨_, rfl⟩
        obtain ⟨b2, hb2⟩ : ∃ b2, b2 = c.ok := ⟨_, rfl⟩
        rw [← hb1] at HA HB
        rw [← hb2] at HB HD
        simp only [← hb1] at c2
        simp only [← hb2] at c3
        clear hb1 hb2
        unfold CV cmA at cf c3
        go_wp2_with fail
        refine (cf _).mono ?_
        rintro e w3 ⟨rfl, b3⟩
        have Z3 := Z5.below b3
        have B3 := B5.trans (b3.mono B5.size)
        obtain ⟨w4, hw4⟩ : ∃ w4, w4 = w3.alloc (.cells #[.int .i64 c.o, .int .i64 c.p, .int .i64 c.a, .int .i64 c.b, .int .i64 c.k] 66) := ⟨_, rfl⟩
        have Z4 : CmB w4 w.heap.size 66 Cm.zero := by rw [hw4]; exact Z3.alloc _
        have M4 : CmB w4 w3.heap.size 66 c := by rw [hw4]; exact CmB.new w3 _ c
        have B4 : Below w.heap.size w w4 := by rw [hw4]; exact B3.alloc B3.size _
        have HW : Hid (w4 = w3.alloc (.cells #[.int .i64 c.o, .int .i64 c.p, .int .i64 c.a, .int .i64 c.b, .int .i64 c.k] 66)) := hw4
        have hs4 : w.heap.size < w4.heap.size := Z4.lt
        have hne : w.heap.size ≠ w3.heap.size := by have := Z3.lt; omega
        clear hw4 b3 Z5 B5 Z3 B3 cf hsz5
        go_wp2_with fail
        rw [← HW.out]
        refine (c2 _).mono ?_
        rintro e w' ⟨rfl, hw'⟩; subst w'
        clear c2 HW
        cases b1 with
        | false =>
          have HE := HA.out rfl
          go_wp2_with (refine wpList_putC rfl _ _ rfl w.heap.size Cm.zero Cm.zero rfl rfl Z4 ?_; intro w6 R6 G6)
          refine bodyPost_ret (results_C2 rfl _ _ w.heap.size _ _ rfl rfl R6) rfl ?_
          rw [HE.1, HE.2]
          exact ⟨rfl, B4.grown G6 (by omega) (fun k e => by cases e; exact Nat.le_refl _)⟩
        | true =>
          have HB2 : Hid (b2 = false → codeC s = 5 ∧ readC s = Cm.zero) := HB.out rfl
          clear HB
          go_wp2_with (refine wpList_getC rfl _ rfl w3.heap.size rfl c M4 ?_; unfold CV cmA)
          refine (c3 _).mono ?_
          rintro e w6 ⟨rfl, b6⟩
          have Z6 := Z4.below b6
          have M6 := M4.below b6
          have B6 := B4.trans (b6.mono B4.size)
          have hs6 := Z6.lt
          clear c3 b6 Z4 M4 B4
          cases b2 with
          | false =>
            have HE := HB2.out rfl
            go_wp2_with (refine wpList_putC rfl _ _ rfl w.heap.size Cm.zero Cm.zero rfl rfl Z6 ?_; intro w7 R7 G7)
            refine bodyPost_ret (results_C2 rfl _ _ w.heap.size _ _ rfl rfl R7) rfl ?_
            rw [HE.1, HE.2]
            exact ⟨rfl, B6.grown G7 (by omega) (fun k e => by cases e; exact Nat.le_refl _)⟩
          | true =>
            have HE := HD.out rfl
            go_wp2_with (first | (refine wpList_getC rfl _ rfl w3.heap.size rfl c M6 ?_) | (refine wpList_putC rfl _ _ rfl w.heap.size c Cm.zero rfl rfl Z6 ?_; intro w7 R7 G7))
            refine bodyPost_ret (results_C2 rfl _ _ w.heap.size _ _ rfl rfl R7) rfl ?_
            rw [HE.1, HE.2]
            exact ⟨rfl, B6.grown G7 (by omega) (fun k e => by cases e; exact Nat.le_refl _)⟩
      · have HE := H1.out hd
        have hne7 : ((((⟨s.toArray⟩ : ByteArray)[7]'h7).toNat : Int) != z) = true := by simpa using hd
        clear H1 H2 H3 H4 cf c2 c3
        go_wp2_with (refine wpList_putC rfl _ _ rfl w.heap.size Cm.zero Cm.zero rfl rfl Z5 ?_; intro w6 R6 G6)
        refine bodyPost_ret (results_C2 rfl _ _ w.heap.size _ _ rfl rfl R6) rfl ?_
        rw [HE.1, HE.2]
        exact ⟨rfl, B5.grown G6 (by omega) (fun k e => by cases e; exact Nat.le_refl _)⟩
end Go.Proofs.YtlkkpolnllbljaaGreatDoor
