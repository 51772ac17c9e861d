/- A house that is asked, by the program: commanded. -/
import Derived.Test.YthldeiojlllkdaaGreatDoorM1
import Derived.Test.YthldeiojlllkdaaGreatDoorM35
import Derived.Test.YthldeiojlllkdaaGreatDoorM21
import Derived.Scope
import Derived.ScopeJumps
import Derived.WalkMore
import Derived.WalkKit
import Derived.Test.YthldeiojlllkdaaGreatDoorM32
import Derived.Test.YthldeiojlllkdaaGreatDoorM24
import Derived.Deep.QuietTactic
import Derived.BigQuiet
set_option maxRecDepth 20000
set_option maxHeartbeats 8000000
namespace Go.Proofs.YthldeiojlllkdaaGreatDoor
open Go.ChangeShapes Go.WideShapes Go.ChangeAt Go.RowKit
theorem zg (a b k q z:Value) (n:Nd) (i:Int) (c:Cm) (w:World) (base:Nat) (hm:aO w base a b k q z n) (hb:base<=w.heap.size) (hl:SmN n) (ht:nj w):
  Calls Tryz.prog 29 #[NdV a b k q z n,.int .i64 i,CV c] w fun e w'=>∃a' b' k' q',e=.returned (.tuple #[NdV a' b' k' q' z (n.cmd i c).1,AV (n.cmd i c).2])/\aO w' base a' b' k' q' z (n.cmd i c).1/\bB w w':=by
 have HR:Hid (∀wx,bB w wx->RdN wx a b k q z n):=fun wx B=>hm.reads.below B
 have CS:Hid (∀wx,bB w wx->Calls Tryz.prog 64 #[NdV a b k q z n] wx fun e w'=>e=.returned (SRV a b k n.h)/\bB wx w'):=fun wx B=>iJ a b k q z n wx (HR.out wx B)
 have HE:Hid (n.cmd i c=({n with xs:=(Sr.did ⟨n.xs,n.ys,n.h⟩ i c).1.xs,ys:=(Sr.did ⟨n.xs,n.ys,n.h⟩ i c).1.ys,h:=(Sr.did ⟨n.xs,n.ys,n.h⟩ i c).1.h,c:=if decide ((Sr.did ⟨n.xs,n.ys,n.h⟩ i c).2.st=0)&&c.chg then n.c.Mark c.p else n.c},(Sr.did ⟨n.xs,n.ys,n.h⟩ i c).2)):=rfl;have CD:Hid (∀wx,bB w wx->Calls Tryz.prog 77 #[SRV a b k n.h,.int .i64 i,CV c] wx fun e w'=>∃a b k,e=.returned (.tuple #[SRV a b k (Sr.did ⟨n.xs,n.ys,n.h⟩ i c).1.h,AV (Sr.did ⟨n.xs,n.ys,n.h⟩ i c).2])/\aY w' wx.heap.size a b k (Sr.did ⟨n.xs,n.ys,n.h⟩ i c).1.xs (Sr.did ⟨n.xs,n.ys,n.h⟩ i c).1.ys (Sr.did ⟨n.xs,n.ys,n.h⟩ i c).1.h.ks/\bB wx w'):=fun wx B=>pF a b k n.xs n.ys n.h i c wx (HR.out wx B).ra (HR.out wx B).rb (HR.out wx B).rk (by have:=hl.la;omega) (by have:=hl.lb;omega) (by have:=hl.lk;omega) (ht.below B)
 have CG:Hid (∀wx,Calls Tryz.prog 78 #[CV c] wx fun e w'=>e=.returned (.bool c.chg)/\bB wx w'):=fun wx=>tw c wx
 have CM:Hid (∀wx,bB w wx->Calls Tryz.prog 79 #[CpV q n.c,.int .i64 c.p] wx fun e w'=>∃u,e=.returned (CpV u (n.c.Mark c.p))/\bO w' wx.heap.size u (n.c.Mark c.p).ts/\bB wx w'):=fun wx B=>tz q n.c c.p wx (HR.out wx B).rq (by have:=hl.lq;omega)
 obtain⟨x,hx⟩:=eX (n.cmd i c)
 rw[<-hx]at HE⊢;clear hx;obtain⟨d,hd⟩:=eX (Sr.did ⟨n.xs,n.ys,n.h⟩ i c)
 rw[<-hd]at HE CD;clear hd;obtain⟨s,an⟩:=d;dsimp only at HE CD;have HM:Hid (aO w base a b k q z n/\base<=w.heap.size):=⟨hm,hb⟩
 obtain⟨ao,ac,rfl⟩:=aa hm.oa.reads;obtain⟨bo,bc,rfl⟩:=aa hm.ob.reads;obtain⟨ko,kc,rfl⟩:=aa hm.ok.reads;obtain⟨qo,qc,rfl⟩:=aa hm.oq.reads;obtain⟨zo,zc,rfl⟩:=aa hm.oz.reads;obtain⟨w1,hw1⟩:=eX ((((w.alloc (.cells (ndA (.slice ao n.xs.length ac) (.slice bo n.ys.length bc) (.slice ko n.h.ks.length kc) (.slice qo n.c.ts.length qc) (.slice zo n.s.ts.length zc) n) 42)).alloc (.cells (cmA c) 66)).alloc (.cells aA 42)).alloc (.cells (anA ⟨0,[]⟩) 44))
 have HF:Hid (fW w w1 (ndA (.slice ao n.xs.length ac) (.slice bo n.ys.length bc) (.slice ko n.h.ks.length kc) (.slice qo n.c.ts.length qc) (.slice zo n.s.ts.length zc) n) c):=by rw[hw1];exact fW.start w _ c
 clear hm hb hl ht HR;unfold SRV AV at CD;unfold SRV at CS;unfold CpV cpA at CM;unfold ndA aA cmA anA S at hw1;unfold NdV at CS⊢;unfold CV at CD CG⊢;conv in ndA (.slice ao n.xs.length ac) _ _ _ _ _=>unfold ndA S
 conv in cmA c=>unfold cmA
 go_enter Tryz.func29,Tryz.ntmps29;go_upto_region 1 with fail
 rw[<-hw1];clear hw1;obtain⟨C,hCd⟩:=eX (fun x=>bB w1 x)
 have HQ:Hid (∀x,C x->bB w1 x):=by rw[hCd];exact fun _ h=>h
 have HN:Hid (∀x y,C x->dQ x y->C y):=by rw[hCd];exact fun _ _ h b=>h.trans (b.mono h.size)
 have H0:Hid (C w1.drew):=by rw[hCd];exact(Below.refl _ _).drew
 have hne:Nonempty (Kin C):=⟨⟨_,H0.out⟩⟩
 clear hCd;refine eY (C:=C) (E:=iM fun d=>if d=12 then some (isG (.agg (srA (.slice ao n.xs.length ac) (.slice bo n.ys.length bc) (.slice ko n.h.ks.length kc) n.h)))else if d=15 then some (tf w1.heap.size s an)else if d=8 then some (alG w1.heap.size 96 zeR)else if d=9 then some (alG w1.heap.size 44 (anA ⟨0,[]⟩))else none) (R:=dQ) HN.out (dY (by intro d s hs u x y hx hl;split at hs;(cases hs;trivial);split at hs;(cases hs;exact nR hx hl);split at hs;(cases hs;exact jp hx hl);split at hs;(cases hs;exact jp hx hl);cases hs)) 7 _ _ (dZ _ _) (by kernel_rfl) (by kernel_rfl) (by kernel_rfl) (by kernel_rfl) (by simp) (by simp) rfl rfl rfl rfl rfl rfl (fun _=>rfl) (fun a v=>execOp_put (ops:=#[]) _ (by intro cs b h;cases h) a _ v (by intro d hd;cases hd;decide)) H0.out ?_;refine dz Tryz.isNd rfl (by first|rfl|kernel_rfl) _ rfl w.heap.size rfl (ndA (.slice ao n.xs.length ac) (.slice bo n.ys.length bc) (.slice ko n.h.ks.length kc) (.slice qo n.c.ts.length qc) (.slice zo n.s.ts.length zc) n) rfl (fun y=>HF.out.p.below (HQ.out _ y.h)) ?_;refine fp (isG (.agg (srA (.slice ao n.xs.length ac) (.slice bo n.ys.length bc) (.slice ko n.h.ks.length kc) n.h))) rfl (by first|rfl|kernel_rfl) (fun wq hB=>?_) (fun uq hu=>?_)
 ·go_simp
  refine⟨rfl,?_⟩;exact DM (CS.out _ (HF.out.b.trans ((HQ.out _ hB.1).mono HF.out.b.size)))
 obtain rfl:=hu;iterate 1 (refine eP rfl (fun K hK=>?_);go_simp;refine hK _ ?_;clear hK K)
 refine dz nQ rfl (by first|rfl|kernel_rfl) _ rfl (w.heap.size+1) rfl (cmA c) rfl (fun y=>HF.out.c.below (HQ.out _ y.h)) ?_;refine fp (tf w1.heap.size s an) rfl (by first|rfl|kernel_rfl) (fun wq hB=>?_) (fun uq hu=>?_)
 ·go_simp
  refine⟨rfl,?_⟩;exact xX (HQ.out _ hB.1).size (CD.out _ (HF.out.b.trans ((HQ.out _ hB.1).mono HF.out.b.size)))
 obtain⟨a1,a2,b1,b2,k1,k2,rfl⟩:=hu;iterate 3 (refine eP rfl (fun K hK=>?_);go_simp;refine hK _ ?_;clear hK K)
 refine fp (alG w1.heap.size 96 zeR) rfl (by first|rfl|kernel_rfl) (fun wq hB=>?_) (fun uq hu=>?_)
 ·go_simp
  exact rI (HQ.out _ hB.1).size
 obtain⟨g8,rfl⟩:=hu;refine fp (alG w1.heap.size 44 (anA ⟨0,[]⟩)) rfl (by first|rfl|kernel_rfl) (fun wq hB=>?_) (fun uq hu=>?_)
 ·go_simp
  exact rI (HQ.out _ hB.1).size
 obtain⟨g9,rfl⟩:=hu;refine i7 (fun w4 hz=>?_);have bz:=HQ.out _ hz.1;have q9:=hz.2 _ (List.mem_cons_self ..) g9 rfl;have q8:=hz.2 _ (List.mem_cons_of_mem _ (List.mem_cons_self ..)) g8 rfl;have qd:=hz.2 _ (List.mem_cons_of_mem _ (List.mem_cons_of_mem _ (List.mem_cons_self ..))) _ _ _ _ _ _ _ rfl;refine gD Tryz.isR _ _ rfl g8 (srA (.slice a1 s.xs.length a2) (.slice b1 s.ys.length b2) (.slice k1 s.h.ks.length k2) s.h) zeR rfl rfl rfl rfl (ec s.h rfl rfl rfl) q8.1 ?_;intro w5 s5 g5;refine⟨trivial,?_⟩;refine fI Tryz.isA rfl rfl _ _ rfl g9 (anA an) (anA ⟨0,[]⟩) rfl rfl rfl rfl (aB _) (q9.1.keptT q8.1 g5 (by decide)) ?_;intro w6 s6 g6;have hlt:=HF.out.lt;have HF6:Hid (fW w w6 (ndA (.slice ao n.xs.length ac) (.slice bo n.ys.length bc) (.slice ko n.h.ks.length kc) (.slice qo n.c.ts.length qc) (.slice zo n.s.ts.length zc) n) c):=((HF.out.below bz).kept g5 (by have:=q8.2;omega)).kept g6 (by have:=q9.2;omega);have V6:Hid (StB w6 g8 96 (srA (.slice a1 s.xs.length a2) (.slice b1 s.ys.length b2) (.slice k1 s.h.ks.length k2) s.h)/\StB w6 g9 44 (anA an)/\w.heap.size+4<=g8/\w.heap.size+4<=g9):=⟨s5.keptT (q9.1.keptT q8.1 g5 (by decide)) g6 (by decide),s6,by have:=q8.2;omega,by have:=q9.2;omega⟩
 have M6:Hid (aO w6 base (.slice a1 s.xs.length a2) (.slice b1 s.ys.length b2) (.slice k1 s.h.ks.length k2) (.slice qo n.c.ts.length qc) (.slice zo n.s.ts.length zc) {n with xs:=s.xs,ys:=s.ys,h:=s.h}):=((HM.out.1.did HM.out.2 (HF.out.b.trans (bz.mono HF.out.b.size)) (qd.mono HF.out.b.size)).putBy q8.1 (by decide) g5).putBy (q9.1.keptT q8.1 g5 (by decide)) (by decide) g6;clear s5 s6 g5 g6 qd q8 q9 bz hz hlt HQ HN H0 hne CS CD HF;have u0:w6.cell? ⟨g8,0,none⟩=some (.slice a1 s.xs.length a2):=V6.out.1.cell 0 rfl;have s0:w6.drew.cell? ⟨g8,0,none⟩=some (.slice a1 s.xs.length a2):=V6.out.1.dr.cell 0 rfl;have v2:w6.cell? ⟨w.heap.size,2,none⟩=some (.slice ao n.xs.length ac):=HF6.out.p.cell 2 rfl;have p2:w6.drew.cell? ⟨w.heap.size,2,none⟩=some (.slice ao n.xs.length ac):=HF6.out.p.dr.cell 2 rfl;have fv2:w6.frozen? ⟨w.heap.size,2,none⟩=false:=HF6.out.p.frozen 2;have fp2:w6.drew.frozen? ⟨w.heap.size,2,none⟩=false:=HF6.out.p.dr.frozen 2;have u1:w6.cell? ⟨g8,1,none⟩=some (.slice b1 s.ys.length b2):=V6.out.1.cell 1 rfl;have s1:w6.drew.cell? ⟨g8,1,none⟩=some (.slice b1 s.ys.length b2):=V6.out.1.dr.cell 1 rfl;have v3:w6.cell? ⟨w.heap.size,3,none⟩=some (.slice bo n.ys.length bc):=HF6.out.p.cell 3 rfl;have p3:w6.drew.cell? ⟨w.heap.size,3,none⟩=some (.slice bo n.ys.length bc):=HF6.out.p.dr.cell 3 rfl;have fv3:w6.frozen? ⟨w.heap.size,3,none⟩=false:=HF6.out.p.frozen 3;have fp3:w6.drew.frozen? ⟨w.heap.size,3,none⟩=false:=HF6.out.p.dr.frozen 3;have u2:w6.cell? ⟨g8,2,none⟩=some (.slice k1 s.h.ks.length k2):=V6.out.1.cell 2 rfl;have s2:w6.drew.cell? ⟨g8,2,none⟩=some (.slice k1 s.h.ks.length k2):=V6.out.1.dr.cell 2 rfl;have v4:w6.cell? ⟨w.heap.size,4,none⟩=some (.slice ko n.h.ks.length kc):=HF6.out.p.cell 4 rfl;have p4:w6.drew.cell? ⟨w.heap.size,4,none⟩=some (.slice ko n.h.ks.length kc):=HF6.out.p.dr.cell 4 rfl;have fv4:w6.frozen? ⟨w.heap.size,4,none⟩=false:=HF6.out.p.frozen 4;have fp4:w6.drew.frozen? ⟨w.heap.size,4,none⟩=false:=HF6.out.p.dr.frozen 4;have u3:w6.cell? ⟨g8,3,none⟩=some (.int .i64 s.h.kd):=V6.out.1.cell 3 rfl;have s3:w6.drew.cell? ⟨g8,3,none⟩=some (.int .i64 s.h.kd):=V6.out.1.dr.cell 3 rfl;have v5:w6.cell? ⟨w.heap.size,5,none⟩=some (.int .i64 n.h.kd):=HF6.out.p.cell 5 rfl;have p5:w6.drew.cell? ⟨w.heap.size,5,none⟩=some (.int .i64 n.h.kd):=HF6.out.p.dr.cell 5 rfl;have fv5:w6.frozen? ⟨w.heap.size,5,none⟩=false:=HF6.out.p.frozen 5;have fp5:w6.drew.frozen? ⟨w.heap.size,5,none⟩=false:=HF6.out.p.dr.frozen 5;have u4:w6.cell? ⟨g8,4,none⟩=some (.int .i64 s.h.ho):=V6.out.1.cell 4 rfl;have s4:w6.drew.cell? ⟨g8,4,none⟩=some (.int .i64 s.h.ho):=V6.out.1.dr.cell 4 rfl;have v6:w6.cell? ⟨w.heap.size,6,none⟩=some (.int .i64 n.h.ho):=HF6.out.p.cell 6 rfl;have p6:w6.drew.cell? ⟨w.heap.size,6,none⟩=some (.int .i64 n.h.ho):=HF6.out.p.dr.cell 6 rfl;have fv6:w6.frozen? ⟨w.heap.size,6,none⟩=false:=HF6.out.p.frozen 6;have fp6:w6.drew.frozen? ⟨w.heap.size,6,none⟩=false:=HF6.out.p.dr.frozen 6;have u5:w6.cell? ⟨g8,5,none⟩=some (.int .i64 s.h.tu):=V6.out.1.cell 5 rfl;have s5:w6.drew.cell? ⟨g8,5,none⟩=some (.int .i64 s.h.tu):=V6.out.1.dr.cell 5 rfl;have v7:w6.cell? ⟨w.heap.size,7,none⟩=some (.int .i64 n.h.tu):=HF6.out.p.cell 7 rfl;have p7:w6.drew.cell? ⟨w.heap.size,7,none⟩=some (.int .i64 n.h.tu):=HF6.out.p.dr.cell 7 rfl;have fv7:w6.frozen? ⟨w.heap.size,7,none⟩=false:=HF6.out.p.frozen 7;have fp7:w6.drew.frozen? ⟨w.heap.size,7,none⟩=false:=HF6.out.p.dr.frozen 7;obtain⟨w7,hw7⟩:=eX (((((((w6.setCell ⟨w.heap.size,2,none⟩ (.slice a1 s.xs.length a2)).setCell ⟨w.heap.size,3,none⟩ (.slice b1 s.ys.length b2)).setCell ⟨w.heap.size,4,none⟩ (.slice k1 s.h.ks.length k2)).setCell ⟨w.heap.size,5,none⟩ (.int .i64 s.h.kd)).setCell ⟨w.heap.size,6,none⟩ (.int .i64 s.h.ho)).setCell ⟨w.heap.size,7,none⟩ (.int .i64 s.h.tu)).drew)
 have HF7:Hid (fW w w7 (ndA (.slice a1 s.xs.length a2) (.slice b1 s.ys.length b2) (.slice k1 s.h.ks.length k2) (.slice qo n.c.ts.length qc) (.slice zo n.s.ts.length zc) {n with xs:=s.xs,ys:=s.ys,h:=s.h}) c):=by
  rw[hw7];exact fW.below ((((((HF6.out.put 2 (.slice a1 s.xs.length a2) rfl).put 3 (.slice b1 s.ys.length b2) rfl).put 4 (.slice k1 s.h.ks.length k2) rfl).put 5 (.int .i64 s.h.kd) rfl).put 6 (.int .i64 s.h.ho) rfl).put 7 (.int .i64 s.h.tu) rfl) (Below.refl _ _).drew
 have T7:Hid (aw w6 w7 [w.heap.size]):=by
  rw[hw7];exact Cy w6 w.heap.size 2 3 4 5 6 7 _ _ _ _ _ _
 have M7:Hid (aO w7 base (.slice a1 s.xs.length a2) (.slice b1 s.ys.length b2) (.slice k1 s.h.ks.length k2) (.slice qo n.c.ts.length qc) (.slice zo n.s.ts.length zc) {n with xs:=s.xs,ys:=s.ys,h:=s.h}):=M6.out.turned T7.out HF6.out.p (by decide);have V7:Hid (StB w7 g9 44 (anA an)/\w.heap.size+4<=g9):=⟨V6.out.2.1.turned T7.out (by simp;have:=V6.out.2.2.2;omega),V6.out.2.2.2⟩
 have hn1:¬g8=w.heap.size:=by have:=V6.out.2.2.1;omega
 have hn2:¬w.heap.size=g8:=fun e=>hn1 e.symm
 clear T7;go_upto_region 2 with fail
 go_region
 all_goals
  rw[<-hw7];clear hw7 hn1 hn2 V6 M6 HF6 u0 s0 v2 p2 fv2 fp2 u1 s1 v3 p3 fv3 fp3 u2 s2 v4 p4 fv4 fp4 u3 s3 v5 p5 fv5 fp5 u4 s4 v6 p6 fv6 fp6 u5 s5 v7 p7 fv7 fp7;have y0:w7.cell? ⟨g9,0,none⟩=some (.int .i64 an.st):=V7.out.1.cell 0 rfl;by_cases hst:an.st=0
  ·go_wp2_with (first|(refine ah nQ rfl _ rfl (w.heap.size+1) rfl (cmA c) rfl HF7.out.c ?_)|(refine aC nQ rfl _ rfl (w.heap.size+1) rfl (cmA c) rfl HF7.out.c ?_))
   refine(CG.out w7).mono ?_;rintro e w8 ⟨rfl,b8⟩;have HF8:Hid (fW w w8 (ndA (.slice a1 s.xs.length a2) (.slice b1 s.ys.length b2) (.slice k1 s.h.ks.length k2) (.slice qo n.c.ts.length qc) (.slice zo n.s.ts.length zc) {n with xs:=s.xs,ys:=s.ys,h:=s.h}) c):=HF7.out.below b8;have M8:Hid (aO w8 base (.slice a1 s.xs.length a2) (.slice b1 s.ys.length b2) (.slice k1 s.h.ks.length k2) (.slice qo n.c.ts.length qc) (.slice zo n.s.ts.length zc) {n with xs:=s.xs,ys:=s.ys,h:=s.h}):=M7.out.below b8;have V8:Hid (StB w8 g9 44 (anA an)/\w.heap.size+4<=g9):=⟨V7.out.1.below b8,V7.out.2⟩
   clear HF7 M7 V7 b8 y0 CG;cases hch:c.chg with
   |false=>
    have HX:Hid (x=({n with xs:=s.xs,ys:=s.ys,h:=s.h},an)):=by show x=_;rw[HE.out,if_neg (by simp[hch])]
    go_upto_region 5 with fail
    obtain⟨C,hCd⟩:=eX (fun x=>bB w8 x)
    have HQ:Hid (∀x,C x->bB w8 x):=by rw[hCd];exact fun _ h=>h
    have HN:Hid (∀x y,C x->dQ x y->C y):=by rw[hCd];exact fun _ _ h b=>h.trans (b.mono h.size)
    have H0:Hid (C w8.drew):=by rw[hCd];exact(Below.refl _ _).drew
    have hne:Nonempty (Kin C):=⟨⟨_,H0.out⟩⟩
    clear hCd;refine du (fun a=>a.eval (.tmp 9)=.pointer (some ⟨g9,0,none⟩)) (fun x y=>x.grownBy y (some (w.heap.size+1+1))) (C:=C) (E:=iM fun _=>none) (R:=dQ) HN.out (dY (by intro d s hs;cases hs)) 1 _ _ (dZ _ _) (by kernel_rfl) (by kernel_rfl) (by kernel_rfl) (by kernel_rfl) (by simp) (by simp) rfl rfl rfl rfl rfl (xY (by kernel_rfl)) rfl (fun a x y v ja cx dd hq=>iC Tryz.isA _ rfl g9 ja (anA an) rfl (V8.out.1.below (HQ.out _ cx)) ((V8.out.1.below (HQ.out _ cx)).kept dd (by simp;have:=V8.out.2;omega)) hq) (fun _=>rfl) (fun a v=>execOp_put (ops:=#[]) _ (by intro cs b h;cases h) a _ v (by intro d hd;cases hd;decide)) H0.out ?_;refine dz Tryz.isNd rfl (by first|rfl|kernel_rfl) _ rfl w.heap.size rfl (ndA (.slice a1 s.xs.length a2) (.slice b1 s.ys.length b2) (.slice k1 s.h.ks.length k2) (.slice qo n.c.ts.length qc) (.slice zo n.s.ts.length zc) {n with xs:=s.xs,ys:=s.ys,h:=s.h}) rfl (fun y=>HF8.out.p.below (HQ.out _ y.h)) ?_;refine dz Tryz.isA rfl (by first|rfl|kernel_rfl) _ rfl g9 rfl (anA an) rfl (fun y=>V8.out.1.below (HQ.out _ y.h)) ?_;refine i7 (fun w16 hz=>?_);have bz:=HQ.out _ hz.1;refine gD Tryz.isNd _ _ rfl (w.heap.size+1+1) (ndA (.slice a1 s.xs.length a2) (.slice b1 s.ys.length b2) (.slice k1 s.h.ks.length k2) (.slice qo n.c.ts.length qc) (.slice zo n.s.ts.length zc) {n with xs:=s.xs,ys:=s.ys,h:=s.h}) aA rfl rfl rfl rfl (dj _ rfl rfl rfl rfl rfl) (HF8.out.r.below bz) ?_;intro w17 s17 g17;refine⟨g17,?_⟩;refine fI Tryz.isA rfl rfl _ _ rfl (w.heap.size+1+1+1) (anA an) (anA ⟨0,[]⟩) rfl rfl rfl rfl (aB _) ((HF8.out.ra.below bz).kept g17 (by simp)) ?_;intro w18 s18 g18;go_wp2_with fail
    refine bodyPost_ret (cZ rfl _ _ (w.heap.size+1+1) (w.heap.size+1+1+1) _ _ rfl rfl rfl rfl (s17.kept g18 (by simp)) s18) rfl ?_;rw[HX.out];have bb:=(HF8.out.below bz).b.grown g17 (HF8.out.below bz).b.size (fun k e=>by cases e;omega);exact⟨_,_,_,_,rfl,((M8.out.below bz).putBy (HF8.out.r.below bz) (by decide) g17).putBy ((HF8.out.ra.below bz).kept g17 (by simp)) (by decide) g18,bb.grown g18 bb.size (fun k e=>by cases e;omega)⟩
   |true=>
    have HX:Hid (x=({n with xs:=s.xs,ys:=s.ys,h:=s.h,c:=n.c.Mark c.p},an)):=by show x=_;rw[HE.out,if_pos (by simp[hch,hst])]
    have p13:w8.cell? ⟨w.heap.size,13,none⟩=some (.int .i64 n.c.tr):=HF8.out.p.cell 13 rfl;have p14:w8.cell? ⟨w.heap.size,14,none⟩=some (.bool n.c.op):=HF8.out.p.cell 14 rfl;have p15:w8.cell? ⟨w.heap.size,15,none⟩=some (.int .i64 n.c.di):=HF8.out.p.cell 15 rfl;have p16:w8.cell? ⟨w.heap.size,16,none⟩=some (.int .i64 n.c.wa):=HF8.out.p.cell 16 rfl;have p17:w8.cell? ⟨w.heap.size,17,none⟩=some (.slice qo n.c.ts.length qc):=HF8.out.p.cell 17 rfl;have c1:w8.cell? ⟨w.heap.size+1,1,none⟩=some (.int .i64 c.p):=HF8.out.c.cell 1 rfl;go_wp2_with fail
    refine(CM.out w8 HF8.out.b).mono ?_;rintro e w9 ⟨u,rfl,o9,b9⟩;obtain⟨u1,u2,rfl⟩:=aa o9.reads;clear p13 p14 p15 p16 p17 c1;have HF9:Hid (fW w w9 (ndA (.slice a1 s.xs.length a2) (.slice b1 s.ys.length b2) (.slice k1 s.h.ks.length k2) (.slice qo n.c.ts.length qc) (.slice zo n.s.ts.length zc) {n with xs:=s.xs,ys:=s.ys,h:=s.h}) c):=HF8.out.below b9;have M9:Hid (aO w9 base (.slice a1 s.xs.length a2) (.slice b1 s.ys.length b2) (.slice k1 s.h.ks.length k2) (.slice u1 (n.c.Mark c.p).ts.length u2) (.slice zo n.s.ts.length zc) {n with xs:=s.xs,ys:=s.ys,h:=s.h,c:=n.c.Mark c.p}):=M8.out.marked (Nat.le_trans HM.out.2 HF8.out.b.size) b9 o9;have V9:Hid (StB w9 g9 44 (anA an)/\w.heap.size+4<=g9):=⟨V8.out.1.below b9,V8.out.2⟩
    clear HF8 M8 V8 b9 o9 CM;have p13:w9.cell? ⟨w.heap.size,13,none⟩=some (.int .i64 n.c.tr):=HF9.out.p.cell 13 rfl;have f13:w9.frozen? ⟨w.heap.size,13,none⟩=false:=HF9.out.p.frozen 13;have p14:w9.cell? ⟨w.heap.size,14,none⟩=some (.bool n.c.op):=HF9.out.p.cell 14 rfl;have f14:w9.frozen? ⟨w.heap.size,14,none⟩=false:=HF9.out.p.frozen 14;have p15:w9.cell? ⟨w.heap.size,15,none⟩=some (.int .i64 n.c.di):=HF9.out.p.cell 15 rfl;have f15:w9.frozen? ⟨w.heap.size,15,none⟩=false:=HF9.out.p.frozen 15;have p16:w9.cell? ⟨w.heap.size,16,none⟩=some (.int .i64 n.c.wa):=HF9.out.p.cell 16 rfl;have f16:w9.frozen? ⟨w.heap.size,16,none⟩=false:=HF9.out.p.frozen 16;have p17:w9.cell? ⟨w.heap.size,17,none⟩=some (.slice qo n.c.ts.length qc):=HF9.out.p.cell 17 rfl;have f17:w9.frozen? ⟨w.heap.size,17,none⟩=false:=HF9.out.p.frozen 17;obtain⟨w10,hw10⟩:=eX ((((((w9.setCell ⟨w.heap.size,13,none⟩ (.int .i64 (n.c.Mark c.p).tr)).setCell ⟨w.heap.size,14,none⟩ (.bool (n.c.Mark c.p).op)).setCell ⟨w.heap.size,15,none⟩ (.int .i64 (n.c.Mark c.p).di)).setCell ⟨w.heap.size,16,none⟩ (.int .i64 (n.c.Mark c.p).wa)).setCell ⟨w.heap.size,17,none⟩ (.slice u1 (n.c.Mark c.p).ts.length u2)))
    have HF10:Hid (fW w w10 (ndA (.slice a1 s.xs.length a2) (.slice b1 s.ys.length b2) (.slice k1 s.h.ks.length k2) (.slice u1 (n.c.Mark c.p).ts.length u2) (.slice zo n.s.ts.length zc) {n with xs:=s.xs,ys:=s.ys,h:=s.h,c:=n.c.Mark c.p}) c):=by rw[hw10];exact(fW.put (fW.put (fW.put (fW.put (fW.put HF9.out 13 (.int .i64 (n.c.Mark c.p).tr) rfl) 14 (.bool (n.c.Mark c.p).op) rfl) 15 (.int .i64 (n.c.Mark c.p).di) rfl) 16 (.int .i64 (n.c.Mark c.p).wa) rfl) 17 (.slice u1 (n.c.Mark c.p).ts.length u2) rfl)
    have T10:Hid (aw w9 w10 [w.heap.size]):=by rw[hw10];exact Cz w9 w.heap.size 13 14 15 16 17 _ _ _ _ _
    have M10:Hid (aO w10 base (.slice a1 s.xs.length a2) (.slice b1 s.ys.length b2) (.slice k1 s.h.ks.length k2) (.slice u1 (n.c.Mark c.p).ts.length u2) (.slice zo n.s.ts.length zc) {n with xs:=s.xs,ys:=s.ys,h:=s.h,c:=n.c.Mark c.p}):=M9.out.turned T10.out HF9.out.p (by decide);have V10:Hid (StB w10 g9 44 (anA an)/\w.heap.size+4<=g9):=⟨V9.out.1.turned T10.out (by simp;have:=V9.out.2;omega),V9.out.2⟩
    clear T10;go_upto_region 5 with fail
    rw[<-hw10];clear hw10 HF9 M9 V9 p13 f13 p14 f14 p15 f15 p16 f16 p17 f17;obtain⟨C,hCd⟩:=eX (fun x=>bB w10 x)
    have HQ:Hid (∀x,C x->bB w10 x):=by rw[hCd];exact fun _ h=>h
    have HN:Hid (∀x y,C x->dQ x y->C y):=by rw[hCd];exact fun _ _ h b=>h.trans (b.mono h.size)
    have H0:Hid (C w10.drew):=by rw[hCd];exact(Below.refl _ _).drew
    have hne:Nonempty (Kin C):=⟨⟨_,H0.out⟩⟩
    clear hCd;refine du (fun a=>a.eval (.tmp 9)=.pointer (some ⟨g9,0,none⟩)) (fun x y=>x.grownBy y (some (w.heap.size+1+1))) (C:=C) (E:=iM fun _=>none) (R:=dQ) HN.out (dY (by intro d s hs;cases hs)) 1 _ _ (dZ _ _) (by kernel_rfl) (by kernel_rfl) (by kernel_rfl) (by kernel_rfl) (by simp) (by simp) rfl rfl rfl rfl rfl (xY (by kernel_rfl)) rfl (fun a x y v ja cx dd hq=>iC Tryz.isA _ rfl g9 ja (anA an) rfl (V10.out.1.below (HQ.out _ cx)) ((V10.out.1.below (HQ.out _ cx)).kept dd (by simp;have:=V10.out.2;omega)) hq) (fun _=>rfl) (fun a v=>execOp_put (ops:=#[]) _ (by intro cs b h;cases h) a _ v (by intro d hd;cases hd;decide)) H0.out ?_;refine dz Tryz.isNd rfl (by first|rfl|kernel_rfl) _ rfl w.heap.size rfl (ndA (.slice a1 s.xs.length a2) (.slice b1 s.ys.length b2) (.slice k1 s.h.ks.length k2) (.slice u1 (n.c.Mark c.p).ts.length u2) (.slice zo n.s.ts.length zc) {n with xs:=s.xs,ys:=s.ys,h:=s.h,c:=n.c.Mark c.p}) rfl (fun y=>HF10.out.p.below (HQ.out _ y.h)) ?_;refine dz Tryz.isA rfl (by first|rfl|kernel_rfl) _ rfl g9 rfl (anA an) rfl (fun y=>V10.out.1.below (HQ.out _ y.h)) ?_;refine i7 (fun w16 hz=>?_);have bz:=HQ.out _ hz.1;refine gD Tryz.isNd _ _ rfl (w.heap.size+1+1) (ndA (.slice a1 s.xs.length a2) (.slice b1 s.ys.length b2) (.slice k1 s.h.ks.length k2) (.slice u1 (n.c.Mark c.p).ts.length u2) (.slice zo n.s.ts.length zc) {n with xs:=s.xs,ys:=s.ys,h:=s.h,c:=n.c.Mark c.p}) aA rfl rfl rfl rfl (dj _ rfl rfl rfl rfl rfl) (HF10.out.r.below bz) ?_;intro w17 s17 g17;refine⟨g17,?_⟩;refine fI Tryz.isA rfl rfl _ _ rfl (w.heap.size+1+1+1) (anA an) (anA ⟨0,[]⟩) rfl rfl rfl rfl (aB _) ((HF10.out.ra.below bz).kept g17 (by simp)) ?_;intro w18 s18 g18;go_wp2_with fail
    refine bodyPost_ret (cZ rfl _ _ (w.heap.size+1+1) (w.heap.size+1+1+1) _ _ rfl rfl rfl rfl (s17.kept g18 (by simp)) s18) rfl ?_;rw[HX.out];have bb:=(HF10.out.below bz).b.grown g17 (HF10.out.below bz).b.size (fun k e=>by cases e;omega);exact⟨_,_,_,_,rfl,((M10.out.below bz).putBy (HF10.out.r.below bz) (by decide) g17).putBy ((HF10.out.ra.below bz).kept g17 (by simp)) (by decide) g18,bb.grown g18 bb.size (fun k e=>by cases e;omega)⟩
  ·have HX:Hid (x=({n with xs:=s.xs,ys:=s.ys,h:=s.h},an)):=by show x=_;rw[HE.out,if_neg (by simp[hst])]
   go_upto_region 5 with fail
   obtain⟨C,hCd⟩:=eX (fun x=>bB w7 x)
   have HQ:Hid (∀x,C x->bB w7 x):=by rw[hCd];exact fun _ h=>h
   have HN:Hid (∀x y,C x->dQ x y->C y):=by rw[hCd];exact fun _ _ h b=>h.trans (b.mono h.size)
   have H0:Hid (C w7.drew):=by rw[hCd];exact(Below.refl _ _).drew
   have hne:Nonempty (Kin C):=⟨⟨_,H0.out⟩⟩
   clear hCd;refine du (fun a=>a.eval (.tmp 9)=.pointer (some ⟨g9,0,none⟩)) (fun x y=>x.grownBy y (some (w.heap.size+1+1))) (C:=C) (E:=iM fun _=>none) (R:=dQ) HN.out (dY (by intro d s hs;cases hs)) 1 _ _ (dZ _ _) (by kernel_rfl) (by kernel_rfl) (by kernel_rfl) (by kernel_rfl) (by simp) (by simp) rfl rfl rfl rfl rfl (xY (by kernel_rfl)) rfl (fun a x y v ja cx dd hq=>iC Tryz.isA _ rfl g9 ja (anA an) rfl (V7.out.1.below (HQ.out _ cx)) ((V7.out.1.below (HQ.out _ cx)).kept dd (by simp;have:=V7.out.2;omega)) hq) (fun _=>rfl) (fun a v=>execOp_put (ops:=#[]) _ (by intro cs b h;cases h) a _ v (by intro d hd;cases hd;decide)) H0.out ?_;refine dz Tryz.isNd rfl (by first|rfl|kernel_rfl) _ rfl w.heap.size rfl (ndA (.slice a1 s.xs.length a2) (.slice b1 s.ys.length b2) (.slice k1 s.h.ks.length k2) (.slice qo n.c.ts.length qc) (.slice zo n.s.ts.length zc) {n with xs:=s.xs,ys:=s.ys,h:=s.h}) rfl (fun y=>HF7.out.p.below (HQ.out _ y.h)) ?_;refine dz Tryz.isA rfl (by first|rfl|kernel_rfl) _ rfl g9 rfl (anA an) rfl (fun y=>V7.out.1.below (HQ.out _ y.h)) ?_;refine i7 (fun w16 hz=>?_);have bz:=HQ.out _ hz.1;refine gD Tryz.isNd _ _ rfl (w.heap.size+1+1) (ndA (.slice a1 s.xs.length a2) (.slice b1 s.ys.length b2) (.slice k1 s.h.ks.length k2) (.slice qo n.c.ts.length qc) (.slice zo n.s.ts.length zc) {n with xs:=s.xs,ys:=s.ys,h:=s.h}) aA rfl rfl rfl rfl (dj _ rfl rfl rfl rfl rfl) (HF7.out.r.below bz) ?_;intro w17 s17 g17;refine⟨g17,?_⟩;refine fI Tryz.isA rfl rfl _ _ rfl (w.heap.size+1+1+1) (anA an) (anA ⟨0,[]⟩) rfl rfl rfl rfl (aB _) ((HF7.out.ra.below bz).kept g17 (by simp)) ?_;intro w18 s18 g18;go_wp2_with fail
   refine bodyPost_ret (cZ rfl _ _ (w.heap.size+1+1) (w.heap.size+1+1+1) _ _ rfl rfl rfl rfl (s17.kept g18 (by simp)) s18) rfl ?_;rw[HX.out];have bb:=(HF7.out.below bz).b.grown g17 (HF7.out.below bz).b.size (fun k e=>by cases e;omega);exact⟨_,_,_,_,rfl,((M7.out.below bz).putBy (HF7.out.r.below bz) (by decide) g17).putBy ((HF7.out.ra.below bz).kept g17 (by simp)) (by decide) g18,bb.grown g18 bb.size (fun k e=>by cases e;omega)⟩
def mp (P:Program) (c:Code) (Q:Exit->Act->World->Prop):Nat->Exit->Act->World->Prop
 |0,.goto _,_,_=>False
 |n+1,.goto l,a,w=>∃rest,findLabel c l=some rest/\rest.wp P (mp P c Q n) a w
 |_,e,a,w=>Q e a w
theorem xI {P:Program} {c:Code} {Q:Exit->Act->World->Prop} (n:Nat):∀(d:Code) (a:Act) (w:World),d.wp P (mp P c Q n) a w->
  ∀b k cs,∃e a' w',Q e a' w'/\Arrives P (lone (b.at a (.code d:: .inScope c::k)) cs w) b k cs e a' w':=by
 induction n with
 |zero=>
  intro d a w h b k cs;obtain⟨e,a₁,w₁,hq,harr⟩:=h b (.inScope c::k) cs;cases e with
  |normal=>exact⟨.normal,a₁,w₁,hq,Steps.trans harr (.one step_inScope)⟩
  |exit id=>exact⟨.exit id,a₁,w₁,hq,fun k' hk=>harr k' (by simp[exitTo,hk])⟩
  |goto l=>exact hq.elim
  |ret=>exact⟨_,a₁,w₁,hq,harr⟩
  |panic ch=>exact⟨_,a₁,w₁,hq,harr⟩
  |outgrown=>exact⟨_,a₁,w₁,hq,harr⟩
 |succ n ih=>
  intro d a w h b k cs;obtain⟨e,a₁,w₁,hq,harr⟩:=h b (.inScope c::k) cs;cases e with
  |normal=>exact⟨.normal,a₁,w₁,hq,Steps.trans harr (.one step_inScope)⟩
  |exit id=>exact⟨.exit id,a₁,w₁,hq,fun k' hk=>harr k' (by simp[exitTo,hk])⟩
  |goto l=>
   obtain⟨rest,hf,hr⟩:=hq;have hg:gotoIn l (.inScope c::k)=some (.code rest:: .inScope c::k):=by simp[gotoIn,hf]
   obtain⟨e₂,a₂,w₂,hq₂,harr₂⟩:=ih rest a₁ w₁ hr b k cs;exact⟨e₂,a₂,w₂,hq₂,.of_steps (harr _ hg) harr₂⟩
  |ret=>exact⟨_,a₁,w₁,hq,harr⟩
  |panic ch=>exact⟨_,a₁,w₁,hq,harr⟩
  |outgrown=>exact⟨_,a₁,w₁,hq,harr⟩
theorem z6 {P:Program} {c:Code} {Q:Exit->Act->World->Prop} {a:Act} {w:World} (n:Nat) (h:c.wp P (mp P c Q n) a w):(Code.scope c).wp P Q a w:=by
 intro b k cs;obtain⟨e,a',w',hq,harr⟩:=xI n c a w h b k cs;exact⟨e,a',w',hq,.of_steps (.one step_scope) harr⟩
theorem cR {P:Program} {c:Code} {Q:Exit->Act->World->Prop} {a:Act} {w:World} (n l:Nat) (rest:Code) (hf:findLabel c l=some rest) (h:rest.wp P (mp P c Q n) a w):mp P c Q (n+1) (.goto l) a w:=⟨rest,hf,h⟩
theorem xJ {P:Program} {c:Code} {Q:Exit->Act->World->Prop} {a:Act} {w:World} {n:Nat} (h:Q .ret a w):mp P c Q n .ret a w:=by cases n<;>exact h
theorem vY (l:Bs) (w:World) (hl:l.length<=1048576):
  Calls Tryz.prog 68 #[S l] w fun e w'=>e=.returned (.int .u8 (eW l))/\w'=w:=by
 have hsz:(⟨l.toArray⟩:ByteArray).size=l.length:=rfl;unfold S;go_enter Tryz.func68,Tryz.ntmps68;go_wp2;go_loop [3,7] (fun h i=>∃j:Nat,j<=l.length/\i=.int .i64 j/\∃x:Int,h=.int .u8 x/\0<=x/\x<256/\Hid (x=kF l j%256)) (fun _ i=>l.length-(intOf i).toNat)
 case atStart=>exact⟨0,Nat.zero_le _,rfl,0,rfl,by omega,by omega,by simp[Hid,kF]⟩
 case round=>
  obtain⟨j,hj,rfl,x,rfl,hx0,hx1,HX⟩:=hrel;by_cases hlt:(j:Int)<(l.length:Int)
  ·go_wp2
   go_round
   case rel=>
    have h1:j<l.length:=by omega
    have h2:am (l.getD j 0)=am l[j]:=by simp[h1]
    have h3:=lF l j h1;rw[h2]at h3;have h4:((⟨l.toArray⟩:ByteArray)[j]'(by omega)).toNat=l[j].toNat:=rfl;refine⟨j+1,by omega,by go_num,_,rfl,by omega,by omega,?_⟩;rw[Hid,h3,HX.out,h4];unfold am;omega
   case measure=>simp[intOf];omega
  ·have HE:Hid (eW l=255-x):=by
    have e:j=l.length:=by omega
    have h:=HX.out;rw[e]at h;unfold kF at h;rw[List.take_length]at h;rw[Hid,eW,h]
   go_wp2;go_ret;rw[HE.out];exact⟨rfl,rfl⟩
theorem w8 (x:UInt8):wrap64 (am x)=am x:=by have:=bj x;exact fO this.1 (by omega)
theorem w16 (x y:UInt8):wrap64 (wrap64 (am x*256)+am y)=am x*256+am y:=by
 have:=bj x;have:=bj y;rw[fO (x:=am x*256) (by omega) (by omega),fO (by omega) (by omega)]
theorem AU (a b c d e f g i:UInt8):(⟨wrap64 (wrap64 (am a)),wrap64 (wrap64 (am b)),wrap64 (wrap64 (wrap64 (wrap64 (am c))*256)+wrap64 (am d)),wrap64 (wrap64 (wrap64 (wrap64 (am e))*256)+wrap64 (am f)),wrap64 (wrap64 (am g))⟩:Cm)=fA [a,b,c,d,e,f,g,i]:=by
 simp only[w8,w16];rfl
theorem Cw (w:World) (c d:Cm):CmB ((w.alloc (.cells (cmA c) 66)).alloc (.cells (cmA d) 66)) w.heap.size 66 c/\bB w ((w.alloc (.cells (cmA c) 66)).alloc (.cells (cmA d) 66)):=
 ⟨(CmB.new w _ c).alloc _,bA.alloc (by simp) _⟩
theorem vZ (l:Bs) (w:World) (hl:l.length=8):
  Calls Tryz.prog 69 #[S l] w fun e w'=>e=.returned (CV (fA l))/\bB w w':=by
 obtain⟨a,b,c,d,e,f,g,i,rfl⟩:=sK hl;have ha:=bj a;have hb:=bj b;have hc:=bj c;have hd:=bj d;have he:=bj e;have hf:=bj f;have hg:=bj g;unfold S;go_enter Tryz.func69,Tryz.ntmps69;go_wp2;refine z6 11 ?_;go_wp2
 go_step3
 go_wp2
 go_step3
 refine cR 10 1 _ rfl ?_;go_wp2
 go_step3
 refine cR 9 0 _ rfl ?_;go_wp2
 go_step3
 refine cR 8 2 _ rfl ?_;go_wp2
 go_step3
 refine cR 7 0 _ rfl ?_;go_wp2
 go_step3
 refine cR 6 0 _ rfl ?_;go_wp2
 go_step3
 refine cR 5 3 _ rfl ?_;go_wp2
 go_step3
 refine cR 4 0 _ rfl ?_;go_wp2
 go_step3
 refine cR 3 0 _ rfl ?_;go_wp2
 go_step3
 refine cR 2 4 _ rfl ?_;go_wp2
 go_step3
 refine cR 1 0 _ rfl ?_;go_wp2
 go_step3
 refine cR 0 5 _ rfl ?_;go_wp2;refine xJ ?_;have h:=Cw w ⟨wrap64 (wrap64 (am a)),wrap64 (wrap64 (am b)),wrap64 (wrap64 (wrap64 (wrap64 (am c))*256)+wrap64 (am d)),wrap64 (wrap64 (wrap64 (wrap64 (am e))*256)+wrap64 (am f)),wrap64 (wrap64 (am g))⟩ ⟨wrap64 (wrap64 (am a)),wrap64 (wrap64 (am b)),wrap64 (wrap64 (wrap64 (wrap64 (am c))*256)+wrap64 (am d)),wrap64 (wrap64 (wrap64 (wrap64 (am e))*256)+wrap64 (am f)),wrap64 (wrap64 (am g))⟩;refine bodyPost_ret (yC rfl _ _ w.heap.size _ rfl h.1) rfl ?_;exact⟨congrArg (fun c=>Ending.returned (CV c)) (AU a b c d e f g i),h.2⟩
theorem rO (l:Bs) (b:Nat):(⟨l.toArray⟩:ByteArray).extract 0 b=⟨(l.take b).toArray⟩:=by
 apply ByteArray.ext;rw[ByteArray.data_extract];simp[List.extract_toArray]
theorem vL (s:Bs) (w:World) (hl:s.length<=1048576):
  Calls Tryz.prog 25 #[S s] w fun e w'=>e=.returned (.tuple #[CV (ax s),.int .i64 (aN s)])/\bB w w':=by
 have hsz:(⟨s.toArray⟩:ByteArray).size=s.length:=rfl;obtain⟨w2,hw2⟩:=eX (w.alloc (.cells (cmA Cm.zero) 66))
 have Z2:CmB w2 w.heap.size 66 Cm.zero:=by rw[hw2];exact CmB.new w _ _
 have B2:bB w w2:=by rw[hw2];exactbA
 unfold cmA Cm.zero at hw2;dsimp only at hw2;unfold S;by_cases h8:(s.length:Int)<8
 ·have HE:Hid (aN s=1/\ax s=Cm.zero):=jY (by omega)
  go_enter Tryz.func25,Tryz.ntmps25;go_wp2;rw[<-hw2];refine bodyPost_ret (cY rfl _ _ w.heap.size _ _ rfl rfl Z2) rfl ?_;rw[HE.out.1,HE.out.2];exact⟨rfl,B2⟩
 ·by_cases h9:8<(s.length:Int)
  ·have HE:Hid (aN s=2/\ax s=Cm.zero):=lG (by omega)
   go_enter Tryz.func25,Tryz.ntmps25;go_wp2;rw[<-hw2];refine bodyPost_ret (cY rfl _ _ w.heap.size _ _ rfl rfl Z2) rfl ?_;rw[HE.out.1,HE.out.2];exact⟨rfl,B2⟩
  ·have hl8:s.length=8:=by omega
   have H1:Hid (am (s.getD 7 0)≠eW (s.take 7)->aN s=3/\ax s=Cm.zero):=sL hl8;have H2:Hid (am (s.getD 7 0)=eW (s.take 7)->inI (fA s).o 1 12=false->aN s=4/\ax s=Cm.zero):=xS hl8;have H3:Hid (am (s.getD 7 0)=eW (s.take 7)->inI (fA s).o 1 12=true->(fA s).ok=false->aN s=5/\ax s=Cm.zero):=nJ hl8;have H4:Hid (am (s.getD 7 0)=eW (s.take 7)->(fA s).ok=true->aN s=0/\ax s=fA s):=xU hl8;have cs:=fun wx=>vY (s.take 7) wx (by simp;omega)
   have cf:=fun wx=>vZ s wx hl8
   have c2:=fun wx=>x8 (fA s).o wx
   have c3:=fun wx=>dv (fA s) wx
   have h7:7<s.length:=by omega
   have e7:am (s.getD 7 0)=(((⟨s.toArray⟩:ByteArray)[7]'h7).toNat:Int):=by
    rw[List.getD_eq_getElem?_getD,List.getElem?_eq_getElem h7];rfl
   have hex:=rO s 7;rw[e7]at H1 H2 H3 H4;obtain⟨z,hz⟩:=eX (eW (s.take 7))
   rw[<-hz]at H1 H2 H3 H4;simp only[<-hz]at cs;obtain⟨c,hc⟩:=eX (fA s)
   rw[<-hc]at H2 H3 H4;simp only[<-hc]at cf c2 c3;unfold S at cs cf;have hl8':(s.length:Int)=8:=by omega
   clear e7 hz hc hl8 hl h8 h9;have HW:Hid (w2=w.alloc (.cells #[.int .i64 0,.int .i64 0,.int .i64 0,.int .i64 0,.int .i64 0] 66)):=hw2;have hws:w.heap.size<w2.heap.size:=Z2.lt;clear hw2;go_enter Tryz.func25,Tryz.ntmps25;go_wp2;rw[<-HW.out]
   go_quiet ((go_at_call 68;exact Calls.quiet_of_same (cs _)))
   obtain⟨w5,hw5⟩:=eX (w2.drewN nq)
   have Z5:CmB w5 w.heap.size 66 Cm.zero:=by rw[hw5];exact Z2
   have B5:bB w w5:=by rw[hw5];exact below_drewN B2 nq
   have hsz5:w.heap.size<w5.heap.size:=Z5.lt;rw[<-hw5];clear hw5 HW hws Z2 B2 cs hex;by_cases hd:(((⟨s.toArray⟩:ByteArray)[7]'h7).toNat:Int)=z
   ·have HA:Hid (inI c.o 1 12=false->aN s=4/\ax s=Cm.zero):=H2.out hd
    have HB:Hid (inI c.o 1 12=true->c.ok=false->aN s=5/\ax s=Cm.zero):=H3.out hd;have HD:Hid (c.ok=true->aN s=0/\ax s=c):=H4.out hd;clear H1 H2 H3 H4;obtain⟨b1,hb1⟩:=eX (inI c.o 1 12)
    obtain⟨b2,hb2⟩:=eX c.ok
    rw[<-hb1]at HA HB;rw[<-hb2]at HB HD;simp only[<-hb1]at c2;simp only[<-hb2]at c3;clear hb1 hb2;unfold CV cmA at cf c3;go_wp2_with fail
    refine(cf _).mono ?_;rintro e w3 ⟨rfl,b3⟩;have Z3:=Z5.below b3;have B3:=B5.trans (b3.mono B5.size);obtain⟨w4,hw4⟩:=eX (w3.alloc (.cells #[.int .i64 c.o,.int .i64 c.p,.int .i64 c.a,.int .i64 c.b,.int .i64 c.k] 66))
    have Z4:CmB w4 w.heap.size 66 Cm.zero:=by rw[hw4];exact Z3.alloc _
    have M4:CmB w4 w3.heap.size 66 c:=by rw[hw4];exact CmB.new w3 _ c
    have B4:bB w w4:=by rw[hw4];exact B3.alloc B3.size _
    have HW:Hid (w4=w3.alloc (.cells #[.int .i64 c.o,.int .i64 c.p,.int .i64 c.a,.int .i64 c.b,.int .i64 c.k] 66)):=hw4;have hs4:w.heap.size<w4.heap.size:=Z4.lt;have hne:w.heap.size≠w3.heap.size:=by have:=Z3.lt;omega
    clear hw4 b3 Z5 B5 Z3 B3 cf hsz5;go_wp2_with fail
    rw[<-HW.out];refine(c2 _).mono ?_;rintro e w' ⟨rfl,hw'⟩;subst w';clear c2 HW;cases b1 with
    |false=>
     have HE:=HA.out rfl;go_wp2_with (refine dX rfl _ _ rfl w.heap.size Cm.zero Cm.zero rfl rfl Z4 ?_;intro w6 R6 G6)
     refine bodyPost_ret (cY rfl _ _ w.heap.size _ _ rfl rfl R6) rfl ?_;rw[HE.1,HE.2];exact⟨rfl,B4.grown G6 (by omega) (fun k e=>by cases e;exact Nat.le_refl _)⟩
    |true=>
     have HB2:Hid (b2=false->aN s=5/\ax s=Cm.zero):=HB.out rfl;clear HB;go_wp2_with (refine eA rfl _ rfl w3.heap.size rfl c M4 ?_;unfold CV cmA)
     refine(c3 _).mono ?_;rintro e w6 ⟨rfl,b6⟩;have Z6:=Z4.below b6;have M6:=M4.below b6;have B6:=B4.trans (b6.mono B4.size);have hs6:=Z6.lt;clear c3 b6 Z4 M4 B4;cases b2 with
     |false=>
      have HE:=HB2.out rfl;go_wp2_with (refine dX rfl _ _ rfl w.heap.size Cm.zero Cm.zero rfl rfl Z6 ?_;intro w7 R7 G7)
      refine bodyPost_ret (cY rfl _ _ w.heap.size _ _ rfl rfl R7) rfl ?_;rw[HE.1,HE.2];exact⟨rfl,B6.grown G7 (by omega) (fun k e=>by cases e;exact Nat.le_refl _)⟩
     |true=>
      have HE:=HD.out rfl;go_wp2_with (first|(refine eA rfl _ rfl w3.heap.size rfl c M6 ?_)|(refine dX rfl _ _ rfl w.heap.size c Cm.zero rfl rfl Z6 ?_;intro w7 R7 G7))
      refine bodyPost_ret (cY rfl _ _ w.heap.size _ _ rfl rfl R7) rfl ?_;rw[HE.1,HE.2];exact⟨rfl,B6.grown G7 (by omega) (fun k e=>by cases e;exact Nat.le_refl _)⟩
   ·have HE:=H1.out hd
    have hne7:((((⟨s.toArray⟩:ByteArray)[7]'h7).toNat:Int) !=z)=true:=by simpa using hd
    clear H1 H2 H3 H4 cf c2 c3;go_wp2_with (refine dX rfl _ _ rfl w.heap.size Cm.zero Cm.zero rfl rfl Z5 ?_;intro w6 R6 G6)
    refine bodyPost_ret (cY rfl _ _ w.heap.size _ _ rfl rfl R6) rfl ?_;rw[HE.1,HE.2];exact⟨rfl,B5.grown G6 (by omega) (fun k e=>by cases e;exact Nat.le_refl _)⟩
end Go.Proofs.YthldeiojlllkdaaGreatDoor
