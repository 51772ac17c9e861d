/- Houses by the program: freshNode. -/
import Derived.Test.YthldeiojlllkdaaGreatDoorM1
import Derived.Test.YthldeiojlllkdaaGreatDoorM19
import Derived.Test.YthldeiojlllkdaaGreatDoorM21
import Derived.Test.YthldeiojlllkdaaGreatDoorM22
import Derived.Test.YthldeiojlllkdaaGreatDoorM18
import Derived.Test.YthldeiojlllkdaaGreatDoorM15
import Derived.Test.YthldeiojlllkdaaGreatDoorM20
import Derived.Test.YthldeiojlllkdaaGreatDoorLNode
import Derived.Test.YthldeiojlllkdaaGreatDoorM12
import Derived.Test.YthldeiojlllkdaaGreatDoorM13
import Derived.Test.YthldeiojlllkdaaGreatDoorM14
set_option maxRecDepth 20000
set_option maxHeartbeats 8000000
namespace Go.Proofs.YthldeiojlllkdaaGreatDoor
open Go.ChangeShapes Go.WideShapes Go.ChangeAt Go.RowKit
theorem AX {w7 w8 w9:World} {base:Nat} {a b k q z:Value} {xs ys ks qs zs:List Int} (o:aY w7 base a b k xs ys ks) (oq:bO w8 w7.heap.size q qs) (oz:bO w9 w8.heap.size z zs) (h:w7.heap.size<=w8.heap.size):C7 (blk a) (blk b) (blk k) (bm q qs) (bm z zs):=by
 have ha:=fun x hx=>(aM o.1.1 x hx).2
 have hb:=fun x hx=>(aM o.1.2.1 x hx).2
 have hk:=fun x hx=>(aM o.2.1 x hx).2
 have hq:=fun{x:Nat} (hx:x∈bm q qs)=>eL oq hx
 have hz:=fun{x:Nat} (hx:x∈bm z zs)=>eL oz hx
 exact⟨eK.1 o.1.2.2,eK.1 o.2.2.1,fun x h1 h2=>by have:=ha x h1;have:=(hq h2).1;omega,fun x h1 h2=>by have:=ha x h1;have:=(hz h2).1;omega,eK.1 o.2.2.2,
  fun x h1 h2=>by have:=hb x h1;have:=(hq h2).1;omega,fun x h1 h2=>by have:=hb x h1;have:=(hz h2).1;omega,fun x h1 h2=>by have:=hk x h1;have:=(hq h2).1;omega,fun x h1 h2=>by have:=hk x h1;have:=(hz h2).1;omega,fun x h1 h2=>by have:=(hq h1).2;have:=(hz h2).1;omega⟩
theorem Es {w wx:World} {a b k q z:Value} {n:Nd} (h:FS w wx (ndA a b k q z n)) (q' z':Value):FS w (((((((wx.setCell ⟨w.heap.size,13,none⟩ (.int .i64 n.c.tr)).setCell ⟨w.heap.size,14,none⟩ (.bool n.c.op)).setCell ⟨w.heap.size,15,none⟩ (.int .i64 n.c.di)).setCell ⟨w.heap.size,16,none⟩ (.int .i64 n.c.wa)).setCell ⟨w.heap.size,17,none⟩ q').setCell ⟨w.heap.size,18,none⟩ (.int .i64 n.s.tr)).setCell ⟨w.heap.size,19,none⟩ z') (ndA a b k q' z' n):=
 ((((((h.put 13 (.int .i64 n.c.tr) rfl).put 14 (.bool n.c.op) rfl).put 15 (.int .i64 n.c.di) rfl).put 16 (.int .i64 n.c.wa) rfl).put 17 q' rfl).put 18 (.int .i64 n.s.tr) rfl).put 19 z' rfl
theorem Fa {wx:World} {base g:Nat} {a b k q z:Value} {n:Nd} (h:aO wx base a b k q z n) (hg:g<base) (c0 c1 c2 c3 c4 c5 c6:Value):aO (((((((wx.setCell ⟨g,13,none⟩ c0).setCell ⟨g,14,none⟩ c1).setCell ⟨g,15,none⟩ c2).setCell ⟨g,16,none⟩ c3).setCell ⟨g,17,none⟩ c4).setCell ⟨g,18,none⟩ c5).setCell ⟨g,19,none⟩ c6) base a b k q z n:=
 ((((((h.keptLt (ai _ g 13 c0) hg).keptLt (ai _ g 14 c1) hg).keptLt (ai _ g 15 c2) hg).keptLt (ai _ g 16 c3) hg).keptLt (ai _ g 17 c4) hg).keptLt (ai _ g 18 c5) hg).keptLt (ai _ g 19 c6) hg
theorem aO.setLt {w:World} {base g:Nat} {a b k q z:Value} {n:Nd} (h:aO w base a b k q z n) (hb:g<base) (j:Nat) (x:Value):aO (w.setCell ⟨g,j,none⟩ x) base a b k q z n:=h.keptLt (ai w g j x) hb
theorem tQ (a b k q z:Value) (n:Nd) (w:World) (hr:RdN w a b k q z n) (hl:SmN n) (hx1:1<=n.xs.length) (hy1:1<=n.ys.length) (hk1:1<=n.h.ks.length):
  Calls Tryz.prog 27 #[NdV a b k q z n] w fun e w'=>∃a' b' k' q' z',e=.returned (NdV a' b' k' q' z' n)/\aO w' w.heap.size a' b' k' q' z' n/\bB w w':=by
 have HR:Hid (∀wx,bB w wx->RdN wx a b k q z n):=fun wx B=>hr.below B
 have CS:Hid (∀wx,bB w wx->Calls Tryz.prog 64 #[NdV a b k q z n] wx fun e w'=>e=.returned (SRV a b k n.h)/\bB wx w'):=fun wx B=>iJ a b k q z n wx (HR.out wx B)
 have CF:Hid (∀wx,bB w wx->Calls Tryz.prog 72 #[SRV a b k n.h] wx fun e w'=>∃a b k,e=.returned (SRV a b k n.h)/\aY w' wx.heap.size a b k n.xs n.ys n.h.ks/\bB wx w'):=fun wx B=>eS a b k n.xs n.ys n.h wx (HR.out wx B).ra (HR.out wx B).rb (HR.out wx B).rk hx1 hy1 hk1 (by have:=hl.la;omega) (by have:=hl.lb;omega) (by have:=hl.lk;omega)
 have CL:Hid (∀wx,Calls Tryz.prog 73 #[S n.log] wx fun e w'=>e=.returned (S n.log)/\bB wx w'):=fun wx=>kl n.log wx (by have:=hl.ll;omega)
 have CQ:Hid (∀wx,bB w wx->Calls Tryz.prog 74 #[CpV q n.c] wx fun e w'=>∃u,e=.returned (CpV u n.c)/\bO w' wx.heap.size u n.c.ts/\bB wx w'):=fun wx B=>mF q n.c wx (HR.out wx B).rq (by have:=hl.lq;omega)
 have CZ:Hid (∀wx,bB w wx->Calls Tryz.prog 75 #[SnV z n.s] wx fun e w'=>∃u,e=.returned (SnV u n.s)/\bO w' wx.heap.size u n.s.ts/\bB wx w'):=fun wx B=>tZ z n.s wx (HR.out wx B).rz (by have:=hl.lz;omega)
 obtain⟨ao,ac,rfl⟩:=aa hr.ra;obtain⟨bo,bc,rfl⟩:=aa hr.rb;obtain⟨ko,kc,rfl⟩:=aa hr.rk;obtain⟨qo,qc,rfl⟩:=aa hr.rq;obtain⟨zo,zc,rfl⟩:=aa hr.rz;clear hr HR hl hx1 hy1 hk1;obtain⟨w1,hw1⟩:=eX ((w.alloc (.cells (ndA (.slice ao n.xs.length ac) (.slice bo n.ys.length bc) (.slice ko n.h.ks.length kc) (.slice qo n.c.ts.length qc) (.slice zo n.s.ts.length zc) n) 42)).alloc (.cells aA 42))
 have HF:Hid (FS w w1 (ndA (.slice ao n.xs.length ac) (.slice bo n.ys.length bc) (.slice ko n.h.ks.length kc) (.slice qo n.c.ts.length qc) (.slice zo n.s.ts.length zc) n)):=by rw[hw1];exact FS.start w _
 unfold SRV srA at CS CF;unfold CpV cpA at CQ;unfold SnV snA at CZ;unfold S at CL;unfold NdV at CS⊢;unfold ndA aA S at hw1;conv in ndA (.slice ao n.xs.length ac) _ _ _ _ _=>unfold ndA S
 go_enter Tryz.func27,Tryz.ntmps27;go_upto_region 1 with fail
 rw[<-hw1];clear hw1;go_wp2_with (refine aC Tryz.isNd rfl _ rfl w.heap.size rfl (ndA (.slice ao n.xs.length ac) (.slice bo n.ys.length bc) (.slice ko n.h.ks.length kc) (.slice qo n.c.ts.length qc) (.slice zo n.s.ts.length zc) n) rfl HF.out.p ?_)
 refine(CS.out w1 HF.out.b).mono ?_;rintro e w2 ⟨rfl,b2⟩;replace HF:Hid (FS w w2 (ndA (.slice ao n.xs.length ac) (.slice bo n.ys.length bc) (.slice ko n.h.ks.length kc) (.slice qo n.c.ts.length qc) (.slice zo n.s.ts.length zc) n)):=HF.out.below b2;clear b2 CS;go_wp2_with fail
 refine(CF.out w2 HF.out.b).mono ?_;rintro e w3 ⟨a',b',k',rfl,o3,b3⟩;obtain⟨a1,a2,rfl⟩:=aa o3.1.1.reads;obtain⟨b1,b2,rfl⟩:=aa o3.1.2.1.reads;obtain⟨k1,k2,rfl⟩:=aa o3.2.1.reads;obtain⟨w4,hw4⟩:=eX (w3.alloc (.cells #[.slice a1 n.xs.length a2,.slice b1 n.ys.length b2,.slice k1 n.h.ks.length k2,.int .i64 n.h.kd,.int .i64 n.h.ho,.int .i64 n.h.tu] 96))
 have b4:bB w3 w4:=by rw[hw4];exactbA
 have O4:Hid (aY w4 (w.heap.size+2) (.slice a1 n.xs.length a2) (.slice b1 n.ys.length b2) (.slice k1 n.h.ks.length k2) n.xs n.ys n.h.ks):=(o3.mono HF.out.lt).below b4;replace HF:Hid (FS w w4 (ndA (.slice ao n.xs.length ac) (.slice bo n.ys.length bc) (.slice ko n.h.ks.length kc) (.slice qo n.c.ts.length qc) (.slice zo n.s.ts.length zc) n)):=(HF.out.below b3).below b4;have T4:Hid (StB w4 w3.heap.size 96 #[.slice a1 n.xs.length a2,.slice b1 n.ys.length b2,.slice k1 n.h.ks.length k2,.int .i64 n.h.kd,.int .i64 n.h.ho,.int .i64 n.h.tu]):=by rw[hw4];exact StB.new _ _ _
 go_upto_region 2 with fail
 rw[<-hw4];clear hw4 o3 b3 b4 CF;have s0:w4.drew.cell? ⟨w3.heap.size,0,none⟩=some (.slice a1 n.xs.length a2):=T4.out.dr.cell 0 rfl;have s1:w4.drew.cell? ⟨w3.heap.size,1,none⟩=some (.slice b1 n.ys.length b2):=T4.out.dr.cell 1 rfl;have s2:w4.drew.cell? ⟨w3.heap.size,2,none⟩=some (.slice k1 n.h.ks.length k2):=T4.out.dr.cell 2 rfl;have s3:w4.drew.cell? ⟨w3.heap.size,3,none⟩=some (.int .i64 n.h.kd):=T4.out.dr.cell 3 rfl;have s4:w4.drew.cell? ⟨w3.heap.size,4,none⟩=some (.int .i64 n.h.ho):=T4.out.dr.cell 4 rfl;have s5:w4.drew.cell? ⟨w3.heap.size,5,none⟩=some (.int .i64 n.h.tu):=T4.out.dr.cell 5 rfl;have p2:w4.drew.cell? ⟨w.heap.size,2,none⟩=some (.slice ao n.xs.length ac):=HF.out.p.dr.cell 2 rfl;have fp2:w4.drew.frozen? ⟨w.heap.size,2,none⟩=false:=HF.out.p.dr.frozen 2;have p3:w4.drew.cell? ⟨w.heap.size,3,none⟩=some (.slice bo n.ys.length bc):=HF.out.p.dr.cell 3 rfl;have fp3:w4.drew.frozen? ⟨w.heap.size,3,none⟩=false:=HF.out.p.dr.frozen 3;have p4:w4.drew.cell? ⟨w.heap.size,4,none⟩=some (.slice ko n.h.ks.length kc):=HF.out.p.dr.cell 4 rfl;have fp4:w4.drew.frozen? ⟨w.heap.size,4,none⟩=false:=HF.out.p.dr.frozen 4;have p5:w4.drew.cell? ⟨w.heap.size,5,none⟩=some (.int .i64 n.h.kd):=HF.out.p.dr.cell 5 rfl;have fp5:w4.drew.frozen? ⟨w.heap.size,5,none⟩=false:=HF.out.p.dr.frozen 5;have p6:w4.drew.cell? ⟨w.heap.size,6,none⟩=some (.int .i64 n.h.ho):=HF.out.p.dr.cell 6 rfl;have fp6:w4.drew.frozen? ⟨w.heap.size,6,none⟩=false:=HF.out.p.dr.frozen 6;have p7:w4.drew.cell? ⟨w.heap.size,7,none⟩=some (.int .i64 n.h.tu):=HF.out.p.dr.cell 7 rfl;have fp7:w4.drew.frozen? ⟨w.heap.size,7,none⟩=false:=HF.out.p.dr.frozen 7;have u0:w4.cell? ⟨w3.heap.size,0,none⟩=some (.slice a1 n.xs.length a2):=T4.out.cell 0 rfl;have u1:w4.cell? ⟨w3.heap.size,1,none⟩=some (.slice b1 n.ys.length b2):=T4.out.cell 1 rfl;have u2:w4.cell? ⟨w3.heap.size,2,none⟩=some (.slice k1 n.h.ks.length k2):=T4.out.cell 2 rfl;have u3:w4.cell? ⟨w3.heap.size,3,none⟩=some (.int .i64 n.h.kd):=T4.out.cell 3 rfl;have u4:w4.cell? ⟨w3.heap.size,4,none⟩=some (.int .i64 n.h.ho):=T4.out.cell 4 rfl;have u5:w4.cell? ⟨w3.heap.size,5,none⟩=some (.int .i64 n.h.tu):=T4.out.cell 5 rfl;have v2:w4.cell? ⟨w.heap.size,2,none⟩=some (.slice ao n.xs.length ac):=HF.out.p.cell 2 rfl;have fv2:w4.frozen? ⟨w.heap.size,2,none⟩=false:=HF.out.p.frozen 2;have v3:w4.cell? ⟨w.heap.size,3,none⟩=some (.slice bo n.ys.length bc):=HF.out.p.cell 3 rfl;have fv3:w4.frozen? ⟨w.heap.size,3,none⟩=false:=HF.out.p.frozen 3;have v4:w4.cell? ⟨w.heap.size,4,none⟩=some (.slice ko n.h.ks.length kc):=HF.out.p.cell 4 rfl;have fv4:w4.frozen? ⟨w.heap.size,4,none⟩=false:=HF.out.p.frozen 4;have v5:w4.cell? ⟨w.heap.size,5,none⟩=some (.int .i64 n.h.kd):=HF.out.p.cell 5 rfl;have fv5:w4.frozen? ⟨w.heap.size,5,none⟩=false:=HF.out.p.frozen 5;have v6:w4.cell? ⟨w.heap.size,6,none⟩=some (.int .i64 n.h.ho):=HF.out.p.cell 6 rfl;have fv6:w4.frozen? ⟨w.heap.size,6,none⟩=false:=HF.out.p.frozen 6;have v7:w4.cell? ⟨w.heap.size,7,none⟩=some (.int .i64 n.h.tu):=HF.out.p.cell 7 rfl;have fv7:w4.frozen? ⟨w.heap.size,7,none⟩=false:=HF.out.p.frozen 7;obtain⟨w5,hw5⟩:=eX (((((((w4.setCell ⟨w.heap.size,2,none⟩ (.slice a1 n.xs.length a2)).setCell ⟨w.heap.size,3,none⟩ (.slice b1 n.ys.length b2)).setCell ⟨w.heap.size,4,none⟩ (.slice k1 n.h.ks.length k2)).setCell ⟨w.heap.size,5,none⟩ (.int .i64 n.h.kd)).setCell ⟨w.heap.size,6,none⟩ (.int .i64 n.h.ho)).setCell ⟨w.heap.size,7,none⟩ (.int .i64 n.h.tu)).drew)
 have HF5:Hid (FS w w5 (ndA (.slice a1 n.xs.length a2) (.slice b1 n.ys.length b2) (.slice k1 n.h.ks.length k2) (.slice qo n.c.ts.length qc) (.slice zo n.s.ts.length zc) n)):=by
  rw[hw5];exact FS.below ((((((HF.out.put 2 (.slice a1 n.xs.length a2) rfl).put 3 (.slice b1 n.ys.length b2) rfl).put 4 (.slice k1 n.h.ks.length k2) rfl).put 5 (.int .i64 n.h.kd) rfl).put 6 (.int .i64 n.h.ho) rfl).put 7 (.int .i64 n.h.tu) rfl) (Below.refl _ _).drew
 have O5:Hid (aY w5 (w.heap.size+2) (.slice a1 n.xs.length a2) (.slice b1 n.ys.length b2) (.slice k1 n.h.ks.length k2) n.xs n.ys n.h.ks):=by
  rw[hw5];exact(((((((O4.out.keptLt (ai _ w.heap.size 2 (.slice a1 n.xs.length a2)) (by omega)).keptLt (ai _ w.heap.size 3 (.slice b1 n.ys.length b2)) (by omega)).keptLt (ai _ w.heap.size 4 (.slice k1 n.h.ks.length k2)) (by omega)).keptLt (ai _ w.heap.size 5 (.int .i64 n.h.kd)) (by omega)).keptLt (ai _ w.heap.size 6 (.int .i64 n.h.ho)) (by omega)).keptLt (ai _ w.heap.size 7 (.int .i64 n.h.tu)) (by omega))).below (Below.refl _ _).drew
 have hn1:¬w3.heap.size=w.heap.size:=fun e=>by
  have h1:=T4.out;have h2:=HF.out.p;rw[e]at h1;exact absurd rfl (StB.typ h1 h2 (by decide))
 have hn2:¬w.heap.size=w3.heap.size:=fun e=>hn1 e.symm
 go_region
 all_goals
  rw[<-hw5];clear hn1 hn2 hw5 HF O4 T4 s0 u0 s1 u1 s2 u2 s3 u3 s4 u4 s5 u5 p2 fp2 v2 fv2 p3 fp3 v3 fv3 p4 fp4 v4 fv4 p5 fp5 v5 fv5 p6 fp6 v6 fv6 p7 fp7 v7 fv7;have HF:Hid (FS w w5 (ndA (.slice a1 n.xs.length a2) (.slice b1 n.ys.length b2) (.slice k1 n.h.ks.length k2) (.slice qo n.c.ts.length qc) (.slice zo n.s.ts.length zc) n)):=HF5;clear HF5;have p8:w5.cell? ⟨w.heap.size,8,none⟩=some (.string ⟨n.log.toArray⟩):=HF.out.p.cell 8 rfl;go_wp2_with fail
  refine(CL.out w5).mono ?_;rintro e w6 ⟨rfl,b6⟩;have O6:Hid (aY w6 (w.heap.size+2) (.slice a1 n.xs.length a2) (.slice b1 n.ys.length b2) (.slice k1 n.h.ks.length k2) n.xs n.ys n.h.ks):=O5.out.below b6;replace HF:Hid (FS w w6 (ndA (.slice a1 n.xs.length a2) (.slice b1 n.ys.length b2) (.slice k1 n.h.ks.length k2) (.slice qo n.c.ts.length qc) (.slice zo n.s.ts.length zc) n)):=HF.out.below b6;clear O5 b6 p8 CL;have p8:w6.cell? ⟨w.heap.size,8,none⟩=some (.string ⟨n.log.toArray⟩):=HF.out.p.cell 8 rfl;have fp8:w6.frozen? ⟨w.heap.size,8,none⟩=false:=HF.out.p.frozen 8;obtain⟨w7,hw7⟩:=eX (w6.setCell ⟨w.heap.size,8,none⟩ (.string ⟨n.log.toArray⟩))
  have O7:Hid (aY w7 (w.heap.size+2) (.slice a1 n.xs.length a2) (.slice b1 n.ys.length b2) (.slice k1 n.h.ks.length k2) n.xs n.ys n.h.ks):=by rw[hw7];exact O6.out.keptLt (ai _ w.heap.size 8 _) (by omega)
  have HF7:Hid (FS w w7 (ndA (.slice a1 n.xs.length a2) (.slice b1 n.ys.length b2) (.slice k1 n.h.ks.length k2) (.slice qo n.c.ts.length qc) (.slice zo n.s.ts.length zc) n)):=by rw[hw7];exact HF.out.put 8 _ rfl
  go_upto_region 4 with fail
  rw[<-hw7];clear hw7 HF O6 p8 fp8;have HF:Hid (FS w w7 (ndA (.slice a1 n.xs.length a2) (.slice b1 n.ys.length b2) (.slice k1 n.h.ks.length k2) (.slice qo n.c.ts.length qc) (.slice zo n.s.ts.length zc) n)):=HF7;clear HF7;have p13:w7.drew.cell? ⟨w.heap.size,13,none⟩=some (.int .i64 n.c.tr):=HF.out.p.dr.cell 13 rfl;have p14:w7.drew.cell? ⟨w.heap.size,14,none⟩=some (.bool n.c.op):=HF.out.p.dr.cell 14 rfl;have p15:w7.drew.cell? ⟨w.heap.size,15,none⟩=some (.int .i64 n.c.di):=HF.out.p.dr.cell 15 rfl;have p16:w7.drew.cell? ⟨w.heap.size,16,none⟩=some (.int .i64 n.c.wa):=HF.out.p.dr.cell 16 rfl;have p17:w7.drew.cell? ⟨w.heap.size,17,none⟩=some (.slice qo n.c.ts.length qc):=HF.out.p.dr.cell 17 rfl;have p18:w7.drew.cell? ⟨w.heap.size,18,none⟩=some (.int .i64 n.s.tr):=HF.out.p.dr.cell 18 rfl;have p19:w7.drew.cell? ⟨w.heap.size,19,none⟩=some (.slice zo n.s.ts.length zc):=HF.out.p.dr.cell 19 rfl;have v13:w7.cell? ⟨w.heap.size,13,none⟩=some (.int .i64 n.c.tr):=HF.out.p.cell 13 rfl;have v14:w7.cell? ⟨w.heap.size,14,none⟩=some (.bool n.c.op):=HF.out.p.cell 14 rfl;have v15:w7.cell? ⟨w.heap.size,15,none⟩=some (.int .i64 n.c.di):=HF.out.p.cell 15 rfl;have v16:w7.cell? ⟨w.heap.size,16,none⟩=some (.int .i64 n.c.wa):=HF.out.p.cell 16 rfl;have v17:w7.cell? ⟨w.heap.size,17,none⟩=some (.slice qo n.c.ts.length qc):=HF.out.p.cell 17 rfl;have v18:w7.cell? ⟨w.heap.size,18,none⟩=some (.int .i64 n.s.tr):=HF.out.p.cell 18 rfl;have v19:w7.cell? ⟨w.heap.size,19,none⟩=some (.slice zo n.s.ts.length zc):=HF.out.p.cell 19 rfl
  go_region_with
   (first
    |(go_at_call 74;refine(CQ.out _ (uL HF.out.b)).mono ?_;rintro e w8 ⟨q',rfl,o8,b8⟩;obtain⟨q1,q2,rfl⟩:=aa o8.reads;have HF8:Hid (FS w w8 (ndA (.slice a1 n.xs.length a2) (.slice b1 n.ys.length b2) (.slice k1 n.h.ks.length k2) (.slice qo n.c.ts.length qc) (.slice zo n.s.ts.length zc) n)):=FS.below (FS.below HF.out (Below.refl _ _).drew) b8;have O8:Hid (aY w8 (w.heap.size+2) (.slice a1 n.xs.length a2) (.slice b1 n.ys.length b2) (.slice k1 n.h.ks.length k2) n.xs n.ys n.h.ks/\bO w8 w7.heap.size (.slice q1 n.c.ts.length q2) n.c.ts/\w7.heap.size<=w8.heap.size):=⟨(O7.out.below (Below.refl _ _).drew).below b8,o8,b8.size⟩;clear o8 b8;have m13:w8.cell? ⟨w.heap.size,13,none⟩=some (.int .i64 n.c.tr):=HF8.out.p.cell 13 rfl;have m14:w8.cell? ⟨w.heap.size,14,none⟩=some (.bool n.c.op):=HF8.out.p.cell 14 rfl;have m15:w8.cell? ⟨w.heap.size,15,none⟩=some (.int .i64 n.c.di):=HF8.out.p.cell 15 rfl;have m16:w8.cell? ⟨w.heap.size,16,none⟩=some (.int .i64 n.c.wa):=HF8.out.p.cell 16 rfl;have m17:w8.cell? ⟨w.heap.size,17,none⟩=some (.slice qo n.c.ts.length qc):=HF8.out.p.cell 17 rfl;have m18:w8.cell? ⟨w.heap.size,18,none⟩=some (.int .i64 n.s.tr):=HF8.out.p.cell 18 rfl;have m19:w8.cell? ⟨w.heap.size,19,none⟩=some (.slice zo n.s.ts.length zc):=HF8.out.p.cell 19 rfl;skip)
    |(go_at_call 75;refine(CZ.out _ HF8.out.b).mono ?_;rintro e w9 ⟨z',rfl,o9,b9⟩;obtain⟨z1,z2,rfl⟩:=aa o9.reads;have HF9:Hid (FS w w9 (ndA (.slice a1 n.xs.length a2) (.slice b1 n.ys.length b2) (.slice k1 n.h.ks.length k2) (.slice qo n.c.ts.length qc) (.slice zo n.s.ts.length zc) n)):=HF8.out.below b9;have O9:Hid (aO w9 (w.heap.size+2) (.slice a1 n.xs.length a2) (.slice b1 n.ys.length b2) (.slice k1 n.h.ks.length k2) (.slice q1 n.c.ts.length q2) (.slice z1 n.s.ts.length z2) n):=⟨(O8.out.1.below b9).1.1,(O8.out.1.below b9).1.2.1,(O8.out.1.below b9).2.1,(O8.out.2.1.below b9).mono HF.out.lt,o9.mono (Nat.le_trans HF.out.lt O8.out.2.2),AX O7.out O8.out.2.1 o9 O8.out.2.2⟩;clear o9 b9;have t13:w9.cell? ⟨w.heap.size,13,none⟩=some (.int .i64 n.c.tr):=HF9.out.p.cell 13 rfl;have ft13:w9.frozen? ⟨w.heap.size,13,none⟩=false:=HF9.out.p.frozen 13;have t14:w9.cell? ⟨w.heap.size,14,none⟩=some (.bool n.c.op):=HF9.out.p.cell 14 rfl;have ft14:w9.frozen? ⟨w.heap.size,14,none⟩=false:=HF9.out.p.frozen 14;have t15:w9.cell? ⟨w.heap.size,15,none⟩=some (.int .i64 n.c.di):=HF9.out.p.cell 15 rfl;have ft15:w9.frozen? ⟨w.heap.size,15,none⟩=false:=HF9.out.p.frozen 15;have t16:w9.cell? ⟨w.heap.size,16,none⟩=some (.int .i64 n.c.wa):=HF9.out.p.cell 16 rfl;have ft16:w9.frozen? ⟨w.heap.size,16,none⟩=false:=HF9.out.p.frozen 16;have t17:w9.cell? ⟨w.heap.size,17,none⟩=some (.slice qo n.c.ts.length qc):=HF9.out.p.cell 17 rfl;have ft17:w9.frozen? ⟨w.heap.size,17,none⟩=false:=HF9.out.p.frozen 17;have t18:w9.cell? ⟨w.heap.size,18,none⟩=some (.int .i64 n.s.tr):=HF9.out.p.cell 18 rfl;have ft18:w9.frozen? ⟨w.heap.size,18,none⟩=false:=HF9.out.p.frozen 18;have t19:w9.cell? ⟨w.heap.size,19,none⟩=some (.slice zo n.s.ts.length zc):=HF9.out.p.cell 19 rfl;have ft19:w9.frozen? ⟨w.heap.size,19,none⟩=false:=HF9.out.p.frozen 19;skip))
  all_goals
   obtain⟨w10,hw10⟩:=eX ((((((((w9.setCell ⟨w.heap.size,13,none⟩ (.int .i64 n.c.tr)).setCell ⟨w.heap.size,14,none⟩ (.bool n.c.op)).setCell ⟨w.heap.size,15,none⟩ (.int .i64 n.c.di)).setCell ⟨w.heap.size,16,none⟩ (.int .i64 n.c.wa)).setCell ⟨w.heap.size,17,none⟩ (.slice q1 n.c.ts.length q2)).setCell ⟨w.heap.size,18,none⟩ (.int .i64 n.s.tr)).setCell ⟨w.heap.size,19,none⟩ (.slice z1 n.s.ts.length z2)))
   have HF10:Hid (FS w w10 (ndA (.slice a1 n.xs.length a2) (.slice b1 n.ys.length b2) (.slice k1 n.h.ks.length k2) (.slice q1 n.c.ts.length q2) (.slice z1 n.s.ts.length z2) n)):=by rw[hw10];exact Es HF9.out _ _
   have O10:Hid (aO w10 (w.heap.size+2) (.slice a1 n.xs.length a2) (.slice b1 n.ys.length b2) (.slice k1 n.h.ks.length k2) (.slice q1 n.c.ts.length q2) (.slice z1 n.s.ts.length z2) n):=by rw[hw10];exact Fa O9.out (by omega) _ _ _ _ _ _ _
   rw[<-hw10];clear hw10 HF O7 HF8 O8 HF9 O9 CQ CZ p13 v13 m13 t13 ft13 p14 v14 m14 t14 ft14 p15 v15 m15 t15 ft15 p16 v16 m16 t16 ft16 p17 v17 m17 t17 ft17 p18 v18 m18 t18 ft18 p19 v19 m19 t19 ft19;go_wp2_with (first|(refine ah Tryz.isNd rfl _ rfl w.heap.size rfl (ndA (.slice a1 n.xs.length a2) (.slice b1 n.ys.length b2) (.slice k1 n.h.ks.length k2) (.slice q1 n.c.ts.length q2) (.slice z1 n.s.ts.length z2) n) rfl HF10.out.p ?_)|(refine ae Tryz.isNd rfl _ _ rfl (w.heap.size+1) (ndA (.slice a1 n.xs.length a2) (.slice b1 n.ys.length b2) (.slice k1 n.h.ks.length k2) (.slice q1 n.c.ts.length q2) (.slice z1 n.s.ts.length z2) n) aA rfl rfl rfl rfl (dj n rfl rfl rfl rfl rfl) HF10.out.r ?_;intro w19 s19 g19))
   refine bodyPost_ret (aj Tryz.isNd rfl _ _ (w.heap.size+1) _ rfl rfl s19) rfl ?_;exact⟨_,_,_,_,_,rfl,(O10.out.keptLt g19 (by omega)).mono (by omega),HF10.out.b.grown g19 HF10.out.b.size (fun k e=>by cases e;omega)⟩
theorem NdR.small {n:Nd} (h:NdR n):1<=n.xs.length/\1<=n.ys.length/\1<=n.h.ks.length:=by
 obtain⟨k1,k2,k3⟩:=eH h.dk;exact⟨(bD k1).1,(bD k2).1,by rw[Hd.ok_len h.h];decide⟩
section
open Go.ChangeShapes Go.WideShapes Go.ChangeAt Go.RowKit
end
section
open Go.ChangeShapes Go.WideShapes Go.ChangeAt Go.RowKit
end
section
open Go.ChangeShapes Go.WideShapes Go.ChangeAt Go.RowKit
end
theorem cF.did {w w':World} {a b k q z a' b' k':Value} {n:Nd} {xs ys:List Int} {h':Hd} (h:cF w 0 a b k q z n) (B:bB w w') (o:aY w' w.heap.size a' b' k' xs ys h'.ks):cF w' 0 a' b' k' q z {n with xs:=xs,ys:=ys,h:=h'}:=by
 obtain⟨⟨p1,p2,p3,p4⟩,⟨p5,p6,p7⟩,⟨p8,p9⟩,p0⟩:=mX.1 h.ap;have aq:=fun y hy=>(aM h.oq y hy).2
 have az:=fun y hy=>(aM h.oz y hy).2
 exact⟨o.1.1.mono (Nat.zero_le _),o.1.2.1.mono (Nat.zero_le _),o.2.1.mono (Nat.zero_le _),h.oq.below B,h.oz.below B,
  mX.2 ⟨⟨p1,bC (dp az o.2.1),bC (dp az o.1.2.1),bC (dp az o.1.1)⟩,⟨bC (dp aq o.2.1),bC (dp aq o.1.2.1),bC (dp aq o.1.1)⟩,⟨bC o.2.2.2,bC o.2.2.1⟩,bC o.1.2.2⟩⟩
theorem AI {w':World} {m:Nat} {a b k q z a' b' k':Value} {xs ys ks:List Int} (o:aY w' m a' b' k' xs ys ks):∀x∈dE a' b' k' q z,x∈dE a b k q z∨m<=x:=fun x hx=>by
 rcases nX.1 hx with hx|hx|hx|hx|hx
 ·exact .inr (aM o.1.1 x hx).1
 ·exact .inr (aM o.1.2.1 x hx).1
 ·exact .inr (aM o.2.1 x hx).1
 ·exact .inl (nX.2 (.inr (.inr (.inr (.inl hx)))))
 ·exact .inl (nX.2 (.inr (.inr (.inr (.inr hx)))))
theorem nU (cs:Array Value) (off:Nat) (d w:Int):(fj cs off d w).size=cs.size:=by unfold fj;rw[Array.size_setIfInBounds,Array.size_setIfInBounds]
theorem nV {cs:Array Value} {off i:Nat} {d w:Int} (h2:i≠off+2) (h3:i≠off+3):(fj cs off d w)[i]?=cs[i]?:=by
 unfold fj;rw[gA (by omega),gA (by omega)]
theorem Hs.cop {w:World} {g off:Nat} {t:TypeId} {cs:Array Value} {a b k q z:Value} {n:Nd} (h:Hs w g off t cs a b k q z n):CpB w g (off+13) t cs q n.c:=
 ⟨h.nb.st,by rw[h.nb.el 13 (by decide)];rfl,by rw[show off+13+1=off+14 by omega,h.nb.el 14 (by decide)];rfl,by rw[show off+13+2=off+15 by omega,h.nb.el 15 (by decide)];rfl,by rw[show off+13+3=off+16 by omega,h.nb.el 16 (by decide)];rfl,by rw[show off+13+4=off+17 by omega,h.nb.el 17 (by decide)];rfl,h.ow.oq,h.ow.oq.ne h.nb.st h.ty⟩
theorem iE {w w':World} {base g:Nat} {t:TypeId} {cs:Array Value} {u q:Value} {xs:List Int} (h:Own w base u xs) (s:StB w g t cs) (ty:t≠2) (T:aw w w' (g::q.ownBlock.toList)) (ap:apart u q):Own w' base u xs:=
 h.frame fun x hx=>T.block x (aM h x (by simpa[blk]using hx)).2 (fun e=>by
  rcases List.mem_cons.1 e with e|e
  ·subst e;exact h.ne s ty (by simpa using hx)
  ·exact(eK.1 ap) x (by simpa[blk]using hx) (by simpa[blk]using e))
theorem Hs.cp {w w':World} {g off:Nat} {t:TypeId} {cs:Array Value} {a b k q z:Value} {n:Nd} {c':Cp} (h:Hs w g off t cs a b k q z n) (hc:CpB w' g (off+13) t (fj cs (off+13) c'.di c'.wa) q c') (T:aw w w' (g::q.ownBlock.toList)):
  Hs w' g off t (fj cs (off+13) c'.di c'.wa) a b k q z {n with c:=c'}/\Hop w w' g off cs (fj cs (off+13) c'.di c'.wa) (dE a b k q z) (dE a b k q z):=by
 obtain⟨⟨p1,p2,p3,p4⟩,⟨p5,p6,p7⟩,⟨p8,p9⟩,p0⟩:=mX.1 h.ow.ap;refine⟨⟨⟨hc.st,by rw[nU];exact h.nb.sz,fun j hj=>?_⟩,⟨iE h.ow.oa h.nb.st h.ty T (bC p7),iE h.ow.ob h.nb.st h.ty T (bC p6),iE h.ow.ok h.nb.st h.ty T (bC p5),hc.own,iE h.ow.oz h.nb.st h.ty T p1,h.ow.ap⟩,h.ty⟩,⟨⟨nU _ _ _ _,fun i hi=>nV (by omega) (by omega)⟩,T.sub (fun x hx=>by
  rcases List.mem_cons.1 hx with e|e
  ·simp[e]
  ·exact List.mem_cons_of_mem _ (nX.2 (.inr (.inr (.inr (.inl (by simpa[blk]using e))))))),fun _ h=>.inl h⟩⟩
 by_cases e13:j=13
 ·subst e13;rw[hc.i0];rfl
 by_cases e14:j=14
 ·subst e14;rw[show off+14=off+13+1 by omega,hc.i1];rfl
 by_cases e15:j=15
 ·subst e15;rw[show off+15=off+13+2 by omega,hc.i2];rfl
 by_cases e16:j=16
 ·subst e16;rw[show off+16=off+13+3 by omega,hc.i3];rfl
 by_cases e17:j=17
 ·subst e17;rw[show off+17=off+13+4 by omega,hc.i4];rfl
 rw[nV (by omega) (by omega),h.nb.el j hj];have e:ndA a b k q z {n with c:=c'}=(((((ndA a b k q z n).setIfInBounds 13 (.int .i64 c'.tr)).setIfInBounds 14 (.bool c'.op)).setIfInBounds 15 (.int .i64 c'.di)).setIfInBounds 16 (.int .i64 c'.wa)).setIfInBounds 17 q:=rfl;rw[e,Array.getElem?_setIfInBounds_ne (by omega),Array.getElem?_setIfInBounds_ne (by omega),Array.getElem?_setIfInBounds_ne (by omega),Array.getElem?_setIfInBounds_ne (by omega),Array.getElem?_setIfInBounds_ne (by omega)]
theorem Hs.kept {w w':World} {g off:Nat} {t s:TypeId} {h:Nat} {cs ds:Array Value} {a b k q z:Value} {n:Nd} (d:Hs w g off t cs a b k q z n) (r:StB w h s ds) (G:w.grownBy w' (some h)) (hg:g≠h) (ty:s≠2):Hs w' g off t cs a b k q z n:=
 ⟨⟨d.nb.st.kept G (fun e=>hg (Option.some.inj e)),d.nb.sz,d.nb.el⟩,⟨d.ow.oa.putBy r ty G,d.ow.ob.putBy r ty G,d.ow.ok.putBy r ty G,d.ow.oq.putBy r ty G,d.ow.oz.putBy r ty G,d.ow.ap⟩,d.ty⟩
theorem aY.putT {w w':World} {base g:Nat} {a b k:Value} {xs ys ks:List Int} {s:TypeId} {ds:Array Value} (h:aY w base a b k xs ys ks) (r:StB w g s ds) (ty:s≠2) (G:w.grownBy w' (some g)):aY w' base a b k xs ys ks:=
 ⟨⟨h.1.1.putBy r ty G,h.1.2.1.putBy r ty G,h.1.2.2⟩,h.2.1.putBy r ty G,h.2.2⟩
theorem StB.turnedO {w w':World} {g k:Nat} {s:TypeId} {cs:Array Value} {base:Nat} {q:Value} {xs:List Int} (h:StB w k s cs) (o:Own w base q xs) (T:aw w w' (g::q.ownBlock.toList)) (hk:k≠g) (ty:s≠2):StB w' k s cs:=
 h.turned T (fun e=>by
  rcases List.mem_cons.1 e with e|e
  ·exact hk e
  ·exact o.ne h ty (by simpa using e))
theorem Hop.putNew {w w1 w2:World} {g off h:Nat} {cs cs':Array Value} {L L':List Nat} (H:Hop w w1 g off cs cs' L L') (G:w1.grownBy w2 (some h)) (hh:w.heap.size<=h):Hop w w2 g off cs cs' L L':=
 ⟨H.on,⟨G.os.trans H.tu.os,G.tape.trans H.tu.tape,G.output.trans H.tu.output,Nat.le_trans H.tu.size G.size,fun k hk hn=>(G.block k (Nat.lt_of_lt_of_le hk H.tu.size) (fun e=>by cases e;omega)).trans (H.tu.block k hk hn)⟩,H.nw⟩
theorem dz {t:TypeId} {n:Nat} (hS:IsS t n) {ops:Array Oper} {C:World->Prop} {E:Oper->Act->Option dP} {R:World->World->Prop} {Q:Act->cJ->Prop} {o:Oper} {rest:List Oper} {a:Act} {G:cJ} (hs:E o a=none)
  (hw:Region.wanted o (yielded ops a.tmps)=true) (x:Operand) (ho:o.op=.load t x) (g:Nat) (hx:a.eval x=.pointer (some ⟨g,0,none⟩)) (cs:Array Value) (hn:cs.size=n) (hr:∀q:Kin C,StB q.x g t cs)
  (k:nd Tryz.prog ops C E R Q rest (a.put o.dst (.agg cs)) G):nd Tryz.prog ops C E R Q (o::rest) a G:=by
 refine eP hs (fun K hK=>?_);rw[if_pos hw];refine⟨.agg cs,fun w hq=>?_,hK _ k⟩;obtain⟨q,rfl⟩:=hq;unfold Oper.quietAt execOp;simp only[ho,hx,Instr.loadAt,Instr.sureAddr,Sem.run_bind,Sem.run_pure,Result.andThen_ok,gW hS q.x g cs hn (hr q)];simp[Oper.quietUpon]
def oO (n:Nd):dP:=⟨fun u=>∃a b k q z,u=.agg (ndA a b k q z n),fun u w=>∃a b k q z,u=.agg (ndA a b k q z n)/\RdN w a b k q z n⟩
theorem uA {n:Nd} {u:Value} {x y:World} (hx:(oO n).F u x) (hl:dQ x y):(oO n).F u y:=by
 obtain⟨a,b,k,q,z,e,h⟩:=hx;exact⟨a,b,k,q,z,e,h.below hl⟩
theorem Bk {n:Nd} {a b k q z:Value} {w:World} (h:(oO n).F (.agg (ndA a b k q z n)) w):RdN w a b k q z n:=by
 obtain⟨a',b',k',q',z',e,h⟩:=h;have e':=congrArg (fun v=>match v with| .agg cs=>cs|_=>#[]) e;simp only[ndA]at e';have g:∀j:Nat,_:=fun j=>congrArg (fun cs:Array Value=>cs[j]?) e'
 have h2:=g 2;have h3:=g 3;have h4:=g 4;have h17:=g 17;have h19:=g 19;simp at h2 h3 h4 h17 h19;subst h2 h3 h4 h17 h19;exact h
theorem Bl {P:Program} {f:FuncId} {args:Array Value} {w:World} {n:Nd} (h:Calls P f args w fun e w'=>∃a b k q z,e=.returned (.agg (ndA a b k q z n))/\cF w' w.heap.size a b k q z n/\bB w w'):Calls P f args w (fun e w''=>∃u,e=.returned u/\(oO n).V u/\(oO n).F u w''/\dQ w w''):=
 h.mono fun _ _ ⟨a,b,k,q,z,he,o,hb⟩=>⟨_,he,⟨a,b,k,q,z,rfl⟩,⟨a,b,k,q,z,rfl,o.reads⟩,hb⟩
end Go.Proofs.YthldeiojlllkdaaGreatDoor
