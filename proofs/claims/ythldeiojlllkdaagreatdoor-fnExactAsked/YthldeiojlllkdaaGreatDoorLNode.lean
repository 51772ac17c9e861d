/- How the laws measure a house, take it kL, compare two, mark one and look at the aP. -/
import Derived.Test.YthldeiojlllkdaaGreatDoorM1
import Derived.Test.YthldeiojlllkdaaGreatDoorM12
import Derived.Test.YthldeiojlllkdaaGreatDoorM11
import Derived.Test.YthldeiojlllkdaaGreatDoorM9
set_option maxRecDepth 20000
set_option maxHeartbeats 4000000
namespace Go.Proofs.YthldeiojlllkdaaGreatDoor
open Go.ChangeShapes Go.WideShapes Go.ChangeAt Go.RowKit
theorem Own.turnedBy {w w':World} {base:Nat} {v:Value} {xs:List Int} {bs:List Nat} (h:Own w base v xs) (t:aw w w' bs) (hn:∀x∈blk v,x∉bs):Own w' base v xs:=h.frame (fun x hx=>t.block x (aM h x hx).2 (hn x hx))
theorem bO.turnedBy {w w':World} {base:Nat} {v:Value} {xs:List Int} {bs:List Nat} (h:bO w base v xs) (t:aw w w' bs) (hn:∀x∈bm v xs,x∉bs):bO w' base v xs:=h.frame (fun x hx=>t.block x (eL h hx).2 (hn x hx))
theorem wJ (a b k q z:Value) (n:Nd) (m:Int) (w:World) (hr:RdN w a b k q z n) (hg:n.log.length<=9223372036854775807) (h0:0<=m) (h1:m<=1048576):
  Calls Tryz.prog 4 #[NdV a b k q z n,.int .i64 m] w fun e w'=>e=.returned (.int .i64 (szI m (n.len+n.log.length)))/\bB w w':=by
 have b1:bB w (w.alloc (.cells (ndA a b k q z n) 34)):=bA;have S1:Hid (StB (w.alloc (.cells (ndA a b k q z n) 34)) w.heap.size 34 (ndA a b k q z n)):=StB.new _ _ _;have HR:Hid (∀wx,bB w wx->RdN wx a b k q z n):=fun wx B=>hr.below B
 have HL:Hid (n.len=n.xs.length+n.ys.length+n.h.ks.length+n.c.ts.length+n.s.ts.length):=rfl;have hlog:(⟨n.log.toArray⟩:ByteArray).size=n.log.length:=rfl;obtain⟨t,ht⟩:=eX n.len
 rw[<-ht]at HL⊢;clear ht;obtain⟨ao,ac,rfl⟩:=aa hr.ra;obtain⟨bo,bc,rfl⟩:=aa hr.rb;obtain⟨ko,kc,rfl⟩:=aa hr.rk;obtain⟨qo,qc,rfl⟩:=aa hr.rq;obtain⟨zo,zc,rfl⟩:=aa hr.rz;clear hr;obtain⟨w1,hw1⟩:=eX (w.alloc (.cells (ndA (.slice ao n.xs.length ac) (.slice bo n.ys.length bc) (.slice ko n.h.ks.length kc) (.slice qo n.c.ts.length qc) (.slice zo n.s.ts.length zc) n) 34))
 rw[<-hw1]at S1 b1;have HB:Hid (bB w w1):=b1;clear b1;unfold ndA S at hw1;unfold NdV;unfold ndA S;have C1:Hid _:=fun(wx:World) (b:bB w wx)=>vw _ _ n.xs n.ys m wx (HR.out wx b).ra (HR.out wx b).rb h0 h1
 go_enter Tryz.func4,Tryz.ntmps4;go_upto_region 1 with fail
 rw[<-hw1];clear hw1;have p2:w1.cell? ⟨w.heap.size,2,none⟩=some (.slice ao n.xs.length ac):=S1.out.cell 2 rfl;have p3:w1.cell? ⟨w.heap.size,3,none⟩=some (.slice bo n.ys.length bc):=S1.out.cell 3 rfl;go_wp2_with fail
 refine(C1.out w1 HB.out).mono ?_;rintro e w2 ⟨rfl,b2⟩;replace HB:Hid (bB w w2):=HB.out.trans (b2.mono HB.out.size);replace S1:Hid (StB w2 w.heap.size 34 (ndA (.slice ao n.xs.length ac) (.slice bo n.ys.length bc) (.slice ko n.h.ks.length kc) (.slice qo n.c.ts.length qc) (.slice zo n.s.ts.length zc) n)):=S1.out.below b2;clear C1 b2 p2 p3;by_cases g0:((n.xs.length+n.ys.length:Nat):Int)<=m
 ·have e0:szI m (n.xs.length+n.ys.length)=m-(n.xs.length+n.ys.length:Nat):=by simp only[szI];rw[if_pos g0]
  rw[e0];clear e0;obtain⟨m1,hm1⟩:∃m1:Int,m1=m-(n.xs.length+n.ys.length:Nat):=⟨_,rfl⟩
  rw[<-hm1];have y0:0<=m1:=by omega
  have yy0:m1<=1048576:=by omega
  have G0:Hid (m1=m-(n.xs.length+n.ys.length:Nat)):=hm1;clear hm1;have C1:Hid _:=fun(wx:World) (b:bB w wx)=>pM _ n.h m1 wx (HR.out wx b).rk (by omega) (by omega)
  have p4:w2.cell? ⟨w.heap.size,4,none⟩=some (.slice ko n.h.ks.length kc):=S1.out.cell 4 rfl;have p5:w2.cell? ⟨w.heap.size,5,none⟩=some (.int .i64 n.h.kd):=S1.out.cell 5 rfl;have p6:w2.cell? ⟨w.heap.size,6,none⟩=some (.int .i64 n.h.ho):=S1.out.cell 6 rfl;have p7:w2.cell? ⟨w.heap.size,7,none⟩=some (.int .i64 n.h.tu):=S1.out.cell 7 rfl;go_wp2_with fail
  refine(C1.out w2 HB.out).mono ?_;rintro e w3 ⟨rfl,b2⟩;replace HB:Hid (bB w w3):=HB.out.trans (b2.mono HB.out.size);replace S1:Hid (StB w3 w.heap.size 34 (ndA (.slice ao n.xs.length ac) (.slice bo n.ys.length bc) (.slice ko n.h.ks.length kc) (.slice qo n.c.ts.length qc) (.slice zo n.s.ts.length zc) n)):=S1.out.below b2;clear C1 b2 p4 p5 p6 p7;by_cases g1:((n.h.ks.length:Nat):Int)<=m1
  ·have e1:szI m1 (n.h.ks.length)=m1-(n.h.ks.length:Nat):=by simp only[szI];rw[if_pos g1]
   rw[e1];clear e1;obtain⟨m2,hm2⟩:∃m2:Int,m2=m1-(n.h.ks.length:Nat):=⟨_,rfl⟩
   rw[<-hm2];have y1:0<=m2:=by omega
   have yy1:m2<=1048576:=by omega
   have G1:Hid (m2=m1-(n.h.ks.length:Nat)):=hm2;clear hm2;have p8:w3.cell? ⟨w.heap.size,8,none⟩=some (.string ⟨n.log.toArray⟩):=S1.out.cell 8 rfl;have wl:IntKind.i64.wrap (m2-(n.log.length:Int))=m2-(n.log.length:Int):=by rw[IntKind.wrap_i64];omega
   by_cases g2:((n.log.length:Nat):Int)<=m2
   ·have y2:0<=(m2-(n.log.length:Int)):=by omega
    have yy2:(m2-(n.log.length:Int))<=1048576:=by omega
    have C3:Hid _:=fun(wx:World) (b:bB w wx)=>sb _ n.c (m2-(n.log.length:Int)) wx (HR.out wx b).rq (by omega) (by omega)
    have p13:w3.cell? ⟨w.heap.size,13,none⟩=some (.int .i64 n.c.tr):=S1.out.cell 13 rfl;have p14:w3.cell? ⟨w.heap.size,14,none⟩=some (.bool n.c.op):=S1.out.cell 14 rfl;have p15:w3.cell? ⟨w.heap.size,15,none⟩=some (.int .i64 n.c.di):=S1.out.cell 15 rfl;have p16:w3.cell? ⟨w.heap.size,16,none⟩=some (.int .i64 n.c.wa):=S1.out.cell 16 rfl;have p17:w3.cell? ⟨w.heap.size,17,none⟩=some (.slice qo n.c.ts.length qc):=S1.out.cell 17 rfl;go_wp2_with fail
    refine(C3.out w3 HB.out).mono ?_;rintro e w4 ⟨rfl,b2⟩;replace HB:Hid (bB w w4):=HB.out.trans (b2.mono HB.out.size);replace S1:Hid (StB w4 w.heap.size 34 (ndA (.slice ao n.xs.length ac) (.slice bo n.ys.length bc) (.slice ko n.h.ks.length kc) (.slice qo n.c.ts.length qc) (.slice zo n.s.ts.length zc) n)):=S1.out.below b2;clear C3 b2 p13 p14 p15 p16 p17;by_cases g3:((n.c.ts.length:Nat):Int)<=(m2-(n.log.length:Int))
    ·have e3:szI (m2-(n.log.length:Int)) (n.c.ts.length)=(m2-(n.log.length:Int))-(n.c.ts.length:Nat):=by simp only[szI];rw[if_pos g3]
     rw[e3];clear e3;obtain⟨m4,hm4⟩:∃m4:Int,m4=(m2-(n.log.length:Int))-(n.c.ts.length:Nat):=⟨_,rfl⟩
     rw[<-hm4];have y3:0<=m4:=by omega
     have yy3:m4<=1048576:=by omega
     have G3:Hid (m4=(m2-(n.log.length:Int))-(n.c.ts.length:Nat)):=hm4;clear hm4;have C4:Hid _:=fun(wx:World) (b:bB w wx)=>wL _ n.s m4 wx (HR.out wx b).rz (by omega) (by omega)
     have p18:w4.cell? ⟨w.heap.size,18,none⟩=some (.int .i64 n.s.tr):=S1.out.cell 18 rfl;have p19:w4.cell? ⟨w.heap.size,19,none⟩=some (.slice zo n.s.ts.length zc):=S1.out.cell 19 rfl;go_wp2_with fail
     refine(C4.out w4 HB.out).mono ?_;rintro e w5 ⟨rfl,b2⟩;replace HB:Hid (bB w w5):=HB.out.trans (b2.mono HB.out.size);replace S1:Hid (StB w5 w.heap.size 34 (ndA (.slice ao n.xs.length ac) (.slice bo n.ys.length bc) (.slice ko n.h.ks.length kc) (.slice qo n.c.ts.length qc) (.slice zo n.s.ts.length zc) n)):=S1.out.below b2;clear C4 b2 p18 p19;by_cases g4:((n.s.ts.length:Nat):Int)<=m4
     ·have e4:szI m4 (n.s.ts.length)=m4-(n.s.ts.length:Nat):=by simp only[szI];rw[if_pos g4]
      rw[e4];clear e4;obtain⟨m5,hm5⟩:∃m5:Int,m5=m4-(n.s.ts.length:Nat):=⟨_,rfl⟩
      rw[<-hm5];have y4:0<=m5:=by omega
      have yy4:m5<=1048576:=by omega
      have G4:Hid (m5=m4-(n.s.ts.length:Nat)):=hm5;clear hm5;have ZZ:Hid (szI m (t+n.log.length)=m5):=by rw[Hid];have:=HL.out;have:=G0.out;have:=G1.out;have:=G3.out;have:=G4.out;simp only[szI];rw[if_pos (by omega)];omega
      go_wp2;go_ret;exact⟨cX ZZ.out.symm,HB.out⟩
     ·have ZZ:Hid (szI m (t+n.log.length)= -1):=by rw[Hid];have:=HL.out;have:=G0.out;have:=G1.out;have:=G3.out;simp only[szI];rw[if_neg (by omega)]
      have e4:szI m4 (n.s.ts.length)= -1:=by simp only[szI];rw[if_neg g4]
      rw[e4];clear e4;go_wp2;go_ret;exact⟨cX ZZ.out.symm,HB.out⟩
    ·have ZZ:Hid (szI m (t+n.log.length)= -1):=by rw[Hid];have:=HL.out;have:=G0.out;have:=G1.out;simp only[szI];rw[if_neg (by omega)]
     have e3:szI (m2-(n.log.length:Int)) (n.c.ts.length)= -1:=by simp only[szI];rw[if_neg g3]
     rw[e3];clear e3;go_wp2;go_ret;exact⟨cX ZZ.out.symm,HB.out⟩
   ·have ZZ:Hid (szI m (t+n.log.length)= -1):=by rw[Hid];have:=HL.out;have:=G0.out;have:=G1.out;simp only[szI];rw[if_neg (by omega)]
    have y2:(m2-(n.log.length:Int))<0:=by omega
    go_wp2;go_ret;exact⟨cX ZZ.out.symm,HB.out⟩
  ·have ZZ:Hid (szI m (t+n.log.length)= -1):=by rw[Hid];have:=HL.out;have:=G0.out;simp only[szI];rw[if_neg (by omega)]
   have e1:szI m1 (n.h.ks.length)= -1:=by simp only[szI];rw[if_neg g1]
   rw[e1];clear e1;go_wp2;go_ret;exact⟨cX ZZ.out.symm,HB.out⟩
 ·have ZZ:Hid (szI m (t+n.log.length)= -1):=by rw[Hid];have:=HL.out;simp only[szI];rw[if_neg (by omega)]
  have e0:szI m (n.xs.length+n.ys.length)= -1:=by simp only[szI];rw[if_neg g0]
  rw[e0];clear e0;go_wp2;go_ret;exact⟨cX ZZ.out.symm,HB.out⟩
theorem oK (a b k q z a' b' k' q' z':Value) (n:Nd) (w:World) (hr:RdN w a b k q z n) (hs:RdN w a' b' k' q' z' n) (hl:SmN n):
  Calls Tryz.prog 8 #[NdV a b k q z n,NdV a' b' k' q' z' n] w fun e w'=>e=.returned (.bool true)/\bB w w':=by
 obtain⟨w1,hw1⟩:=eX ((w.alloc (.cells (ndA a b k q z n) 42)).alloc (.cells (ndA a' b' k' q' z' n) 42))
 have HB:Hid (bB w w1):=by rw[hw1];exactbA.alloc (by simp) _
 have S1:Hid (StB w1 w.heap.size 42 (ndA a b k q z n)/\StB w1 (w.heap.size+1) 42 (ndA a' b' k' q' z' n)):=by
  rw[hw1];refine⟨(StB.new _ _ _).alloc _,?_⟩;have:=StB.new (w.alloc (.cells (ndA a b k q z n) 42)) 42 (ndA a' b' k' q' z' n)
  rwa[World.size_alloc]at this
 have HR:Hid (∀wx,bB w wx->RdN wx a b k q z n/\RdN wx a' b' k' q' z' n):=fun wx B=>⟨hr.below B,hs.below B⟩
 obtain⟨la,lb,lk,lq,lz,ll⟩:=hl;have C1:Hid (∀wx,bB w wx->Calls Tryz.prog 30 #[.agg #[a,b],.agg #[a',b']] wx fun e w'=>e=.returned (.bool true)/\bB wx w'):=fun wx B=>vy _ _ _ _ n.xs n.ys wx (HR.out wx B).1.ra (HR.out wx B).1.rb (HR.out wx B).2.ra (HR.out wx B).2.rb (by omega) (by omega)
 have C2:Hid (∀wx,bB w wx->Calls Tryz.prog 31 #[HV k n.h,HV k' n.h] wx fun e w'=>e=.returned (.bool true)/\bB wx w'):=fun wx B=>pO _ _ n.h wx (HR.out wx B).1.rk (HR.out wx B).2.rk (by omega)
 have C3:Hid (∀wx,Calls Tryz.prog 32 #[RV n.r,RV n.r] wx fun e w'=>e=.returned (.bool true)/\bB wx w'):=fun wx=>by
  have:=sr n.r n.r wx
  rwa[show d8 n.r n.r=true by simp[d8]]at this
 have C4:Hid (∀wx,bB w wx->Calls Tryz.prog 33 #[CpV q n.c,CpV q' n.c] wx fun e w'=>e=.returned (.bool true)/\bB wx w'):=fun wx B=>sd _ _ n.c wx (HR.out wx B).1.rq (HR.out wx B).2.rq (by omega)
 have C5:Hid (∀wx,bB w wx->Calls Tryz.prog 34 #[SnV z n.s,SnV z' n.s] wx fun e w'=>e=.returned (.bool true)/\bB wx w'):=fun wx B=>wN _ _ n.s wx (HR.out wx B).1.rz (HR.out wx B).2.rz (by omega)
 obtain⟨ao,ac,rfl⟩:=aa hr.ra;obtain⟨bo,bc,rfl⟩:=aa hr.rb;obtain⟨ko,kc,rfl⟩:=aa hr.rk;obtain⟨qo,qc,rfl⟩:=aa hr.rq;obtain⟨zo,zc,rfl⟩:=aa hr.rz;obtain⟨ap,ad,rfl⟩:=aa hs.ra;obtain⟨bp,bd,rfl⟩:=aa hs.rb;obtain⟨kp,kd,rfl⟩:=aa hs.rk;obtain⟨qp,qd,rfl⟩:=aa hs.rq;obtain⟨zp,zd,rfl⟩:=aa hs.rz;clear hr hs HR la lb lk lq lz ll;unfold HV hdA at C2;unfold RV db at C3;unfold CpV cpA at C4;unfold SnV snA at C5;have e1:∀x:Int,(x==x)=true:=by simp
 have e2:∀x:Bool,(x==x)=true:=by simp
 have e3:(n.log==n.log)=true:=by simp
 unfold ndA S at hw1;unfold NdV;unfold ndA S;go_enter Tryz.func8,Tryz.ntmps8;go_upto_region 1 with fail
 rw[<-hw1];clear hw1;have p0:w1.cell? ⟨w.heap.size,0,none⟩=some (.int .i64 n.id):=S1.out.1.cell 0 rfl;have p1:w1.cell? ⟨w.heap.size,1,none⟩=some (.bool n.up):=S1.out.1.cell 1 rfl;have p2:w1.cell? ⟨w.heap.size,2,none⟩=some (.slice ao n.xs.length ac):=S1.out.1.cell 2 rfl;have p3:w1.cell? ⟨w.heap.size,3,none⟩=some (.slice bo n.ys.length bc):=S1.out.1.cell 3 rfl;have s0:w1.cell? ⟨w.heap.size+1,0,none⟩=some (.int .i64 n.id):=S1.out.2.cell 0 rfl;have s1:w1.cell? ⟨w.heap.size+1,1,none⟩=some (.bool n.up):=S1.out.2.cell 1 rfl;have s2:w1.cell? ⟨w.heap.size+1,2,none⟩=some (.slice ap n.xs.length ad):=S1.out.2.cell 2 rfl;have s3:w1.cell? ⟨w.heap.size+1,3,none⟩=some (.slice bp n.ys.length bd):=S1.out.2.cell 3 rfl;go_wp2_with fail
 refine(C1.out w1 HB.out).mono ?_;rintro e w2 ⟨rfl,b2⟩;replace HB:Hid (bB w w2):=HB.out.trans (b2.mono HB.out.size);replace S1:Hid (StB w2 w.heap.size 42 (ndA (.slice ao n.xs.length ac) (.slice bo n.ys.length bc) (.slice ko n.h.ks.length kc) (.slice qo n.c.ts.length qc) (.slice zo n.s.ts.length zc) n)/\StB w2 (w.heap.size+1) 42 (ndA (.slice ap n.xs.length ad) (.slice bp n.ys.length bd) (.slice kp n.h.ks.length kd) (.slice qp n.c.ts.length qd) (.slice zp n.s.ts.length zd) n)):=⟨S1.out.1.below b2,S1.out.2.below b2⟩
 clear C1 b2 p0 s0 p1 s1 p2 s2 p3 s3;have p4:w2.cell? ⟨w.heap.size,4,none⟩=some (.slice ko n.h.ks.length kc):=S1.out.1.cell 4 rfl;have p5:w2.cell? ⟨w.heap.size,5,none⟩=some (.int .i64 n.h.kd):=S1.out.1.cell 5 rfl;have p6:w2.cell? ⟨w.heap.size,6,none⟩=some (.int .i64 n.h.ho):=S1.out.1.cell 6 rfl;have p7:w2.cell? ⟨w.heap.size,7,none⟩=some (.int .i64 n.h.tu):=S1.out.1.cell 7 rfl;have s4:w2.cell? ⟨w.heap.size+1,4,none⟩=some (.slice kp n.h.ks.length kd):=S1.out.2.cell 4 rfl;have s5:w2.cell? ⟨w.heap.size+1,5,none⟩=some (.int .i64 n.h.kd):=S1.out.2.cell 5 rfl;have s6:w2.cell? ⟨w.heap.size+1,6,none⟩=some (.int .i64 n.h.ho):=S1.out.2.cell 6 rfl;have s7:w2.cell? ⟨w.heap.size+1,7,none⟩=some (.int .i64 n.h.tu):=S1.out.2.cell 7 rfl;go_wp2_with fail
 refine(C2.out w2 HB.out).mono ?_;rintro e w3 ⟨rfl,b2⟩;replace HB:Hid (bB w w3):=HB.out.trans (b2.mono HB.out.size);replace S1:Hid (StB w3 w.heap.size 42 (ndA (.slice ao n.xs.length ac) (.slice bo n.ys.length bc) (.slice ko n.h.ks.length kc) (.slice qo n.c.ts.length qc) (.slice zo n.s.ts.length zc) n)/\StB w3 (w.heap.size+1) 42 (ndA (.slice ap n.xs.length ad) (.slice bp n.ys.length bd) (.slice kp n.h.ks.length kd) (.slice qp n.c.ts.length qd) (.slice zp n.s.ts.length zd) n)):=⟨S1.out.1.below b2,S1.out.2.below b2⟩
 clear C2 b2 p4 s4 p5 s5 p6 s6 p7 s7;have p8:w3.cell? ⟨w.heap.size,8,none⟩=some (.string ⟨n.log.toArray⟩):=S1.out.1.cell 8 rfl;have p9:w3.cell? ⟨w.heap.size,9,none⟩=some (.int .i64 n.r.e):=S1.out.1.cell 9 rfl;have p10:w3.cell? ⟨w.heap.size,10,none⟩=some (.int .i64 n.r.s):=S1.out.1.cell 10 rfl;have p11:w3.cell? ⟨w.heap.size,11,none⟩=some (.int .i64 n.r.t):=S1.out.1.cell 11 rfl;have p12:w3.cell? ⟨w.heap.size,12,none⟩=some (.int .i64 n.r.n):=S1.out.1.cell 12 rfl;have s8:w3.cell? ⟨w.heap.size+1,8,none⟩=some (.string ⟨n.log.toArray⟩):=S1.out.2.cell 8 rfl;have s9:w3.cell? ⟨w.heap.size+1,9,none⟩=some (.int .i64 n.r.e):=S1.out.2.cell 9 rfl;have s10:w3.cell? ⟨w.heap.size+1,10,none⟩=some (.int .i64 n.r.s):=S1.out.2.cell 10 rfl;have s11:w3.cell? ⟨w.heap.size+1,11,none⟩=some (.int .i64 n.r.t):=S1.out.2.cell 11 rfl;have s12:w3.cell? ⟨w.heap.size+1,12,none⟩=some (.int .i64 n.r.n):=S1.out.2.cell 12 rfl;go_wp2_with fail
 refine(C3.out w3).mono ?_;rintro e w4 ⟨rfl,b2⟩;replace HB:Hid (bB w w4):=HB.out.trans (b2.mono HB.out.size);replace S1:Hid (StB w4 w.heap.size 42 (ndA (.slice ao n.xs.length ac) (.slice bo n.ys.length bc) (.slice ko n.h.ks.length kc) (.slice qo n.c.ts.length qc) (.slice zo n.s.ts.length zc) n)/\StB w4 (w.heap.size+1) 42 (ndA (.slice ap n.xs.length ad) (.slice bp n.ys.length bd) (.slice kp n.h.ks.length kd) (.slice qp n.c.ts.length qd) (.slice zp n.s.ts.length zd) n)):=⟨S1.out.1.below b2,S1.out.2.below b2⟩
 clear C3 b2 p8 s8 p9 s9 p10 s10 p11 s11 p12 s12;have p13:w4.cell? ⟨w.heap.size,13,none⟩=some (.int .i64 n.c.tr):=S1.out.1.cell 13 rfl;have p14:w4.cell? ⟨w.heap.size,14,none⟩=some (.bool n.c.op):=S1.out.1.cell 14 rfl;have p15:w4.cell? ⟨w.heap.size,15,none⟩=some (.int .i64 n.c.di):=S1.out.1.cell 15 rfl;have p16:w4.cell? ⟨w.heap.size,16,none⟩=some (.int .i64 n.c.wa):=S1.out.1.cell 16 rfl;have p17:w4.cell? ⟨w.heap.size,17,none⟩=some (.slice qo n.c.ts.length qc):=S1.out.1.cell 17 rfl;have s13:w4.cell? ⟨w.heap.size+1,13,none⟩=some (.int .i64 n.c.tr):=S1.out.2.cell 13 rfl;have s14:w4.cell? ⟨w.heap.size+1,14,none⟩=some (.bool n.c.op):=S1.out.2.cell 14 rfl;have s15:w4.cell? ⟨w.heap.size+1,15,none⟩=some (.int .i64 n.c.di):=S1.out.2.cell 15 rfl;have s16:w4.cell? ⟨w.heap.size+1,16,none⟩=some (.int .i64 n.c.wa):=S1.out.2.cell 16 rfl;have s17:w4.cell? ⟨w.heap.size+1,17,none⟩=some (.slice qp n.c.ts.length qd):=S1.out.2.cell 17 rfl;go_wp2_with fail
 refine(C4.out w4 HB.out).mono ?_;rintro e w5 ⟨rfl,b2⟩;replace HB:Hid (bB w w5):=HB.out.trans (b2.mono HB.out.size);replace S1:Hid (StB w5 w.heap.size 42 (ndA (.slice ao n.xs.length ac) (.slice bo n.ys.length bc) (.slice ko n.h.ks.length kc) (.slice qo n.c.ts.length qc) (.slice zo n.s.ts.length zc) n)/\StB w5 (w.heap.size+1) 42 (ndA (.slice ap n.xs.length ad) (.slice bp n.ys.length bd) (.slice kp n.h.ks.length kd) (.slice qp n.c.ts.length qd) (.slice zp n.s.ts.length zd) n)):=⟨S1.out.1.below b2,S1.out.2.below b2⟩
 clear C4 b2 p13 s13 p14 s14 p15 s15 p16 s16 p17 s17;have p18:w5.cell? ⟨w.heap.size,18,none⟩=some (.int .i64 n.s.tr):=S1.out.1.cell 18 rfl;have p19:w5.cell? ⟨w.heap.size,19,none⟩=some (.slice zo n.s.ts.length zc):=S1.out.1.cell 19 rfl;have s18:w5.cell? ⟨w.heap.size+1,18,none⟩=some (.int .i64 n.s.tr):=S1.out.2.cell 18 rfl;have s19:w5.cell? ⟨w.heap.size+1,19,none⟩=some (.slice zp n.s.ts.length zd):=S1.out.2.cell 19 rfl;go_wp2_with fail
 refine(C5.out w5 HB.out).mono ?_;rintro e w6 ⟨rfl,b2⟩;replace HB:Hid (bB w w6):=HB.out.trans (b2.mono HB.out.size);replace S1:Hid (StB w6 w.heap.size 42 (ndA (.slice ao n.xs.length ac) (.slice bo n.ys.length bc) (.slice ko n.h.ks.length kc) (.slice qo n.c.ts.length qc) (.slice zo n.s.ts.length zc) n)/\StB w6 (w.heap.size+1) 42 (ndA (.slice ap n.xs.length ad) (.slice bp n.ys.length bd) (.slice kp n.h.ks.length kd) (.slice qp n.c.ts.length qd) (.slice zp n.s.ts.length zd) n)):=⟨S1.out.1.below b2,S1.out.2.below b2⟩
 clear C5 b2 p18 s18 p19 s19;go_wp2;go_ret;exact⟨rfl,HB.out⟩
theorem lv (a b k q z:Value) (n:Nd) (i:Int) (w:World) (base:Nat) (ho:aO w base a b k q z n) (hl:n.len<=1048576) (h0:0<=i) (h1:i<=1048576):
  Calls Tryz.prog 10 #[NdV a b k q z n,.int .i64 i] w fun e w'=>e=.returned (.int .i64 (i+n.xs.length+n.ys.length+n.h.ks.length+n.c.ts.length+n.s.ts.length))/\aO w' base a b k q z (n.inked i)/\aw w w' (mf a b k q z n):=by
 unfold Nd.len at hl;obtain⟨w1,hw1⟩:=eX (w.alloc (.cells (ndA a b k q z n) 42))
 have b1:bB w w1:=by rw[hw1];exactbA
 have S1:Hid (StB w1 w.heap.size 42 (ndA a b k q z n)):=by rw[hw1];exact StB.new _ _ _
 have H1:=ho.below b1;have T1:Hid (aw w w1 []):=aw.of_below b1;have HN:Hid (∀x∈mf a b k q z n,x≠w.heap.size):=fun x hx e=>by have:=(ho.lt hx).2;omega
 have ap:=ho.ap;have C1:Hid (Calls Tryz.prog 35 #[.agg #[a,b],.int .i64 i] w1 fun e w'=>e=.returned (.int .i64 (i+n.xs.length+n.ys.length))/\aS w' base a b (aP i n.xs.length) (aP (i+n.xs.length) n.ys.length)/\iB w1 w' a b):=rB a b n.xs n.ys i w1 base ⟨H1.oa,H1.ob,eK.2 ap.h12⟩ (by omega) (by omega) h0 h1;have C2:Hid (∀wx,Own wx base k n.h.ks->Calls Tryz.prog 36 #[HV k n.h,.int .i64 (i+n.xs.length+n.ys.length)] wx fun e w'=>e=.returned (.int .i64 (i+n.xs.length+n.ys.length+n.h.ks.length))/\Own w' base k (aP (i+n.xs.length+n.ys.length) n.h.ks.length)/\wx.grownBy w' k.ownBlock):=fun wx h=>nk k n.h _ wx base h (by omega) (by omega) (by omega)
 have C3:Hid (∀wx,bO wx base q n.c.ts->Calls Tryz.prog 37 #[CpV q n.c,.int .i64 (i+n.xs.length+n.ys.length+n.h.ks.length)] wx fun e w'=>e=.returned (.int .i64 (i+n.xs.length+n.ys.length+n.h.ks.length+n.c.ts.length))/\bO w' base q (aP (i+n.xs.length+n.ys.length+n.h.ks.length) n.c.ts.length)/\aw wx w' (bm q n.c.ts)):=fun wx h=>m8 q n.c _ wx base h (by omega) (by omega) (by omega)
 have C4:Hid (∀wx,bO wx base z n.s.ts->Calls Tryz.prog 38 #[SnV z n.s,.int .i64 (i+n.xs.length+n.ys.length+n.h.ks.length+n.c.ts.length)] wx fun e w'=>e=.returned (.int .i64 (i+n.xs.length+n.ys.length+n.h.ks.length+n.c.ts.length+n.s.ts.length))/\bO w' base z (aP (i+n.xs.length+n.ys.length+n.h.ks.length+n.c.ts.length) n.s.ts.length)/\aw wx w' (bm z n.s.ts)):=fun wx h=>pU z n.s _ wx base h (by omega) (by omega) (by omega)
 have HA:Hid (C7 (blk a) (blk b) (blk k) (bm q n.c.ts) (bm z n.s.ts)):=ap;have HM:Hid (aO w1 base a b k q z n):=H1;obtain⟨ao,ac,rfl⟩:=aa ho.reads.ra;obtain⟨bo,bc,rfl⟩:=aa ho.reads.rb;obtain⟨ko,kc,rfl⟩:=aa ho.reads.rk;obtain⟨qo,qc,rfl⟩:=aa ho.reads.rq;obtain⟨zo,zc,rfl⟩:=aa ho.reads.rz;clear ho H1 ap b1 hl h0 h1;obtain⟨i2,hi2⟩:∃i2:Int,i2=i+n.xs.length+n.ys.length:=⟨_,rfl⟩
 rw[<-hi2]at C1 C2 C3 C4⊢;obtain⟨i3,hi3⟩:∃i3:Int,i3=i2+n.h.ks.length:=⟨_,rfl⟩
 rw[<-hi3]at C2 C3 C4⊢;obtain⟨i4,hi4⟩:∃i4:Int,i4=i3+n.c.ts.length:=⟨_,rfl⟩
 rw[<-hi4]at C3 C4⊢;obtain⟨i5,hi5⟩:∃i5:Int,i5=i4+n.s.ts.length:=⟨_,rfl⟩
 rw[<-hi5]at C4⊢;have HI:Hid (i2=i+n.xs.length+n.ys.length/\i3=i2+n.h.ks.length/\i4=i3+n.c.ts.length):=⟨hi2,hi3,hi4⟩
 clear hi2 hi3 hi4 hi5;unfold HV hdA at C2;unfold CpV cpA at C3;unfold SnV snA at C4;unfold ndA S at hw1;unfold NdV;conv in ndA (.slice ao n.xs.length ac) _ _ _ _ _=>unfold ndA S
 go_enter Tryz.func10,Tryz.ntmps10;go_upto_region 1 with fail
 rw[<-hw1];clear hw1;have p2:w1.cell? ⟨w.heap.size,2,none⟩=some (.slice ao n.xs.length ac):=S1.out.cell 2 rfl;have p3:w1.cell? ⟨w.heap.size,3,none⟩=some (.slice bo n.ys.length bc):=S1.out.cell 3 rfl;go_wp2_with fail
 refine C1.out.mono ?_;rintro e w2 ⟨rfl,o2,m2⟩;have t2:aw w1 w2 (blk (.slice ao n.xs.length ac)++blk (.slice bo n.ys.length bc)):=m2.turned;have S2:Hid (StB w2 w.heap.size 42 (ndA (.slice ao n.xs.length ac) (.slice bo n.ys.length bc) (.slice ko n.h.ks.length kc) (.slice qo n.c.ts.length qc) (.slice zo n.s.ts.length zc) n)):=S1.out.turned t2 (fun e=>by
  rcases List.mem_append.1 e with e|e
  ·exact HN.out _ (eU.2 (.inl e)) rfl
  ·exact HN.out _ (eU.2 (.inr (.inl e))) rfl)
 have K2:Hid (Own w2 base (.slice ko n.h.ks.length kc) n.h.ks/\bO w2 base (.slice qo n.c.ts.length qc) n.c.ts/\bO w2 base (.slice zo n.s.ts.length zc) n.s.ts):=by
  refine⟨HM.out.ok.turnedBy t2 (fun x hx e=>?_),HM.out.oq.turnedBy t2 (fun x hx e=>?_),HM.out.oz.turnedBy t2 (fun x hx e=>?_)⟩
  ·rcases List.mem_append.1 e with e|e
   ·exact HA.out.h13 x e hx
   ·exact HA.out.h23 x e hx
  ·rcases List.mem_append.1 e with e|e
   ·exact HA.out.h14 x e hx
   ·exact HA.out.h24 x e hx
  ·rcases List.mem_append.1 e with e|e
   ·exact HA.out.h15 x e hx
   ·exact HA.out.h25 x e hx
 have O2:Hid (Own w2 base (.slice ao n.xs.length ac) (aP i n.xs.length)/\Own w2 base (.slice bo n.ys.length bc) (aP (i+n.xs.length) n.ys.length)):=⟨o2.1,o2.2.1⟩
 have T2:Hid (aw w w2 (blk (.slice ao n.xs.length ac)++blk (.slice bo n.ys.length bc))):=T1.out.trans t2;clear C1 o2 m2 t2 S1 T1 HM p2 p3;have p4:w2.cell? ⟨w.heap.size,4,none⟩=some (.slice ko n.h.ks.length kc):=S2.out.cell 4 rfl;have p5:w2.cell? ⟨w.heap.size,5,none⟩=some (.int .i64 n.h.kd):=S2.out.cell 5 rfl;have p6:w2.cell? ⟨w.heap.size,6,none⟩=some (.int .i64 n.h.ho):=S2.out.cell 6 rfl;have p7:w2.cell? ⟨w.heap.size,7,none⟩=some (.int .i64 n.h.tu):=S2.out.cell 7 rfl;go_wp2_with fail
 refine(C2.out w2 K2.out.1).mono ?_;rintro e w3 ⟨rfl,o3,g3⟩;have t3:aw w2 w3 (blk (.slice ko n.h.ks.length kc)):=aw.of_grown g3;have S3:Hid (StB w3 w.heap.size 42 (ndA (.slice ao n.xs.length ac) (.slice bo n.ys.length bc) (.slice ko n.h.ks.length kc) (.slice qo n.c.ts.length qc) (.slice zo n.s.ts.length zc) n)):=S2.out.turned t3 (fun e=>HN.out _ (eU.2 (.inr (.inr (.inl e)))) rfl);have K3:Hid (bO w3 base (.slice qo n.c.ts.length qc) n.c.ts/\bO w3 base (.slice zo n.s.ts.length zc) n.s.ts):=⟨K2.out.2.1.turnedBy t3 (fun x hx e=>HA.out.h34 x e hx),K2.out.2.2.turnedBy t3 (fun x hx e=>HA.out.h35 x e hx)⟩
 have O3:Hid (Own w3 base (.slice ao n.xs.length ac) (aP i n.xs.length)/\Own w3 base (.slice bo n.ys.length bc) (aP (i+n.xs.length) n.ys.length)/\Own w3 base (.slice ko n.h.ks.length kc) (aP i2 n.h.ks.length)):=⟨O2.out.1.turnedBy t3 (fun x hx e=>HA.out.h13 x hx e),O2.out.2.turnedBy t3 (fun x hx e=>HA.out.h23 x hx e),o3⟩
 have T3:Hid (aw w w3 ((blk (.slice ao n.xs.length ac)++blk (.slice bo n.ys.length bc))++blk (.slice ko n.h.ks.length kc))):=T2.out.trans t3;clear C2 o3 g3 t3 S2 T2 K2 O2 p4 p5 p6 p7;have p13:w3.cell? ⟨w.heap.size,13,none⟩=some (.int .i64 n.c.tr):=S3.out.cell 13 rfl;have p14:w3.cell? ⟨w.heap.size,14,none⟩=some (.bool n.c.op):=S3.out.cell 14 rfl;have p15:w3.cell? ⟨w.heap.size,15,none⟩=some (.int .i64 n.c.di):=S3.out.cell 15 rfl;have p16:w3.cell? ⟨w.heap.size,16,none⟩=some (.int .i64 n.c.wa):=S3.out.cell 16 rfl;have p17:w3.cell? ⟨w.heap.size,17,none⟩=some (.slice qo n.c.ts.length qc):=S3.out.cell 17 rfl;go_wp2_with fail
 refine(C3.out w3 K3.out.1).mono ?_;rintro e w4 ⟨rfl,o4,t4⟩;have S4:Hid (StB w4 w.heap.size 42 (ndA (.slice ao n.xs.length ac) (.slice bo n.ys.length bc) (.slice ko n.h.ks.length kc) (.slice qo n.c.ts.length qc) (.slice zo n.s.ts.length zc) n)):=S3.out.turned t4 (fun e=>HN.out _ (eU.2 (.inr (.inr (.inr (.inl e))))) rfl);have K4:Hid (bO w4 base (.slice zo n.s.ts.length zc) n.s.ts):=K3.out.2.turnedBy t4 (fun x hx e=>HA.out.h45 x e hx);have O4:Hid (Own w4 base (.slice ao n.xs.length ac) (aP i n.xs.length)/\Own w4 base (.slice bo n.ys.length bc) (aP (i+n.xs.length) n.ys.length)/\Own w4 base (.slice ko n.h.ks.length kc) (aP i2 n.h.ks.length)/\bO w4 base (.slice qo n.c.ts.length qc) (aP i3 n.c.ts.length)):=⟨O3.out.1.turnedBy t4 (fun x hx e=>HA.out.h14 x hx e),O3.out.2.1.turnedBy t4 (fun x hx e=>HA.out.h24 x hx e),O3.out.2.2.turnedBy t4 (fun x hx e=>HA.out.h34 x hx e),o4⟩
 have T4:Hid (aw w w4 (((blk (.slice ao n.xs.length ac)++blk (.slice bo n.ys.length bc))++blk (.slice ko n.h.ks.length kc))++bm (.slice qo n.c.ts.length qc) n.c.ts)):=T3.out.trans t4;clear C3 o4 t4 S3 T3 K3 O3 p13 p14 p15 p16 p17;have p18:w4.cell? ⟨w.heap.size,18,none⟩=some (.int .i64 n.s.tr):=S4.out.cell 18 rfl;have p19:w4.cell? ⟨w.heap.size,19,none⟩=some (.slice zo n.s.ts.length zc):=S4.out.cell 19 rfl;go_wp2_with fail
 refine(C4.out w4 K4.out).mono ?_;rintro e w5 ⟨rfl,o5,t5⟩;have HF:Hid (aO w5 base (.slice ao n.xs.length ac) (.slice bo n.ys.length bc) (.slice ko n.h.ks.length kc) (.slice qo n.c.ts.length qc) (.slice zo n.s.ts.length zc) (n.inked i)/\aw w w5 (mf (.slice ao n.xs.length ac) (.slice bo n.ys.length bc) (.slice ko n.h.ks.length kc) (.slice qo n.c.ts.length qc) (.slice zo n.s.ts.length zc) n)):=by
  have le:∀(v:Value) (xs:List Int) (j:Int),bm v (aP j xs.length)=bm v xs:=fun v xs j=>by unfold bm aP;simp
  refine⟨⟨O4.out.1.turnedBy t5 (fun x hx e=>HA.out.h15 x hx e),O4.out.2.1.turnedBy t5 (fun x hx e=>HA.out.h25 x hx e),?_,?_,?_,?_⟩,(T4.out.trans t5).sub (fun x hx=>?_)⟩
  ·have:=O4.out.2.2.1.turnedBy t5 (fun x hx e=>HA.out.h35 x hx e)
   rw[HI.out.1]at this;exact this
  ·have:=O4.out.2.2.2.turnedBy t5 (fun x hx e=>HA.out.h45 x (by rw[le]at hx;exact hx) e)
   rw[HI.out.2.1,HI.out.1]at this;exact this
  ·have:=o5
   rw[HI.out.2.2,HI.out.2.1,HI.out.1]at this;exact this
  ·show C7 (blk (.slice ao n.xs.length ac)) (blk (.slice bo n.ys.length bc)) (blk (.slice ko n.h.ks.length kc)) (bm (.slice qo n.c.ts.length qc) (aP _ _)) (bm (.slice zo n.s.ts.length zc) (aP _ _))
   rw[le,le];exact HA.out
  ·rw[eU]
   simp only[List.mem_append]at hx;rcases hx with(((hx|hx)|hx)|hx)|hx
   ·exact .inl hx
   ·exact .inr (.inl hx)
   ·exact .inr (.inr (.inl hx))
   ·exact .inr (.inr (.inr (.inl hx)))
   ·exact .inr (.inr (.inr (.inr hx)))
 clear C4 o5 t5 S4 T4 K4 O4 p18 p19 HA HN HI;go_wp2;go_ret;exact⟨rfl,HF.out⟩
theorem lw (a b k q z:Value) (n:Nd) (i:Int) (w:World) (hr:RdN w a b k q z (n.inked i)) (hl:n.len<=1048576) (h0:0<=i) (h1:i<=1048576):
  Calls Tryz.prog 11 #[NdV a b k q z n,.int .i64 i] w fun e w'=>e=.returned (.int .i64 (i+n.xs.length+n.ys.length+n.h.ks.length+n.c.ts.length+n.s.ts.length))/\bB w w':=by
 unfold Nd.len at hl;obtain⟨w1,hw1⟩:=eX (w.alloc (.cells (ndA a b k q z n) 42))
 have b1:bB w w1:=by rw[hw1];exactbA
 have S1:Hid (StB w1 w.heap.size 42 (ndA a b k q z n)):=by rw[hw1];exact StB.new _ _ _
 have HB:Hid (bB w w1):=b1;have C1:Hid (∀wx,bB w wx->Calls Tryz.prog 39 #[.agg #[a,b],.int .i64 i] wx fun e w'=>e=.returned (.int .i64 (i+n.xs.length+n.ys.length))/\bB wx w'):=fun wx B=>rC a b _ _ i wx (hr.below B).ra (hr.below B).rb (by omega) (by omega) h0 h1
 have C2:Hid (∀wx,bB w wx->Calls Tryz.prog 40 #[HV k n.h,.int .i64 (i+n.xs.length+n.ys.length)] wx fun e w'=>e=.returned (.int .i64 (i+n.xs.length+n.ys.length+n.h.ks.length))/\bB wx w'):=fun wx B=>nn k n.h _ _ wx rfl (hr.below B).rk (by omega) (by omega) (by omega)
 have C3:Hid (∀wx,bB w wx->Calls Tryz.prog 41 #[CpV q n.c,.int .i64 (i+n.xs.length+n.ys.length+n.h.ks.length)] wx fun e w'=>e=.returned (.int .i64 (i+n.xs.length+n.ys.length+n.h.ks.length+n.c.ts.length))/\bB wx w'):=fun wx B=>oJ q n.c _ _ wx rfl (hr.below B).rq (by omega) (by omega) (by omega)
 have C4:Hid (∀wx,bB w wx->Calls Tryz.prog 42 #[SnV z n.s,.int .i64 (i+n.xs.length+n.ys.length+n.h.ks.length+n.c.ts.length)] wx fun e w'=>e=.returned (.int .i64 (i+n.xs.length+n.ys.length+n.h.ks.length+n.c.ts.length+n.s.ts.length))/\bB wx w'):=fun wx B=>sh z n.s _ _ wx rfl (hr.below B).rz (by omega) (by omega) (by omega)
 have fa:∃a1 a2,a=.slice a1 n.xs.length a2:=by obtain⟨x,y,e⟩:=aa hr.ra;exact⟨x,y,by rw[e];simp[Nd.inked,aP]⟩
 have fb:∃b1 b2,b=.slice b1 n.ys.length b2:=by obtain⟨x,y,e⟩:=aa hr.rb;exact⟨x,y,by rw[e];simp[Nd.inked,aP]⟩
 have fk:∃k1 k2,k=.slice k1 n.h.ks.length k2:=by obtain⟨x,y,e⟩:=aa hr.rk;exact⟨x,y,by rw[e];simp[Nd.inked,aP]⟩
 have fq:∃q1 q2,q=.slice q1 n.c.ts.length q2:=by obtain⟨x,y,e⟩:=aa hr.rq;exact⟨x,y,by rw[e];simp[Nd.inked,aP]⟩
 have fz:∃z1 z2,z=.slice z1 n.s.ts.length z2:=by obtain⟨x,y,e⟩:=aa hr.rz;exact⟨x,y,by rw[e];simp[Nd.inked,aP]⟩
 obtain⟨ao,ac,rfl⟩:=fa;obtain⟨bo,bc,rfl⟩:=fb;obtain⟨ko,kc,rfl⟩:=fk;obtain⟨qo,qc,rfl⟩:=fq;obtain⟨zo,zc,rfl⟩:=fz;have y2:0<=i+n.xs.length+n.ys.length:=by omega
 have y3:0<=i+n.xs.length+n.ys.length+n.h.ks.length:=by omega
 have y4:0<=i+n.xs.length+n.ys.length+n.h.ks.length+n.c.ts.length:=by omega
 have y5:0<=i+n.xs.length+n.ys.length+n.h.ks.length+n.c.ts.length+n.s.ts.length:=by omega
 obtain⟨i2,hi2⟩:∃i2:Int,i2=i+n.xs.length+n.ys.length:=⟨_,rfl⟩
 rw[<-hi2]at C1 C2 C3 C4 y2 y3 y4 y5⊢;obtain⟨i3,hi3⟩:∃i3:Int,i3=i2+n.h.ks.length:=⟨_,rfl⟩
 rw[<-hi3]at C2 C3 C4 y3 y4 y5⊢;obtain⟨i4,hi4⟩:∃i4:Int,i4=i3+n.c.ts.length:=⟨_,rfl⟩
 rw[<-hi4]at C3 C4 y4 y5⊢;obtain⟨i5,hi5⟩:∃i5:Int,i5=i4+n.s.ts.length:=⟨_,rfl⟩
 rw[<-hi5]at C4 y5⊢;clear hr b1 hl h0 h1 hi2 hi3 hi4 hi5;unfold HV hdA at C2;unfold CpV cpA at C3;unfold SnV snA at C4;unfold ndA S at hw1;unfold NdV;unfold ndA S;go_enter Tryz.func11,Tryz.ntmps11;go_upto_region 1 with fail
 rw[<-hw1];clear hw1;have p2:w1.cell? ⟨w.heap.size,2,none⟩=some (.slice ao n.xs.length ac):=S1.out.cell 2 rfl;have p3:w1.cell? ⟨w.heap.size,3,none⟩=some (.slice bo n.ys.length bc):=S1.out.cell 3 rfl;go_wp2_with fail
 refine(C1.out w1 HB.out).mono ?_;rintro e w2 ⟨rfl,bx⟩;replace HB:Hid (bB w w2):=HB.out.trans (bx.mono HB.out.size);replace S1:Hid (StB w2 w.heap.size 42 (ndA (.slice ao n.xs.length ac) (.slice bo n.ys.length bc) (.slice ko n.h.ks.length kc) (.slice qo n.c.ts.length qc) (.slice zo n.s.ts.length zc) n)):=S1.out.below bx;clear C1 bx p2 p3;have p4:w2.cell? ⟨w.heap.size,4,none⟩=some (.slice ko n.h.ks.length kc):=S1.out.cell 4 rfl;have p5:w2.cell? ⟨w.heap.size,5,none⟩=some (.int .i64 n.h.kd):=S1.out.cell 5 rfl;have p6:w2.cell? ⟨w.heap.size,6,none⟩=some (.int .i64 n.h.ho):=S1.out.cell 6 rfl;have p7:w2.cell? ⟨w.heap.size,7,none⟩=some (.int .i64 n.h.tu):=S1.out.cell 7 rfl;go_wp2_with fail
 refine(C2.out w2 HB.out).mono ?_;rintro e w3 ⟨rfl,bx⟩;replace HB:Hid (bB w w3):=HB.out.trans (bx.mono HB.out.size);replace S1:Hid (StB w3 w.heap.size 42 (ndA (.slice ao n.xs.length ac) (.slice bo n.ys.length bc) (.slice ko n.h.ks.length kc) (.slice qo n.c.ts.length qc) (.slice zo n.s.ts.length zc) n)):=S1.out.below bx;clear C2 bx p4 p5 p6 p7;have p13:w3.cell? ⟨w.heap.size,13,none⟩=some (.int .i64 n.c.tr):=S1.out.cell 13 rfl;have p14:w3.cell? ⟨w.heap.size,14,none⟩=some (.bool n.c.op):=S1.out.cell 14 rfl;have p15:w3.cell? ⟨w.heap.size,15,none⟩=some (.int .i64 n.c.di):=S1.out.cell 15 rfl;have p16:w3.cell? ⟨w.heap.size,16,none⟩=some (.int .i64 n.c.wa):=S1.out.cell 16 rfl;have p17:w3.cell? ⟨w.heap.size,17,none⟩=some (.slice qo n.c.ts.length qc):=S1.out.cell 17 rfl;go_wp2_with fail
 refine(C3.out w3 HB.out).mono ?_;rintro e w4 ⟨rfl,bx⟩;replace HB:Hid (bB w w4):=HB.out.trans (bx.mono HB.out.size);replace S1:Hid (StB w4 w.heap.size 42 (ndA (.slice ao n.xs.length ac) (.slice bo n.ys.length bc) (.slice ko n.h.ks.length kc) (.slice qo n.c.ts.length qc) (.slice zo n.s.ts.length zc) n)):=S1.out.below bx;clear C3 bx p13 p14 p15 p16 p17;have p18:w4.cell? ⟨w.heap.size,18,none⟩=some (.int .i64 n.s.tr):=S1.out.cell 18 rfl;have p19:w4.cell? ⟨w.heap.size,19,none⟩=some (.slice zo n.s.ts.length zc):=S1.out.cell 19 rfl;go_wp2_with fail
 refine(C4.out w4 HB.out).mono ?_;rintro e w5 ⟨rfl,bx⟩;replace HB:Hid (bB w w5):=HB.out.trans (bx.mono HB.out.size);replace S1:Hid (StB w5 w.heap.size 42 (ndA (.slice ao n.xs.length ac) (.slice bo n.ys.length bc) (.slice ko n.h.ks.length kc) (.slice qo n.c.ts.length qc) (.slice zo n.s.ts.length zc) n)):=S1.out.below bx;clear C4 bx p18 p19;go_wp2;go_ret;exact⟨rfl,HB.out⟩
end Go.Proofs.YthldeiojlllkdaaGreatDoor
