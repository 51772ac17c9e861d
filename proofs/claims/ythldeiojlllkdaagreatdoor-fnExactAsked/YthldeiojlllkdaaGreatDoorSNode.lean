/- A house in memory: twenty cells; NodeOk of the model. -/
import Derived.Test.YthldeiojlllkdaaGreatDoorM1
import Derived.Test.YthldeiojlllkdaaGreatDoorM8
import Derived.Test.YthldeiojlllkdaaGreatDoorM9
import Derived.Test.YthldeiojlllkdaaGreatDoorM10
import Derived.Test.YthldeiojlllkdaaGreatDoorM4
import Derived.Test.YthldeiojlllkdaaGreatDoorM5
set_option maxRecDepth 20000
set_option maxHeartbeats 8000000
namespace Go.Proofs.YthldeiojlllkdaaGreatDoor
open Go.ChangeShapes Go.WideShapes Go.ChangeAt Go.RowKit
def ndA (a b k q z:Value) (n:Nd):Array Value:=#[.int .i64 n.id,.bool n.up,a,b,k,.int .i64 n.h.kd,.int .i64 n.h.ho,.int .i64 n.h.tu,S n.log,.int .i64 n.r.e,.int .i64 n.r.s,.int .i64 n.r.t,.int .i64 n.r.n,.int .i64 n.c.tr,.bool n.c.op,.int .i64 n.c.di,.int .i64 n.c.wa,q,.int .i64 n.s.tr,z]
def NdV (a b k q z:Value) (n:Nd):Value:=.agg (ndA a b k q z n)
theorem Tryz.isNd:IsS 42 20:=⟨⟨_,Tryz.underlying42⟩,by kernel_rfl⟩
structure RdN (w:World) (a b k q z:Value) (n:Nd):Prop where
 ra:ag w a n.xs
 rb:ag w b n.ys
 rk:ag w k n.h.ks
 rq:ag w q n.c.ts
 rz:ag w z n.s.ts
structure SmN (n:Nd):Prop where
 la:n.xs.length<=1048576
 lb:n.ys.length<=1048576
 lk:n.h.ks.length<=1048576
 lq:n.c.ts.length<=1048576
 lz:n.s.ts.length<=1048576
 ll:n.log.length<=1048576
theorem RdN.below {w w':World} {a b k q z:Value} {n:Nd} (h:RdN w a b k q z n) (B:bB w w'):RdN w' a b k q z n:=⟨h.ra.below B (Nat.le_refl _),h.rb.below B (Nat.le_refl _),h.rk.below B (Nat.le_refl _),h.rq.below B (Nat.le_refl _),h.rz.below B (Nat.le_refl _)⟩
theorem gR {α:Type} [BEq α] [LawfulBEq α] {a b:α} (h:(a==b)=true):a=b:=eq_of_beq h
theorem gS {α:Type} [BEq α] [LawfulBEq α] {a b:α} (h:(a==b)=false):¬a=b:=fun e=>by rw[e,beq_self_eq_true]at h;cases h
theorem gT {α:Type} [BEq α] [LawfulBEq α] {a b:α} (h:(a !=b)=true):¬a=b:=fun e=>by rw[e]at h;simp at h
theorem gU {α:Type} [BEq α] [LawfulBEq α] {a b:α} (h:(a !=b)=false):a=b:=by simpa using h
theorem iK {P:Prop} (h:P:=by(try first|have e0:=gR f0|have e0:=gS f0|have e0:=gT f0|have e0:=gU f0);(try first|have e1:=gR f1|have e1:=gS f1|have e1:=gT f1|have e1:=gU f1);(try first|have e2:=gR f2|have e2:=gS f2|have e2:=gT f2|have e2:=gU f2);(try first|have e3:=gR f3|have e3:=gS f3|have e3:=gT f3|have e3:=gU f3);(try first|have r0:=gR u0|have r0:=gS u0|have r0:=gT u0|have r0:=gU u0);(try first|have r1:=gR u1|have r1:=gS u1|have r1:=gT u1|have r1:=gU u1);(try first|have r2:=gR u2|have r2:=gS u2|have r2:=gT u2|have r2:=gU u2);(try first|have r3:=gR u3|have r3:=gS u3|have r3:=gT u3|have r3:=gU u3);(try first|have s0:=gR t0|have s0:=gS t0|have s0:=gT t0|have s0:=gU t0);(try first|have s1:=gR t1|have s1:=gS t1|have s1:=gT t1|have s1:=gU t1);(try first|have s2:=gR t2|have s2:=gS t2|have s2:=gT t2|have s2:=gU t2);(try first|have s3:=gR t3|have s3:=gS t3|have s3:=gT t3|have s3:=gU t3);(try first|have hT:=gR hTb|have hT:=gS hTb|have hT:=gT hTb|have hT:=gU hTb);(try first|have hC:=gR hCn|have hC:=gS hCn|have hC:=gT hCn|have hC:=gU hCn);(try first|have hK:=gR hKn|have hK:=gS hKn|have hK:=gT hKn|have hK:=gU hKn);first|(rw[HE2.out];rw[HLB.out];unfold d8;simp[e0];done)|(rw[HE2.out];rw[HLB.out];unfold d8;simp[e1];done)|(rw[HE2.out];rw[HLB.out];unfold d8;simp[e2];done)|(rw[HE2.out];rw[HLB.out];unfold d8;simp[e3];done)|(rw[HE2.out];rw[HLB.out];simp[hT];done)|(rw[HE2.out];rw[HLT.out,HCB.out,HSB.out];simp[s0];done)|(rw[HE2.out];rw[HLT.out,HCB.out,HSB.out];rw[e1]at s1;rw[e3]at s2;simp[s1,s2,show n.s.ts.length=n.ys.length by omega];done)|(rw[HE2.out];rw[HLT.out,HCB.out,HSB.out];simp[s0,show¬n.s.ts.length=n.ys.length by omega];done)|(rw[HE2.out];rw[HLT.out,HCB.out,HSB.out];rw[e3]at s2;simp[s0,s2];done)|(rw[HE2.out];rw[HLT.out,HCB.out,HSB.out];rw[e1]at s1;simp[s0,s1];done)|(rw[HE2.out];rw[HLT.out];unfold Nd.copB;rw[e1]at r1;simp[r0,r1];done)|(rw[HE2.out];rw[HLT.out];unfold Nd.copB;rw[e2]at r2;simp[r0,r2];done)|(rw[HE2.out];rw[HLT.out];unfold Nd.copB;simp[r0,show¬n.c.ts.length=n.ys.length by omega];done)|(rw[HE2.out];rw[HLT.out,HCB.out,HSB.out];rw[e1]at r1;simp[s0,r1];done)|(rw[HE2.out];rw[HLB.out];simp[hC];done)|(rw[HE2.out];rw[HLB.out];simp[hK];done)|(rw[HE2.out];rw[HLB.out];rfl;done)|(rw[HE2.out];rw[HLT.out,HCB.out,HSB.out];rfl;done)):P:=h
theorem uQ (a b k q z:Value) (n:Nd) (w:World) (hr:RdN w a b k q z n) (hl:SmN n):
  Calls Tryz.prog 16 #[NdV a b k q z n] w fun e w'=>e=.returned (.bool n.ok)/\bB w w':=by
 have HE:Hid (n.ok=((inI n.id 0 1&&au n.xs n.ys&&n.h.ok&&n.r.ok&&decide (n.log.length<=40000)&&n.c.ok&&n.s.ok)&&n.logB&&n.copB&&n.snkB)):=rfl;obtain⟨w1,hw1⟩:=eX (w.alloc (.cells (ndA a b k q z n) 42))
 have b1:bB w w1:=by rw[hw1];exactbA
 have HS:Hid (StB w1 w.heap.size 42 (ndA a b k q z n)/\RdN w1 a b k q z n/\bB w w1):=⟨by rw[hw1];exact StB.new _ _ _,hr.below b1,b1⟩
 have HL:Hid (SmN n):=hl;obtain⟨a1,a2,rfl⟩:=aa hr.ra;obtain⟨b1',b2,rfl⟩:=aa hr.rb;obtain⟨k1,k2,rfl⟩:=aa hr.rk;obtain⟨q1,q2,rfl⟩:=aa hr.rq;obtain⟨z1,z2,rfl⟩:=aa hr.rz;obtain⟨x,hx⟩:=eX n.ok
 rw[<-hx]at HE⊢;clear hx hr hl b1;have HW:Hid (w1=w.alloc (.cells #[.int .i64 n.id,.bool n.up,.slice a1 n.xs.length a2,.slice b1' n.ys.length b2,.slice k1 n.h.ks.length k2,.int .i64 n.h.kd,.int .i64 n.h.ho,.int .i64 n.h.tu,S n.log,.int .i64 n.r.e,.int .i64 n.r.s,.int .i64 n.r.t,.int .i64 n.r.n,.int .i64 n.c.tr,.bool n.c.op,.int .i64 n.c.di,.int .i64 n.c.wa,.slice q1 n.c.ts.length q2,.int .i64 n.s.tr,.slice z1 n.s.ts.length z2] 42)):=hw1;clear hw1;have ci:=fun wx=>aL n.id 0 1 wx
 obtain⟨v1,hv1⟩:=eX (inI n.id 0 1)
 rw[<-hv1]at HE;simp only[<-hv1]at ci;obtain⟨v2,hv2⟩:=eX (au n.xs n.ys)
 rw[<-hv2]at HE;obtain⟨v3,hv3⟩:=eX n.h.ok
 rw[<-hv3]at HE;obtain⟨v4,hv4⟩:=eX n.r.ok
 rw[<-hv4]at HE;obtain⟨v6,hv6⟩:=eX n.c.ok
 rw[<-hv6]at HE;obtain⟨v7,hv7⟩:=eX n.s.ok
 rw[<-hv7]at HE;have H2:Hid (v2=au n.xs n.ys):=hv2;have H3:Hid (v3=n.h.ok):=hv3;have H4:Hid (v4=n.r.ok):=hv4;have H6:Hid (v6=n.c.ok):=hv6;have H7:Hid (v7=n.s.ok):=hv7;clear hv1 hv2 hv3 hv4 hv6 hv7;unfold NdV ndA;have c0:w1.cell? ⟨w.heap.size,0,none⟩=some (.int .i64 n.id):=HS.out.1.cell 0 rfl;go_enter Tryz.func16,Tryz.ntmps16;go_upto_region 1 with fail
 rw[<-HW.out];clear HW;go_wp2_with fail
 refine mo (ci _) ?_;clear ci c0;cases v1 with
 |false=>
  go_wp2;go_ret;exact⟨af (by rw[HE.out];simp),HS.out.2.2⟩
 |true=>
  have cc:=uN _ _ n.xs n.ys w1 HS.out.2.1.ra HS.out.2.1.rb (by have:=HL.out.la;omega) (by have:=HL.out.lb;omega);rw[<-H2.out]at cc
  try unfold HV hdA at cc
  try unfold RV db at cc
  try unfold CpV cpA at cc
  try unfold SnV snA at cc
  have c2:w1.cell? ⟨w.heap.size,2,none⟩=some (.slice a1 n.xs.length a2):=HS.out.1.cell 2 rfl;have c3:w1.cell? ⟨w.heap.size,3,none⟩=some (.slice b1' n.ys.length b2):=HS.out.1.cell 3 rfl;go_wp2_with fail
  refine cc.mono ?_;rintro e w2 ⟨rfl,bq⟩;replace HS:Hid (StB w2 w.heap.size 42 (ndA (.slice a1 n.xs.length a2) (.slice b1' n.ys.length b2) (.slice k1 n.h.ks.length k2) (.slice q1 n.c.ts.length q2) (.slice z1 n.s.ts.length z2) n)/\RdN w2 (.slice a1 n.xs.length a2) (.slice b1' n.ys.length b2) (.slice k1 n.h.ks.length k2) (.slice q1 n.c.ts.length q2) (.slice z1 n.s.ts.length z2) n/\bB w w2):=⟨HS.out.1.below bq,HS.out.2.1.below bq,HS.out.2.2.trans (bq.mono HS.out.2.2.size)⟩
  clear cc bq;clear c2 c3;cases v2 with
  |false=>
   go_wp2;go_ret;exact⟨af (by rw[HE.out];simp),HS.out.2.2⟩
  |true=>
   have cc:=uP _ n.h w2 HS.out.2.1.rk (by have:=HL.out.lk;omega);rw[<-H3.out]at cc
   try unfold HV hdA at cc
   try unfold RV db at cc
   try unfold CpV cpA at cc
   try unfold SnV snA at cc
   have c4:w2.cell? ⟨w.heap.size,4,none⟩=some (.slice k1 n.h.ks.length k2):=HS.out.1.cell 4 rfl;have c5:w2.cell? ⟨w.heap.size,5,none⟩=some (.int .i64 n.h.kd):=HS.out.1.cell 5 rfl;have c6:w2.cell? ⟨w.heap.size,6,none⟩=some (.int .i64 n.h.ho):=HS.out.1.cell 6 rfl;have c7:w2.cell? ⟨w.heap.size,7,none⟩=some (.int .i64 n.h.tu):=HS.out.1.cell 7 rfl;go_wp2_with fail
   refine cc.mono ?_;rintro e w3 ⟨rfl,bq⟩;replace HS:Hid (StB w3 w.heap.size 42 (ndA (.slice a1 n.xs.length a2) (.slice b1' n.ys.length b2) (.slice k1 n.h.ks.length k2) (.slice q1 n.c.ts.length q2) (.slice z1 n.s.ts.length z2) n)/\RdN w3 (.slice a1 n.xs.length a2) (.slice b1' n.ys.length b2) (.slice k1 n.h.ks.length k2) (.slice q1 n.c.ts.length q2) (.slice z1 n.s.ts.length z2) n/\bB w w3):=⟨HS.out.1.below bq,HS.out.2.1.below bq,HS.out.2.2.trans (bq.mono HS.out.2.2.size)⟩
   clear cc bq;clear c4 c5 c6 c7;cases v3 with
   |false=>
    go_wp2;go_ret;exact⟨af (by rw[HE.out];simp),HS.out.2.2⟩
   |true=>
    have cc:=oU n.r w3;rw[<-H4.out]at cc
    try unfold HV hdA at cc
    try unfold RV db at cc
    try unfold CpV cpA at cc
    try unfold SnV snA at cc
    have c9:w3.cell? ⟨w.heap.size,9,none⟩=some (.int .i64 n.r.e):=HS.out.1.cell 9 rfl;have c10:w3.cell? ⟨w.heap.size,10,none⟩=some (.int .i64 n.r.s):=HS.out.1.cell 10 rfl;have c11:w3.cell? ⟨w.heap.size,11,none⟩=some (.int .i64 n.r.t):=HS.out.1.cell 11 rfl;have c12:w3.cell? ⟨w.heap.size,12,none⟩=some (.int .i64 n.r.n):=HS.out.1.cell 12 rfl;go_wp2_with fail
    refine cc.mono ?_;rintro e w4 ⟨rfl,bq⟩;replace HS:Hid (StB w4 w.heap.size 42 (ndA (.slice a1 n.xs.length a2) (.slice b1' n.ys.length b2) (.slice k1 n.h.ks.length k2) (.slice q1 n.c.ts.length q2) (.slice z1 n.s.ts.length z2) n)/\RdN w4 (.slice a1 n.xs.length a2) (.slice b1' n.ys.length b2) (.slice k1 n.h.ks.length k2) (.slice q1 n.c.ts.length q2) (.slice z1 n.s.ts.length z2) n/\bB w w4):=⟨HS.out.1.below bq,HS.out.2.1.below bq,HS.out.2.2.trans (bq.mono HS.out.2.2.size)⟩
    clear cc bq;clear c9 c10 c11 c12;cases v4 with
    |false=>
     go_wp2;go_ret;exact⟨af (by rw[HE.out];simp),HS.out.2.2⟩
    |true=>
     have hll:(n.log.length:Int)<=1048576:=by have:=HL.out.ll;omega
     by_cases h5:(40000:Int)<(n.log.length:Int)
     ·skip
      have c8:w4.cell? ⟨w.heap.size,8,none⟩=some (S n.log):=HS.out.1.cell 8 rfl;unfold S at c8;go_wp2;go_ret;exact⟨af (by rw[HE.out,show decide (n.log.length<=40000)=false from decide_eq_false (by omega)];simp),HS.out.2.2⟩
     ·have H5:Hid (decide (n.log.length<=40000)=true):=decide_eq_true (by omega)
      have c8:w4.cell? ⟨w.heap.size,8,none⟩=some (S n.log):=HS.out.1.cell 8 rfl;unfold S at c8;have cc:=xm _ n.c w4 HS.out.2.1.rq (by have:=HL.out.lq;omega);rw[<-H6.out]at cc
      try unfold HV hdA at cc
      try unfold RV db at cc
      try unfold CpV cpA at cc
      try unfold SnV snA at cc
      have c13:w4.cell? ⟨w.heap.size,13,none⟩=some (.int .i64 n.c.tr):=HS.out.1.cell 13 rfl;have c14:w4.cell? ⟨w.heap.size,14,none⟩=some (.bool n.c.op):=HS.out.1.cell 14 rfl;have c15:w4.cell? ⟨w.heap.size,15,none⟩=some (.int .i64 n.c.di):=HS.out.1.cell 15 rfl;have c16:w4.cell? ⟨w.heap.size,16,none⟩=some (.int .i64 n.c.wa):=HS.out.1.cell 16 rfl;have c17:w4.cell? ⟨w.heap.size,17,none⟩=some (.slice q1 n.c.ts.length q2):=HS.out.1.cell 17 rfl;go_wp2_with fail
      refine cc.mono ?_;rintro e w5 ⟨rfl,bq⟩;replace HS:Hid (StB w5 w.heap.size 42 (ndA (.slice a1 n.xs.length a2) (.slice b1' n.ys.length b2) (.slice k1 n.h.ks.length k2) (.slice q1 n.c.ts.length q2) (.slice z1 n.s.ts.length z2) n)/\RdN w5 (.slice a1 n.xs.length a2) (.slice b1' n.ys.length b2) (.slice k1 n.h.ks.length k2) (.slice q1 n.c.ts.length q2) (.slice z1 n.s.ts.length z2) n/\bB w w5):=⟨HS.out.1.below bq,HS.out.2.1.below bq,HS.out.2.2.trans (bq.mono HS.out.2.2.size)⟩
      clear cc bq;clear c13 c14 c15 c16 c17;cases v6 with
      |false=>
       go_wp2;go_ret;exact⟨af (by rw[HE.out];simp),HS.out.2.2⟩
      |true=>
       have cc:=uY _ n.s w5 HS.out.2.1.rz (by have:=HL.out.lz;omega);rw[<-H7.out]at cc
       try unfold HV hdA at cc
       try unfold RV db at cc
       try unfold CpV cpA at cc
       try unfold SnV snA at cc
       have c18:w5.cell? ⟨w.heap.size,18,none⟩=some (.int .i64 n.s.tr):=HS.out.1.cell 18 rfl;have c19:w5.cell? ⟨w.heap.size,19,none⟩=some (.slice z1 n.s.ts.length z2):=HS.out.1.cell 19 rfl;go_wp2_with fail
       refine cc.mono ?_;rintro e w6 ⟨rfl,bq⟩;replace HS:Hid (StB w6 w.heap.size 42 (ndA (.slice a1 n.xs.length a2) (.slice b1' n.ys.length b2) (.slice k1 n.h.ks.length k2) (.slice q1 n.c.ts.length q2) (.slice z1 n.s.ts.length z2) n)/\RdN w6 (.slice a1 n.xs.length a2) (.slice b1' n.ys.length b2) (.slice k1 n.h.ks.length k2) (.slice q1 n.c.ts.length q2) (.slice z1 n.s.ts.length z2) n/\bB w w6):=⟨HS.out.1.below bq,HS.out.2.1.below bq,HS.out.2.2.trans (bq.mono HS.out.2.2.size)⟩
       clear cc bq;clear c18 c19;cases v7 with
       |false=>
        go_wp2;go_ret;exact⟨af (by rw[HE.out];simp),HS.out.2.2⟩
       |true=>
        have HE2:Hid (x=(n.logB&&n.copB&&n.snkB)):=by rw[Hid,HE.out,H5.out];rfl
        clear HE H2 H3 H4 H6 H7 H5;have HLB:Hid (n.logB=((aE n.log).isSome&&d8 (gQ (aE n.log)) n.r&&(!n.up||decide (n.log.take (recAt (aE n.log))=n.log))&&(n.up||(decide (n.c.tr=0)&&decide (n.s.tr=0))))):=rfl;have cc:=uX n.log w6 HL.out.ll;obtain⟨rr,hrr⟩:=eX (gQ (aE n.log))
        obtain⟨tk,htk⟩:=eX (n.log.take (recAt (aE n.log)))
        obtain⟨bs,hbs⟩:=eX ((aE n.log).isSome)
        rw[<-hrr,<-htk,<-hbs]at cc HLB;obtain⟨re,rs,rt,rn⟩:=rr;unfold RV db S at cc;clear hrr htk hbs c8;have c8:w6.cell? ⟨w.heap.size,8,none⟩=some (S n.log):=HS.out.1.cell 8 rfl;unfold S at c8;go_wp2_with fail
        refine cc.mono ?_;rintro e wr ⟨rfl,bq⟩;replace HS:Hid (StB wr w.heap.size 42 (ndA (.slice a1 n.xs.length a2) (.slice b1' n.ys.length b2) (.slice k1 n.h.ks.length k2) (.slice q1 n.c.ts.length q2) (.slice z1 n.s.ts.length z2) n)/\RdN wr (.slice a1 n.xs.length a2) (.slice b1' n.ys.length b2) (.slice k1 n.h.ks.length k2) (.slice q1 n.c.ts.length q2) (.slice z1 n.s.ts.length z2) n/\bB w wr):=⟨HS.out.1.below bq,HS.out.2.1.below bq,HS.out.2.2.trans (bq.mono HS.out.2.2.size)⟩
        clear cc bq c8;obtain⟨wx,hwx⟩:=eX (wr.alloc (.cells #[.int .i64 re,.int .i64 rs,.int .i64 rt,.int .i64 rn] 38))
        obtain⟨g,hg⟩:=eX wr.heap.size
        have HG:Hid (StB wx g 38 #[.int .i64 re,.int .i64 rs,.int .i64 rt,.int .i64 rn]):=by rw[hwx,hg];exact StB.new _ _ _
        have bx:bB wr wx:=by rw[hwx];exactbA
        replace HS:Hid (StB wx w.heap.size 42 (ndA (.slice a1 n.xs.length a2) (.slice b1' n.ys.length b2) (.slice k1 n.h.ks.length k2) (.slice q1 n.c.ts.length q2) (.slice z1 n.s.ts.length z2) n)/\RdN wx (.slice a1 n.xs.length a2) (.slice b1' n.ys.length b2) (.slice k1 n.h.ks.length k2) (.slice q1 n.c.ts.length q2) (.slice z1 n.s.ts.length z2) n/\bB w wx):=⟨HS.out.1.below bx,HS.out.2.1.below bx,HS.out.2.2.trans (bx.mono HS.out.2.2.size)⟩
        go_upto_region 4 with fail
        rw[<-hwx,<-hg];clear hwx hg bx;have hself:∀y:Int,(y==y)=true:=by simp
        have hselfn:∀y:Int,(y !=y)=false:=by simp
        cases bs with
        |false=>
         try clear e0
         try clear e1
         try clear e2
         try clear e3
         try clear r0
         try clear r1
         try clear r2
         try clear r3
         try clear s0
         try clear s1
         try clear s2
         try clear s3
         try clear hT
         try clear hC
         try clear hK
         go_wp2;go_ret;exact⟨af iK,HS.out.2.2⟩
        |true=>
         have c1:wx.cell? ⟨w.heap.size,1,none⟩=some (.bool n.up):=HS.out.1.cell 1 rfl;have c8:wx.cell? ⟨w.heap.size,8,none⟩=some (S n.log):=HS.out.1.cell 8 rfl;have c9:wx.cell? ⟨w.heap.size,9,none⟩=some (.int .i64 n.r.e):=HS.out.1.cell 9 rfl;have c10:wx.cell? ⟨w.heap.size,10,none⟩=some (.int .i64 n.r.s):=HS.out.1.cell 10 rfl;have c11:wx.cell? ⟨w.heap.size,11,none⟩=some (.int .i64 n.r.t):=HS.out.1.cell 11 rfl;have c12:wx.cell? ⟨w.heap.size,12,none⟩=some (.int .i64 n.r.n):=HS.out.1.cell 12 rfl;have c13:wx.cell? ⟨w.heap.size,13,none⟩=some (.int .i64 n.c.tr):=HS.out.1.cell 13 rfl;have c18:wx.cell? ⟨w.heap.size,18,none⟩=some (.int .i64 n.s.tr):=HS.out.1.cell 18 rfl;unfold S at c8;have d0:wx.cell? ⟨g,0,none⟩=some (.int .i64 re):=HG.out.cell 0 rfl;have d1:wx.cell? ⟨g,1,none⟩=some (.int .i64 rs):=HG.out.cell 1 rfl;have d2:wx.cell? ⟨g,2,none⟩=some (.int .i64 rt):=HG.out.cell 2 rfl;have d3:wx.cell? ⟨g,3,none⟩=some (.int .i64 rn):=HG.out.cell 3 rfl;by_cases e0:re=n.r.e
         case neg=>
          have f0:(re==n.r.e)=false:=by simpa using e0
          try clear e0
          try clear e1
          try clear e2
          try clear e3
          try clear r0
          try clear r1
          try clear r2
          try clear r3
          try clear s0
          try clear s1
          try clear s2
          try clear s3
          try clear hT
          try clear hC
          try clear hK
          go_wp2;go_ret;exact⟨af iK,HS.out.2.2⟩
         case pos=>
          have f0:(re==n.r.e)=true:=by simpa using e0
          by_cases e1:rs=n.r.s
          case neg=>
           have f1:(rs==n.r.s)=false:=by simpa using e1
           try clear e0
           try clear e1
           try clear e2
           try clear e3
           try clear r0
           try clear r1
           try clear r2
           try clear r3
           try clear s0
           try clear s1
           try clear s2
           try clear s3
           try clear hT
           try clear hC
           try clear hK
           go_wp2;go_ret;exact⟨af iK,HS.out.2.2⟩
          case pos=>
           have f1:(rs==n.r.s)=true:=by simpa using e1
           by_cases e2:rt=n.r.t
           case neg=>
            have f2:(rt==n.r.t)=false:=by simpa using e2
            try clear e0
            try clear e1
            try clear e2
            try clear e3
            try clear r0
            try clear r1
            try clear r2
            try clear r3
            try clear s0
            try clear s1
            try clear s2
            try clear s3
            try clear hT
            try clear hC
            try clear hK
            go_wp2;go_ret;exact⟨af iK,HS.out.2.2⟩
           case pos=>
            have f2:(rt==n.r.t)=true:=by simpa using e2
            by_cases e3:rn=n.r.n
            case neg=>
             have f3:(rn==n.r.n)=false:=by simpa using e3
             try clear e0
             try clear e1
             try clear e2
             try clear e3
             try clear r0
             try clear r1
             try clear r2
             try clear r3
             try clear s0
             try clear s1
             try clear s2
             try clear s3
             try clear hT
             try clear hC
             try clear hK
             go_wp2;go_ret;exact⟨af iK,HS.out.2.2⟩
            case pos=>
             have f3:(rn==n.r.n)=true:=by simpa using e3
             have HSR:Hid (d8 ⟨re,rs,rt,rn⟩ n.r=true):=by rw[Hid,mg,e0,e1,e2,e3]
             rw[HSR.out]at HLB;cases hup:n.up with
             |true=>
              rw[hup]at c1 HLB;by_cases hT:tk=n.log
              case neg=>
               have hTb:(tk==n.log)=false:=by simpa using hT
               have hTn:(tk !=n.log)=true:=by simpa using hT
               try clear e0
               try clear e1
               try clear e2
               try clear e3
               try clear r0
               try clear r1
               try clear r2
               try clear r3
               try clear s0
               try clear s1
               try clear s2
               try clear s3
               try clear hT
               try clear hC
               try clear hK
               go_wp2;go_ret;exact⟨af iK,HS.out.2.2⟩
              case pos=>
               have hTb:(tk==n.log)=true:=by simpa using hT
               have hTn:(tk !=n.log)=false:=by simpa using hT
               have HLT:Hid (n.logB=true):=by rw[Hid,HLB.out];simp[hT]
               have c3:wx.cell? ⟨w.heap.size,3,none⟩=some (.slice b1' n.ys.length b2):=HS.out.1.cell 3 rfl;have c17:wx.cell? ⟨w.heap.size,17,none⟩=some (.slice q1 n.c.ts.length q2):=HS.out.1.cell 17 rfl;have c19:wx.cell? ⟨w.heap.size,19,none⟩=some (.slice z1 n.s.ts.length z2):=HS.out.1.cell 19 rfl;by_cases r0:n.c.tr=0
               ·have u0:(n.c.tr !=0)=false:=by simpa using r0
                have HCB:Hid (n.copB=true):=by rw[Hid];unfold Nd.copB;simp[r0]
                have HSB:Hid (n.snkB=(decide (n.s.tr=0)||(decide (n.r.s=3)&&decide (n.s.tr=n.r.n)&&decide (n.s.ts.length=n.ys.length)))):=rfl;by_cases s0:n.s.tr=0
                ·have t0:(n.s.tr==0)=true:=by simpa using s0
                 try clear e0
                 try clear e1
                 try clear e2
                 try clear e3
                 try clear r0
                 try clear r1
                 try clear r2
                 try clear r3
                 try clear s0
                 try clear s1
                 try clear s2
                 try clear s3
                 try clear hT
                 try clear hC
                 try clear hK
                 go_wp2;go_ret;exact⟨af iK,HS.out.2.2⟩
                ·have t0:(n.s.tr==0)=false:=by simpa using s0
                 by_cases s1:rs=3
                 ·have t1:(rs==3)=true:=by simpa using s1
                  by_cases s2:n.s.tr=rn
                  ·have t2:(n.s.tr==rn)=true:=by simpa using s2
                   by_cases s3:(n.s.ts.length:Int)=(n.ys.length:Int)
                   ·have t3:((n.s.ts.length:Int)==(n.ys.length:Int))=true:=by simpa using s3
                    try clear e0
                    try clear e1
                    try clear e2
                    try clear e3
                    try clear r0
                    try clear r1
                    try clear r2
                    try clear r3
                    try clear s0
                    try clear s1
                    try clear s2
                    try clear s3
                    try clear hT
                    try clear hC
                    try clear hK
                    go_wp2;go_ret;exact⟨af iK,HS.out.2.2⟩
                   ·have t3:((n.s.ts.length:Int)==(n.ys.length:Int))=false:=by simpa using s3
                    try clear e0
                    try clear e1
                    try clear e2
                    try clear e3
                    try clear r0
                    try clear r1
                    try clear r2
                    try clear r3
                    try clear s0
                    try clear s1
                    try clear s2
                    try clear s3
                    try clear hT
                    try clear hC
                    try clear hK
                    go_wp2;go_ret;exact⟨af iK,HS.out.2.2⟩
                  ·have t2:(n.s.tr==rn)=false:=by simpa using s2
                   try clear e0
                   try clear e1
                   try clear e2
                   try clear e3
                   try clear r0
                   try clear r1
                   try clear r2
                   try clear r3
                   try clear s0
                   try clear s1
                   try clear s2
                   try clear s3
                   try clear hT
                   try clear hC
                   try clear hK
                   go_wp2;go_ret;exact⟨af iK,HS.out.2.2⟩
                 ·have t1:(rs==3)=false:=by simpa using s1
                  try clear e0
                  try clear e1
                  try clear e2
                  try clear e3
                  try clear r0
                  try clear r1
                  try clear r2
                  try clear r3
                  try clear s0
                  try clear s1
                  try clear s2
                  try clear s3
                  try clear hT
                  try clear hC
                  try clear hK
                  go_wp2;go_ret;exact⟨af iK,HS.out.2.2⟩
               ·have u0:(n.c.tr !=0)=true:=by simpa using r0
                by_cases r1:rs=3
                ·have u1:(rs==3)=true:=by simpa using r1
                 try clear e0
                 try clear e1
                 try clear e2
                 try clear e3
                 try clear r0
                 try clear r1
                 try clear r2
                 try clear r3
                 try clear s0
                 try clear s1
                 try clear s2
                 try clear s3
                 try clear hT
                 try clear hC
                 try clear hK
                 go_wp2;go_ret;exact⟨af iK,HS.out.2.2⟩
                ·have u1:(rs==3)=false:=by simpa using r1
                 by_cases r2:n.c.tr=rt
                 case neg=>
                  have u2:(n.c.tr !=rt)=true:=by simpa using r2
                  try clear e0
                  try clear e1
                  try clear e2
                  try clear e3
                  try clear r0
                  try clear r1
                  try clear r2
                  try clear r3
                  try clear s0
                  try clear s1
                  try clear s2
                  try clear s3
                  try clear hT
                  try clear hC
                  try clear hK
                  go_wp2;go_ret;exact⟨af iK,HS.out.2.2⟩
                 case pos=>
                  have u2:(n.c.tr !=rt)=false:=by simpa using r2
                  by_cases r3:(n.c.ts.length:Int)=(n.ys.length:Int)
                  case neg=>
                   have u3:((n.c.ts.length:Int) !=(n.ys.length:Int))=true:=by simpa using r3
                   try clear e0
                   try clear e1
                   try clear e2
                   try clear e3
                   try clear r0
                   try clear r1
                   try clear r2
                   try clear r3
                   try clear s0
                   try clear s1
                   try clear s2
                   try clear s3
                   try clear hT
                   try clear hC
                   try clear hK
                   go_wp2;go_ret;exact⟨af iK,HS.out.2.2⟩
                  case pos=>
                   have u3:((n.c.ts.length:Int) !=(n.ys.length:Int))=false:=by simpa using r3
                   have HCB:Hid (n.copB=true):=by rw[Hid];unfold Nd.copB;rw[e1]at r1;rw[e2]at r2;simp[r1,r2,show n.c.ts.length=n.ys.length by omega]
                   have HSB:Hid (n.snkB=(decide (n.s.tr=0)||(decide (n.r.s=3)&&decide (n.s.tr=n.r.n)&&decide (n.s.ts.length=n.ys.length)))):=rfl;by_cases s0:n.s.tr=0
                   ·have t0:(n.s.tr==0)=true:=by simpa using s0
                    try clear e0
                    try clear e1
                    try clear e2
                    try clear e3
                    try clear r0
                    try clear r1
                    try clear r2
                    try clear r3
                    try clear s0
                    try clear s1
                    try clear s2
                    try clear s3
                    try clear hT
                    try clear hC
                    try clear hK
                    go_wp2;go_ret;exact⟨af iK,HS.out.2.2⟩
                   ·have t0:(n.s.tr==0)=false:=by simpa using s0
                    try clear e0
                    try clear e1
                    try clear e2
                    try clear e3
                    try clear r0
                    try clear r1
                    try clear r2
                    try clear r3
                    try clear s0
                    try clear s1
                    try clear s2
                    try clear s3
                    try clear hT
                    try clear hC
                    try clear hK
                    go_wp2;go_ret;exact⟨af iK,HS.out.2.2⟩
             |false=>
              rw[hup]at c1 HLB;by_cases hC:n.c.tr=0
              case neg=>
               have hCn:(n.c.tr !=0)=true:=by simpa using hC
               try clear e0
               try clear e1
               try clear e2
               try clear e3
               try clear r0
               try clear r1
               try clear r2
               try clear r3
               try clear s0
               try clear s1
               try clear s2
               try clear s3
               try clear hT
               try clear hC
               try clear hK
               go_wp2;go_ret;exact⟨af iK,HS.out.2.2⟩
              case pos=>
               have hCn:(n.c.tr !=0)=false:=by simpa using hC
               by_cases hK:n.s.tr=0
               case neg=>
                have hKn:(n.s.tr !=0)=true:=by simpa using hK
                try clear e0
                try clear e1
                try clear e2
                try clear e3
                try clear r0
                try clear r1
                try clear r2
                try clear r3
                try clear s0
                try clear s1
                try clear s2
                try clear s3
                try clear hT
                try clear hC
                try clear hK
                go_wp2;go_ret;exact⟨af iK,HS.out.2.2⟩
               case pos=>
                have hKn:(n.s.tr !=0)=false:=by simpa using hK
                have HLT:Hid (n.logB=true):=by rw[Hid,HLB.out];simp[hC,hK]
                have t0:(n.s.tr==0)=true:=by simpa using hK
                have HCB:Hid (n.copB=true):=by rw[Hid];unfold Nd.copB;simp[hC]
                have HSB:Hid (n.snkB=true):=by rw[Hid];unfold Nd.snkB;simp[hK]
                try clear e0
                try clear e1
                try clear e2
                try clear e3
                try clear r0
                try clear r1
                try clear r2
                try clear r3
                try clear s0
                try clear s1
                try clear s2
                try clear s3
                try clear hT
                try clear hC
                try clear hK
                go_wp2;go_ret;exact⟨af iK,HS.out.2.2⟩
end Go.Proofs.YthldeiojlllkdaaGreatDoor
