/- A house in memory: twenty cells; NodeOk of the model. -/
import Derived.Test.YtflbcjgkdokhiaaGreatDoorM11
import Derived.Test.YtflbcjgkdokhiaaGreatDoorM12
import Derived.Test.YtflbcjgkdokhiaaGreatDoorM14
import Derived.Test.YtflbcjgkdokhiaaGreatDoorM6
set_option maxRecDepth 20000
set_option maxHeartbeats 8000000
namespace Go.Proofs.YtflbcjgkdokhiaaGreatDoor
open Go.ChangeShapes Go.WideShapes Go.ChangeAt Go.RowKit
def ndA (a b k q z:Value) (n:Nd):Array Value:=#[.int .i64 n.id,.bool n.up,a,b,k,.int .i64 n.h.kd,.int .i64 n.h.ho,.int .i64 n.h.tu,S n.log,.int .i64 n.r.e,.int .i64 n.r.s,.int .i64 n.r.t,.int .i64 n.r.n,.int .i64 n.c.tr,.bool n.c.op,.int .i64 n.c.di,.int .i64 n.c.wa,q,.int .i64 n.s.tr,z]
def NdV (a b k q z:Value) (n:Nd):Value:=.agg (ndA a b k q z n)
theorem Tryz.isNd:IsS 56 20:=⟨⟨_,Tryz.underlying56⟩,by kernel_rfl⟩
structure RdN (w:World) (a b k q z:Value) (n:Nd):Prop where
 ra:Reads w a n.xs
 rb:Reads w b n.ys
 rk:Reads w k n.h.ks
 rq:Reads w q n.c.ts
 rz:Reads w z n.s.ts
structure SmN (n:Nd):Prop where
 la:n.xs.length≤1048576
 lb:n.ys.length≤1048576
 lk:n.h.ks.length≤1048576
 lq:n.c.ts.length≤1048576
 lz:n.s.ts.length≤1048576
 ll:n.log.length≤1048576
theorem RdN.below {w w':World} {a b k q z:Value} {n:Nd} (h:RdN w a b k q z n) (B:Below w.heap.size w w'):RdN w' a b k q z n:=⟨h.ra.below B (Nat.le_refl _),h.rb.below B (Nat.le_refl _),h.rk.below B (Nat.le_refl _),h.rq.below B (Nat.le_refl _),h.rz.below B (Nat.le_refl _)⟩
theorem beq_t {α:Type} [BEq α] [LawfulBEq α] {a b:α} (h:(a==b)=true):a=b:=eq_of_beq h
theorem beq_f {α:Type} [BEq α] [LawfulBEq α] {a b:α} (h:(a==b)=false):¬a=b:=fun e=>by rw[e,beq_self_eq_true]at h;cases h
theorem bne_t {α:Type} [BEq α] [LawfulBEq α] {a b:α} (h:(a !=b)=true):¬a=b:=fun e=>by rw[e]at h;simp at h
theorem bne_f {α:Type} [BEq α] [LawfulBEq α] {a b:α} (h:(a !=b)=false):a=b:=by simpa using h
theorem eqsN {P:Prop} (h:P:=by(try first|have e0:=beq_t f0|have e0:=beq_f f0|have e0:=bne_t f0|have e0:=bne_f f0);(try first|have e1:=beq_t f1|have e1:=beq_f f1|have e1:=bne_t f1|have e1:=bne_f f1);(try first|have e2:=beq_t f2|have e2:=beq_f f2|have e2:=bne_t f2|have e2:=bne_f f2);(try first|have e3:=beq_t f3|have e3:=beq_f f3|have e3:=bne_t f3|have e3:=bne_f f3);(try first|have r0:=beq_t u0|have r0:=beq_f u0|have r0:=bne_t u0|have r0:=bne_f u0);(try first|have r1:=beq_t u1|have r1:=beq_f u1|have r1:=bne_t u1|have r1:=bne_f u1);(try first|have r2:=beq_t u2|have r2:=beq_f u2|have r2:=bne_t u2|have r2:=bne_f u2);(try first|have r3:=beq_t u3|have r3:=beq_f u3|have r3:=bne_t u3|have r3:=bne_f u3);(try first|have s0:=beq_t t0|have s0:=beq_f t0|have s0:=bne_t t0|have s0:=bne_f t0);(try first|have s1:=beq_t t1|have s1:=beq_f t1|have s1:=bne_t t1|have s1:=bne_f t1);(try first|have s2:=beq_t t2|have s2:=beq_f t2|have s2:=bne_t t2|have s2:=bne_f t2);(try first|have s3:=beq_t t3|have s3:=beq_f t3|have s3:=bne_t t3|have s3:=bne_f t3);(try first|have hT:=beq_t hTb|have hT:=beq_f hTb|have hT:=bne_t hTb|have hT:=bne_f hTb);(try first|have hC:=beq_t hCn|have hC:=beq_f hCn|have hC:=bne_t hCn|have hC:=bne_f hCn);(try first|have hK:=beq_t hKn|have hK:=beq_f hKn|have hK:=bne_t hKn|have hK:=bne_f hKn);first|(rw[HE2.out];rw[HLB.out];unfold sameR;simp[e0];done)|(rw[HE2.out];rw[HLB.out];unfold sameR;simp[e1];done)|(rw[HE2.out];rw[HLB.out];unfold sameR;simp[e2];done)|(rw[HE2.out];rw[HLB.out];unfold sameR;simp[e3];done)|(rw[HE2.out];rw[HLB.out];simp[hT];done)|(rw[HE2.out];rw[HLT.out,HCB.out,HSB.out];simp[s0];done)|(rw[HE2.out];rw[HLT.out,HCB.out,HSB.out];rw[e1]at s1;rw[e3]at s2;simp[s1,s2,show n.s.ts.length=n.ys.length by omega];done)|(rw[HE2.out];rw[HLT.out,HCB.out,HSB.out];simp[s0,show¬n.s.ts.length=n.ys.length by omega];done)|(rw[HE2.out];rw[HLT.out,HCB.out,HSB.out];rw[e3]at s2;simp[s0,s2];done)|(rw[HE2.out];rw[HLT.out,HCB.out,HSB.out];rw[e1]at s1;simp[s0,s1];done)|(rw[HE2.out];rw[HLT.out];unfold Nd.copB;rw[e1]at r1;simp[r0,r1];done)|(rw[HE2.out];rw[HLT.out];unfold Nd.copB;rw[e2]at r2;simp[r0,r2];done)|(rw[HE2.out];rw[HLT.out];unfold Nd.copB;simp[r0,show¬n.c.ts.length=n.ys.length by omega];done)|(rw[HE2.out];rw[HLT.out,HCB.out,HSB.out];rw[e1]at r1;simp[s0,r1];done)|(rw[HE2.out];rw[HLB.out];simp[hC];done)|(rw[HE2.out];rw[HLB.out];simp[hK];done)|(rw[HE2.out];rw[HLB.out];rfl;done)|(rw[HE2.out];rw[HLT.out,HCB.out,HSB.out];rfl;done)):P:=h
theorem snodeok_any (a b k q z:Value) (n:Nd) (w:World) (hr:RdN w a b k q z n) (hl:SmN n):
  Calls Tryz.prog 25 #[NdV a b k q z n] w fun e w'=>e=.returned (.bool n.ok)∧Below w.heap.size w w':=by
 have HE:Hid (n.ok=((inI n.id 0 1&&bothOk n.xs n.ys&&n.h.ok&&n.r.ok&&decide (n.log.length≤40000)&&n.c.ok&&n.s.ok)&&n.logB&&n.copB&&n.snkB)):=rfl
 obtain⟨w1,hw1⟩:∃w1,w1=w.alloc (.cells (ndA a b k q z n) 56):=⟨_,rfl⟩
 have b1:Below w.heap.size w w1:=by rw[hw1];exact(Below.refl _ _).alloc (Nat.le_refl _) _
 have HS:Hid (StB w1 w.heap.size 56 (ndA a b k q z n)∧RdN w1 a b k q z n∧Below w.heap.size w w1):=⟨by rw[hw1];exact StB.new _ _ _,hr.below b1,b1⟩
 have HL:Hid (SmN n):=hl
 obtain⟨a1,a2,rfl⟩:=reads_form hr.ra
 obtain⟨b1',b2,rfl⟩:=reads_form hr.rb
 obtain⟨k1,k2,rfl⟩:=reads_form hr.rk
 obtain⟨q1,q2,rfl⟩:=reads_form hr.rq
 obtain⟨z1,z2,rfl⟩:=reads_form hr.rz
 obtain⟨x,hx⟩:∃x,x=n.ok:=⟨_,rfl⟩
 rw[←hx]at HE⊢
 clear hx hr hl b1
 have HW:Hid (w1=w.alloc (.cells #[.int .i64 n.id,.bool n.up,.slice a1 n.xs.length a2,.slice b1' n.ys.length b2,.slice k1 n.h.ks.length k2,.int .i64 n.h.kd,.int .i64 n.h.ho,.int .i64 n.h.tu,S n.log,.int .i64 n.r.e,.int .i64 n.r.s,.int .i64 n.r.t,.int .i64 n.r.n,.int .i64 n.c.tr,.bool n.c.op,.int .i64 n.c.di,.int .i64 n.c.wa,.slice q1 n.c.ts.length q2,.int .i64 n.s.tr,.slice z1 n.s.ts.length z2] 56)):=hw1
 clear hw1
 have ci:=fun wx=>sin6_any n.id 0 1 wx
 obtain⟨v1,hv1⟩:∃v1,v1=inI n.id 0 1:=⟨_,rfl⟩
 rw[←hv1]at HE
 simp only[←hv1]at ci
 obtain⟨v2,hv2⟩:∃v2,v2=bothOk n.xs n.ys:=⟨_,rfl⟩
 rw[←hv2]at HE
 obtain⟨v3,hv3⟩:∃v3,v3=n.h.ok:=⟨_,rfl⟩
 rw[←hv3]at HE
 obtain⟨v4,hv4⟩:∃v4,v4=n.r.ok:=⟨_,rfl⟩
 rw[←hv4]at HE
 obtain⟨v6,hv6⟩:∃v6,v6=n.c.ok:=⟨_,rfl⟩
 rw[←hv6]at HE
 obtain⟨v7,hv7⟩:∃v7,v7=n.s.ok:=⟨_,rfl⟩
 rw[←hv7]at HE
 have H2:Hid (v2=bothOk n.xs n.ys):=hv2
 have H3:Hid (v3=n.h.ok):=hv3
 have H4:Hid (v4=n.r.ok):=hv4
 have H6:Hid (v6=n.c.ok):=hv6
 have H7:Hid (v7=n.s.ok):=hv7
 clear hv1 hv2 hv3 hv4 hv6 hv7
 unfold NdV ndA
 have c0:w1.cell? ⟨w.heap.size,0,none⟩=some (.int .i64 n.id):=HS.out.1.cell 0 rfl
 go_enter Tryz.func25,Tryz.ntmps25
 go_upto_region 1 with fail
 rw[←HW.out]
 clear HW
 go_wp2_with fail
 refine(ci _).mono ?_
 rintro e w' ⟨rfl,hw⟩;subst w'
 clear ci c0
 cases v1 with
 |false=>
  go_wp2
  go_ret
  exact⟨ret_bool (by rw[HE.out];simp),HS.out.2.2⟩
 |true=>
  have cc:=sdiskOk_any _ _ n.xs n.ys w1 HS.out.2.1.ra HS.out.2.1.rb (by have:=HL.out.la;omega) (by have:=HL.out.lb;omega)
  rw[←H2.out]at cc
  try unfold HV hdA at cc
  try unfold RV recA at cc
  try unfold CpV cpA at cc
  try unfold SnV snA at cc
  have c2:w1.cell? ⟨w.heap.size,2,none⟩=some (.slice a1 n.xs.length a2):=HS.out.1.cell 2 rfl
  have c3:w1.cell? ⟨w.heap.size,3,none⟩=some (.slice b1' n.ys.length b2):=HS.out.1.cell 3 rfl
  go_wp2_with fail
  refine cc.mono ?_
  rintro e w2 ⟨rfl,bq⟩
  replace HS:Hid (StB w2 w.heap.size 56 (ndA (.slice a1 n.xs.length a2) (.slice b1' n.ys.length b2) (.slice k1 n.h.ks.length k2) (.slice q1 n.c.ts.length q2) (.slice z1 n.s.ts.length z2) n)∧RdN w2 (.slice a1 n.xs.length a2) (.slice b1' n.ys.length b2) (.slice k1 n.h.ks.length k2) (.slice q1 n.c.ts.length q2) (.slice z1 n.s.ts.length z2) n∧Below w.heap.size w w2):=⟨HS.out.1.below bq,HS.out.2.1.below bq,HS.out.2.2.trans (bq.mono HS.out.2.2.size)⟩
  clear cc bq
  clear c2 c3
  cases v2 with
  |false=>
   go_wp2
   go_ret
   exact⟨ret_bool (by rw[HE.out];simp),HS.out.2.2⟩
  |true=>
   have cc:=sholdok_any _ n.h w2 HS.out.2.1.rk (by have:=HL.out.lk;omega)
   rw[←H3.out]at cc
   try unfold HV hdA at cc
   try unfold RV recA at cc
   try unfold CpV cpA at cc
   try unfold SnV snA at cc
   have c4:w2.cell? ⟨w.heap.size,4,none⟩=some (.slice k1 n.h.ks.length k2):=HS.out.1.cell 4 rfl
   have c5:w2.cell? ⟨w.heap.size,5,none⟩=some (.int .i64 n.h.kd):=HS.out.1.cell 5 rfl
   have c6:w2.cell? ⟨w.heap.size,6,none⟩=some (.int .i64 n.h.ho):=HS.out.1.cell 6 rfl
   have c7:w2.cell? ⟨w.heap.size,7,none⟩=some (.int .i64 n.h.tu):=HS.out.1.cell 7 rfl
   go_wp2_with fail
   refine cc.mono ?_
   rintro e w3 ⟨rfl,bq⟩
   replace HS:Hid (StB w3 w.heap.size 56 (ndA (.slice a1 n.xs.length a2) (.slice b1' n.ys.length b2) (.slice k1 n.h.ks.length k2) (.slice q1 n.c.ts.length q2) (.slice z1 n.s.ts.length z2) n)∧RdN w3 (.slice a1 n.xs.length a2) (.slice b1' n.ys.length b2) (.slice k1 n.h.ks.length k2) (.slice q1 n.c.ts.length q2) (.slice z1 n.s.ts.length z2) n∧Below w.heap.size w w3):=⟨HS.out.1.below bq,HS.out.2.1.below bq,HS.out.2.2.trans (bq.mono HS.out.2.2.size)⟩
   clear cc bq
   clear c4 c5 c6 c7
   cases v3 with
   |false=>
    go_wp2
    go_ret
    exact⟨ret_bool (by rw[HE.out];simp),HS.out.2.2⟩
   |true=>
    have cc:=srecok_any n.r w3
    rw[←H4.out]at cc
    try unfold HV hdA at cc
    try unfold RV recA at cc
    try unfold CpV cpA at cc
    try unfold SnV snA at cc
    have c9:w3.cell? ⟨w.heap.size,9,none⟩=some (.int .i64 n.r.e):=HS.out.1.cell 9 rfl
    have c10:w3.cell? ⟨w.heap.size,10,none⟩=some (.int .i64 n.r.s):=HS.out.1.cell 10 rfl
    have c11:w3.cell? ⟨w.heap.size,11,none⟩=some (.int .i64 n.r.t):=HS.out.1.cell 11 rfl
    have c12:w3.cell? ⟨w.heap.size,12,none⟩=some (.int .i64 n.r.n):=HS.out.1.cell 12 rfl
    go_wp2_with fail
    refine cc.mono ?_
    rintro e w4 ⟨rfl,bq⟩
    replace HS:Hid (StB w4 w.heap.size 56 (ndA (.slice a1 n.xs.length a2) (.slice b1' n.ys.length b2) (.slice k1 n.h.ks.length k2) (.slice q1 n.c.ts.length q2) (.slice z1 n.s.ts.length z2) n)∧RdN w4 (.slice a1 n.xs.length a2) (.slice b1' n.ys.length b2) (.slice k1 n.h.ks.length k2) (.slice q1 n.c.ts.length q2) (.slice z1 n.s.ts.length z2) n∧Below w.heap.size w w4):=⟨HS.out.1.below bq,HS.out.2.1.below bq,HS.out.2.2.trans (bq.mono HS.out.2.2.size)⟩
    clear cc bq
    clear c9 c10 c11 c12
    cases v4 with
    |false=>
     go_wp2
     go_ret
     exact⟨ret_bool (by rw[HE.out];simp),HS.out.2.2⟩
    |true=>
     have hll:(n.log.length:Int)≤1048576:=by have:=HL.out.ll;omega
     by_cases h5:(40000:Int)<(n.log.length:Int)
     ·skip
      have c8:w4.cell? ⟨w.heap.size,8,none⟩=some (S n.log):=HS.out.1.cell 8 rfl
      unfold S at c8
      go_wp2
      go_ret
      exact⟨ret_bool (by rw[HE.out,show decide (n.log.length≤40000)=false from decide_eq_false (by omega)];simp),HS.out.2.2⟩
     ·have H5:Hid (decide (n.log.length≤40000)=true):=decide_eq_true (by omega)
      have c8:w4.cell? ⟨w.heap.size,8,none⟩=some (S n.log):=HS.out.1.cell 8 rfl
      unfold S at c8
      have cc:=scopok_any _ n.c w4 HS.out.2.1.rq (by have:=HL.out.lq;omega)
      rw[←H6.out]at cc
      try unfold HV hdA at cc
      try unfold RV recA at cc
      try unfold CpV cpA at cc
      try unfold SnV snA at cc
      have c13:w4.cell? ⟨w.heap.size,13,none⟩=some (.int .i64 n.c.tr):=HS.out.1.cell 13 rfl
      have c14:w4.cell? ⟨w.heap.size,14,none⟩=some (.bool n.c.op):=HS.out.1.cell 14 rfl
      have c15:w4.cell? ⟨w.heap.size,15,none⟩=some (.int .i64 n.c.di):=HS.out.1.cell 15 rfl
      have c16:w4.cell? ⟨w.heap.size,16,none⟩=some (.int .i64 n.c.wa):=HS.out.1.cell 16 rfl
      have c17:w4.cell? ⟨w.heap.size,17,none⟩=some (.slice q1 n.c.ts.length q2):=HS.out.1.cell 17 rfl
      go_wp2_with fail
      refine cc.mono ?_
      rintro e w5 ⟨rfl,bq⟩
      replace HS:Hid (StB w5 w.heap.size 56 (ndA (.slice a1 n.xs.length a2) (.slice b1' n.ys.length b2) (.slice k1 n.h.ks.length k2) (.slice q1 n.c.ts.length q2) (.slice z1 n.s.ts.length z2) n)∧RdN w5 (.slice a1 n.xs.length a2) (.slice b1' n.ys.length b2) (.slice k1 n.h.ks.length k2) (.slice q1 n.c.ts.length q2) (.slice z1 n.s.ts.length z2) n∧Below w.heap.size w w5):=⟨HS.out.1.below bq,HS.out.2.1.below bq,HS.out.2.2.trans (bq.mono HS.out.2.2.size)⟩
      clear cc bq
      clear c13 c14 c15 c16 c17
      cases v6 with
      |false=>
       go_wp2
       go_ret
       exact⟨ret_bool (by rw[HE.out];simp),HS.out.2.2⟩
      |true=>
       have cc:=ssinkok_any _ n.s w5 HS.out.2.1.rz (by have:=HL.out.lz;omega)
       rw[←H7.out]at cc
       try unfold HV hdA at cc
       try unfold RV recA at cc
       try unfold CpV cpA at cc
       try unfold SnV snA at cc
       have c18:w5.cell? ⟨w.heap.size,18,none⟩=some (.int .i64 n.s.tr):=HS.out.1.cell 18 rfl
       have c19:w5.cell? ⟨w.heap.size,19,none⟩=some (.slice z1 n.s.ts.length z2):=HS.out.1.cell 19 rfl
       go_wp2_with fail
       refine cc.mono ?_
       rintro e w6 ⟨rfl,bq⟩
       replace HS:Hid (StB w6 w.heap.size 56 (ndA (.slice a1 n.xs.length a2) (.slice b1' n.ys.length b2) (.slice k1 n.h.ks.length k2) (.slice q1 n.c.ts.length q2) (.slice z1 n.s.ts.length z2) n)∧RdN w6 (.slice a1 n.xs.length a2) (.slice b1' n.ys.length b2) (.slice k1 n.h.ks.length k2) (.slice q1 n.c.ts.length q2) (.slice z1 n.s.ts.length z2) n∧Below w.heap.size w w6):=⟨HS.out.1.below bq,HS.out.2.1.below bq,HS.out.2.2.trans (bq.mono HS.out.2.2.size)⟩
       clear cc bq
       clear c18 c19
       cases v7 with
       |false=>
        go_wp2
        go_ret
        exact⟨ret_bool (by rw[HE.out];simp),HS.out.2.2⟩
       |true=>
        have HE2:Hid (x=(n.logB&&n.copB&&n.snkB)):=by rw[Hid,HE.out,H5.out];rfl
        clear HE H2 H3 H4 H6 H7 H5
        have HLB:Hid (n.logB=((recallB n.log).isSome&&sameR (recR (recallB n.log)) n.r&&(!n.up||decide (n.log.take (recAt (recallB n.log))=n.log))&&(n.up||(decide (n.c.tr=0)&&decide (n.s.tr=0))))):=rfl
        have cc:=srecall_any n.log w6 HL.out.ll
        obtain⟨rr,hrr⟩:∃rr,rr=recR (recallB n.log):=⟨_,rfl⟩
        obtain⟨tk,htk⟩:∃tk,tk=n.log.take (recAt (recallB n.log)):=⟨_,rfl⟩
        obtain⟨bs,hbs⟩:∃bs,bs=(recallB n.log).isSome:=⟨_,rfl⟩
        rw[←hrr,←htk,←hbs]at cc HLB
        obtain⟨re,rs,rt,rn⟩:=rr
        unfold RV recA S at cc
        clear hrr htk hbs c8
        have c8:w6.cell? ⟨w.heap.size,8,none⟩=some (S n.log):=HS.out.1.cell 8 rfl
        unfold S at c8
        go_wp2_with fail
        refine cc.mono ?_
        rintro e wr ⟨rfl,bq⟩
        replace HS:Hid (StB wr w.heap.size 56 (ndA (.slice a1 n.xs.length a2) (.slice b1' n.ys.length b2) (.slice k1 n.h.ks.length k2) (.slice q1 n.c.ts.length q2) (.slice z1 n.s.ts.length z2) n)∧RdN wr (.slice a1 n.xs.length a2) (.slice b1' n.ys.length b2) (.slice k1 n.h.ks.length k2) (.slice q1 n.c.ts.length q2) (.slice z1 n.s.ts.length z2) n∧Below w.heap.size w wr):=⟨HS.out.1.below bq,HS.out.2.1.below bq,HS.out.2.2.trans (bq.mono HS.out.2.2.size)⟩
        clear cc bq c8
        obtain⟨wx,hwx⟩:∃wx,wx=wr.alloc (.cells #[.int .i64 re,.int .i64 rs,.int .i64 rt,.int .i64 rn] 50):=⟨_,rfl⟩
        obtain⟨g,hg⟩:∃g,g=wr.heap.size:=⟨_,rfl⟩
        have HG:Hid (StB wx g 50 #[.int .i64 re,.int .i64 rs,.int .i64 rt,.int .i64 rn]):=by rw[hwx,hg];exact StB.new _ _ _
        have bx:Below wr.heap.size wr wx:=by rw[hwx];exact(Below.refl _ _).alloc (Nat.le_refl _) _
        replace HS:Hid (StB wx w.heap.size 56 (ndA (.slice a1 n.xs.length a2) (.slice b1' n.ys.length b2) (.slice k1 n.h.ks.length k2) (.slice q1 n.c.ts.length q2) (.slice z1 n.s.ts.length z2) n)∧RdN wx (.slice a1 n.xs.length a2) (.slice b1' n.ys.length b2) (.slice k1 n.h.ks.length k2) (.slice q1 n.c.ts.length q2) (.slice z1 n.s.ts.length z2) n∧Below w.heap.size w wx):=⟨HS.out.1.below bx,HS.out.2.1.below bx,HS.out.2.2.trans (bx.mono HS.out.2.2.size)⟩
        go_upto_region 4 with fail
        rw[←hwx,←hg]
        clear hwx hg bx
        have hself:∀y:Int,(y==y)=true:=by simp
        have hselfn:∀y:Int,(y !=y)=false:=by simp
        cases bs with
        |false=>
         try clear e0
         try clear e1
         try clear e2
         try clear e3
         try clear r0
         try clear r1
         try clear r2
         try clear r3
         try clear s0
         try clear s1
         try clear s2
         try clear s3
         try clear hT
         try clear hC
         try clear hK
         go_wp2
         go_ret
         exact⟨ret_bool eqsN,HS.out.2.2⟩
        |true=>
         have c1:wx.cell? ⟨w.heap.size,1,none⟩=some (.bool n.up):=HS.out.1.cell 1 rfl
         have c8:wx.cell? ⟨w.heap.size,8,none⟩=some (S n.log):=HS.out.1.cell 8 rfl
         have c9:wx.cell? ⟨w.heap.size,9,none⟩=some (.int .i64 n.r.e):=HS.out.1.cell 9 rfl
         have c10:wx.cell? ⟨w.heap.size,10,none⟩=some (.int .i64 n.r.s):=HS.out.1.cell 10 rfl
         have c11:wx.cell? ⟨w.heap.size,11,none⟩=some (.int .i64 n.r.t):=HS.out.1.cell 11 rfl
         have c12:wx.cell? ⟨w.heap.size,12,none⟩=some (.int .i64 n.r.n):=HS.out.1.cell 12 rfl
         have c13:wx.cell? ⟨w.heap.size,13,none⟩=some (.int .i64 n.c.tr):=HS.out.1.cell 13 rfl
         have c18:wx.cell? ⟨w.heap.size,18,none⟩=some (.int .i64 n.s.tr):=HS.out.1.cell 18 rfl
         unfold S at c8
         have d0:wx.cell? ⟨g,0,none⟩=some (.int .i64 re):=HG.out.cell 0 rfl
         have d1:wx.cell? ⟨g,1,none⟩=some (.int .i64 rs):=HG.out.cell 1 rfl
         have d2:wx.cell? ⟨g,2,none⟩=some (.int .i64 rt):=HG.out.cell 2 rfl
         have d3:wx.cell? ⟨g,3,none⟩=some (.int .i64 rn):=HG.out.cell 3 rfl
         by_cases e0:re=n.r.e
         case neg=>
          have f0:(re==n.r.e)=false:=by simpa using e0
          try clear e0
          try clear e1
          try clear e2
          try clear e3
          try clear r0
          try clear r1
          try clear r2
          try clear r3
          try clear s0
          try clear s1
          try clear s2
          try clear s3
          try clear hT
          try clear hC
          try clear hK
          go_wp2
          go_ret
          exact⟨ret_bool eqsN,HS.out.2.2⟩
         case pos=>
          have f0:(re==n.r.e)=true:=by simpa using e0
          by_cases e1:rs=n.r.s
          case neg=>
           have f1:(rs==n.r.s)=false:=by simpa using e1
           try clear e0
           try clear e1
           try clear e2
           try clear e3
           try clear r0
           try clear r1
           try clear r2
           try clear r3
           try clear s0
           try clear s1
           try clear s2
           try clear s3
           try clear hT
           try clear hC
           try clear hK
           go_wp2
           go_ret
           exact⟨ret_bool eqsN,HS.out.2.2⟩
          case pos=>
           have f1:(rs==n.r.s)=true:=by simpa using e1
           by_cases e2:rt=n.r.t
           case neg=>
            have f2:(rt==n.r.t)=false:=by simpa using e2
            try clear e0
            try clear e1
            try clear e2
            try clear e3
            try clear r0
            try clear r1
            try clear r2
            try clear r3
            try clear s0
            try clear s1
            try clear s2
            try clear s3
            try clear hT
            try clear hC
            try clear hK
            go_wp2
            go_ret
            exact⟨ret_bool eqsN,HS.out.2.2⟩
           case pos=>
            have f2:(rt==n.r.t)=true:=by simpa using e2
            by_cases e3:rn=n.r.n
            case neg=>
             have f3:(rn==n.r.n)=false:=by simpa using e3
             try clear e0
             try clear e1
             try clear e2
             try clear e3
             try clear r0
             try clear r1
             try clear r2
             try clear r3
             try clear s0
             try clear s1
             try clear s2
             try clear s3
             try clear hT
             try clear hC
             try clear hK
             go_wp2
             go_ret
             exact⟨ret_bool eqsN,HS.out.2.2⟩
            case pos=>
             have f3:(rn==n.r.n)=true:=by simpa using e3
             have HSR:Hid (sameR ⟨re,rs,rt,rn⟩ n.r=true):=by rw[Hid,sameR_iff,e0,e1,e2,e3]
             rw[HSR.out]at HLB
             cases hup:n.up with
             |true=>
              rw[hup]at c1 HLB
              by_cases hT:tk=n.log
              case neg=>
               have hTb:(tk==n.log)=false:=by simpa using hT
               have hTn:(tk !=n.log)=true:=by simpa using hT
               try clear e0
               try clear e1
               try clear e2
               try clear e3
               try clear r0
               try clear r1
               try clear r2
               try clear r3
               try clear s0
               try clear s1
               try clear s2
               try clear s3
               try clear hT
               try clear hC
               try clear hK
               go_wp2
               go_ret
               exact⟨ret_bool eqsN,HS.out.2.2⟩
              case pos=>
               have hTb:(tk==n.log)=true:=by simpa using hT
               have hTn:(tk !=n.log)=false:=by simpa using hT
               have HLT:Hid (n.logB=true):=by rw[Hid,HLB.out];simp[hT]
               have c3:wx.cell? ⟨w.heap.size,3,none⟩=some (.slice b1' n.ys.length b2):=HS.out.1.cell 3 rfl
               have c17:wx.cell? ⟨w.heap.size,17,none⟩=some (.slice q1 n.c.ts.length q2):=HS.out.1.cell 17 rfl
               have c19:wx.cell? ⟨w.heap.size,19,none⟩=some (.slice z1 n.s.ts.length z2):=HS.out.1.cell 19 rfl
               by_cases r0:n.c.tr=0
               ·have u0:(n.c.tr !=0)=false:=by simpa using r0
                have HCB:Hid (n.copB=true):=by rw[Hid];unfold Nd.copB;simp[r0]
                have HSB:Hid (n.snkB=(decide (n.s.tr=0)||(decide (n.r.s=3)&&decide (n.s.tr=n.r.n)&&decide (n.s.ts.length=n.ys.length)))):=rfl
                by_cases s0:n.s.tr=0
                ·have t0:(n.s.tr==0)=true:=by simpa using s0
                 try clear e0
                 try clear e1
                 try clear e2
                 try clear e3
                 try clear r0
                 try clear r1
                 try clear r2
                 try clear r3
                 try clear s0
                 try clear s1
                 try clear s2
                 try clear s3
                 try clear hT
                 try clear hC
                 try clear hK
                 go_wp2
                 go_ret
                 exact⟨ret_bool eqsN,HS.out.2.2⟩
                ·have t0:(n.s.tr==0)=false:=by simpa using s0
                 by_cases s1:rs=3
                 ·have t1:(rs==3)=true:=by simpa using s1
                  by_cases s2:n.s.tr=rn
                  ·have t2:(n.s.tr==rn)=true:=by simpa using s2
                   by_cases s3:(n.s.ts.length:Int)=(n.ys.length:Int)
                   ·have t3:((n.s.ts.length:Int)==(n.ys.length:Int))=true:=by simpa using s3
                    try clear e0
                    try clear e1
                    try clear e2
                    try clear e3
                    try clear r0
                    try clear r1
                    try clear r2
                    try clear r3
                    try clear s0
                    try clear s1
                    try clear s2
                    try clear s3
                    try clear hT
                    try clear hC
                    try clear hK
                    go_wp2
                    go_ret
                    exact⟨ret_bool eqsN,HS.out.2.2⟩
                   ·have t3:((n.s.ts.length:Int)==(n.ys.length:Int))=false:=by simpa using s3
                    try clear e0
                    try clear e1
                    try clear e2
                    try clear e3
                    try clear r0
                    try clear r1
                    try clear r2
                    try clear r3
                    try clear s0
                    try clear s1
                    try clear s2
                    try clear s3
                    try clear hT
                    try clear hC
                    try clear hK
                    go_wp2
                    go_ret
                    exact⟨ret_bool eqsN,HS.out.2.2⟩
                  ·have t2:(n.s.tr==rn)=false:=by simpa using s2
                   try clear e0
                   try clear e1
                   try clear e2
                   try clear e3
                   try clear r0
                   try clear r1
                   try clear r2
                   try clear r3
                   try clear s0
                   try clear s1
                   try clear s2
                   try clear s3
                   try clear hT
                   try clear hC
                   try clear hK
                   go_wp2
                   go_ret
                   exact⟨ret_bool eqsN,HS.out.2.2⟩
                 ·have t1:(rs==3)=false:=by simpa using s1
                  try clear e0
                  try clear e1
                  try clear e2
                  try clear e3
                  try clear r0
                  try clear r1
                  try clear r2
                  try clear r3
                  try clear s0
                  try clear s1
                  try clear s2
                  try clear s3
                  try clear hT
                  try clear hC
                  try clear hK
                  go_wp2
                  go_ret
                  exact⟨ret_bool eqsN,HS.out.2.2⟩
               ·have u0:(n.c.tr !=0)=true:=by simpa using r0
                by_cases r1:rs=3
                ·have u1:(rs==3)=true:=by simpa using r1
                 try clear e0
                 try clear e1
                 try clear e2
                 try clear e3
                 try clear r0
                 try clear r1
                 try clear r2
                 try clear r3
                 try clear s0
                 try clear s1
                 try clear s2
                 try clear s3
                 try clear hT
                 try clear hC
                 try clear hK
                 go_wp2
                 go_ret
                 exact⟨ret_bool eqsN,HS.out.2.2⟩
                ·have u1:(rs==3)=false:=by simpa using r1
                 by_cases r2:n.c.tr=rt
                 case neg=>
                  have u2:(n.c.tr !=rt)=true:=by simpa using r2
                  try clear e0
                  try clear e1
                  try clear e2
                  try clear e3
                  try clear r0
                  try clear r1
                  try clear r2
                  try clear r3
                  try clear s0
                  try clear s1
                  try clear s2
                  try clear s3
                  try clear hT
                  try clear hC
                  try clear hK
                  go_wp2
                  go_ret
                  exact⟨ret_bool eqsN,HS.out.2.2⟩
                 case pos=>
                  have u2:(n.c.tr !=rt)=false:=by simpa using r2
                  by_cases r3:(n.c.ts.length:Int)=(n.ys.length:Int)
                  case neg=>
                   have u3:((n.c.ts.length:Int) !=(n.ys.length:Int))=true:=by simpa using r3
                   try clear e0
                   try clear e1
                   try clear e2
                   try clear e3
                   try clear r0
                   try clear r1
                   try clear r2
                   try clear r3
                   try clear s0
                   try clear s1
                   try clear s2
                   try clear s3
                   try clear hT
                   try clear hC
                   try clear hK
                   go_wp2
                   go_ret
                   exact⟨ret_bool eqsN,HS.out.2.2⟩
                  case pos=>
                   have u3:((n.c.ts.length:Int) !=(n.ys.length:Int))=false:=by simpa using r3
                   have HCB:Hid (n.copB=true):=by rw[Hid];unfold Nd.copB;rw[e1]at r1;rw[e2]at r2;simp[r1,r2,show n.c.ts.length=n.ys.length by omega]
                   have HSB:Hid (n.snkB=(decide (n.s.tr=0)||(decide (n.r.s=3)&&decide (n.s.tr=n.r.n)&&decide (n.s.ts.length=n.ys.length)))):=rfl
                   by_cases s0:n.s.tr=0
                   ·have t0:(n.s.tr==0)=true:=by simpa using s0
                    try clear e0
                    try clear e1
                    try clear e2
                    try clear e3
                    try clear r0
                    try clear r1
                    try clear r2
                    try clear r3
                    try clear s0
                    try clear s1
                    try clear s2
                    try clear s3
                    try clear hT
                    try clear hC
                    try clear hK
                    go_wp2
                    go_ret
                    exact⟨ret_bool eqsN,HS.out.2.2⟩
                   ·have t0:(n.s.tr==0)=false:=by simpa using s0
                    try clear e0
                    try clear e1
                    try clear e2
                    try clear e3
                    try clear r0
                    try clear r1
                    try clear r2
                    try clear r3
                    try clear s0
                    try clear s1
                    try clear s2
                    try clear s3
                    try clear hT
                    try clear hC
                    try clear hK
                    go_wp2
                    go_ret
                    exact⟨ret_bool eqsN,HS.out.2.2⟩
             |false=>
              rw[hup]at c1 HLB
              by_cases hC:n.c.tr=0
              case neg=>
               have hCn:(n.c.tr !=0)=true:=by simpa using hC
               try clear e0
               try clear e1
               try clear e2
               try clear e3
               try clear r0
               try clear r1
               try clear r2
               try clear r3
               try clear s0
               try clear s1
               try clear s2
               try clear s3
               try clear hT
               try clear hC
               try clear hK
               go_wp2
               go_ret
               exact⟨ret_bool eqsN,HS.out.2.2⟩
              case pos=>
               have hCn:(n.c.tr !=0)=false:=by simpa using hC
               by_cases hK:n.s.tr=0
               case neg=>
                have hKn:(n.s.tr !=0)=true:=by simpa using hK
                try clear e0
                try clear e1
                try clear e2
                try clear e3
                try clear r0
                try clear r1
                try clear r2
                try clear r3
                try clear s0
                try clear s1
                try clear s2
                try clear s3
                try clear hT
                try clear hC
                try clear hK
                go_wp2
                go_ret
                exact⟨ret_bool eqsN,HS.out.2.2⟩
               case pos=>
                have hKn:(n.s.tr !=0)=false:=by simpa using hK
                have HLT:Hid (n.logB=true):=by rw[Hid,HLB.out];simp[hC,hK]
                have t0:(n.s.tr==0)=true:=by simpa using hK
                have HCB:Hid (n.copB=true):=by rw[Hid];unfold Nd.copB;simp[hC]
                have HSB:Hid (n.snkB=true):=by rw[Hid];unfold Nd.snkB;simp[hK]
                try clear e0
                try clear e1
                try clear e2
                try clear e3
                try clear r0
                try clear r1
                try clear r2
                try clear r3
                try clear s0
                try clear s1
                try clear s2
                try clear s3
                try clear hT
                try clear hC
                try clear hK
                go_wp2
                go_ret
                exact⟨ret_bool eqsN,HS.out.2.2⟩
end Go.Proofs.YtflbcjgkdokhiaaGreatDoor
