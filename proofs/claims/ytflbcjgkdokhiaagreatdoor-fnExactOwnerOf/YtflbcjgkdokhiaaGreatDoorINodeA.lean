/- Houses by the program: idOk, store, logOk, copierOk, sinkOk, NodeOk. -/
import Derived.Test.YtflbcjgkdokhiaaGreatDoorM27
import Derived.Test.YtflbcjgkdokhiaaGreatDoorM21
import Derived.Test.YtflbcjgkdokhiaaGreatDoorM17
import Derived.Test.YtflbcjgkdokhiaaGreatDoorIRecall
set_option maxRecDepth 20000
set_option maxHeartbeats 4000000
namespace Go.Proofs.YtflbcjgkdokhiaaGreatDoor
open Go.ChangeShapes Go.WideShapes Go.ChangeAt Go.RowKit
theorem istoreof_any (a b k q z:Value) (n:Nd) (w:World) (hr:RdN w a b k q z n):
  Calls Tryz.prog 85 #[NdV a b k q z n] w fun e w'=>e=.returned (SRV a b k n.h)∧Below w.heap.size w w':=by
 obtain⟨w1,hw1⟩:∃w1,w1=(w.alloc (.cells (ndA a b k q z n) 56)).alloc (.cells zeR 133):=⟨_,rfl⟩
 have S1:Hid (StB w1 w.heap.size 56 (ndA a b k q z n)):=by rw[hw1];exact(StB.new _ _ _).alloc _
 have R1:StB w1 (w.heap.size+1) 133 zeR:=by
  rw[hw1]
  have:=StB.new (w.alloc (.cells (ndA a b k q z n) 56)) 133 zeR
  rwa[World.size_alloc]at this
 have HB:Hid (Below w.heap.size w w1):=by rw[hw1];exact((Below.refl _ _).alloc (Nat.le_refl _) _).alloc (by simp) _
 obtain⟨ao,ac,rfl⟩:=reads_form hr.ra
 obtain⟨bo,bc,rfl⟩:=reads_form hr.rb
 obtain⟨ko,kc,rfl⟩:=reads_form hr.rk
 obtain⟨qo,qc,rfl⟩:=reads_form hr.rq
 obtain⟨zo,zc,rfl⟩:=reads_form hr.rz
 clear hr
 unfold zeR at hw1
 unfold ndA S at hw1
 unfold NdV
 conv in ndA (.slice ao n.xs.length ac) _ _ _ _ _=>unfold ndA S
 go_enter Tryz.func85,Tryz.ntmps85
 go_upto_region 1 with fail
 rw[←hw1]
 clear hw1
 have p2:w1.cell? ⟨w.heap.size,2,none⟩=some (.slice ao n.xs.length ac):=S1.out.cell 2 rfl
 have p3:w1.cell? ⟨w.heap.size,3,none⟩=some (.slice bo n.ys.length bc):=S1.out.cell 3 rfl
 have p4:w1.cell? ⟨w.heap.size,4,none⟩=some (.slice ko n.h.ks.length kc):=S1.out.cell 4 rfl
 have p5:w1.cell? ⟨w.heap.size,5,none⟩=some (.int .i64 n.h.kd):=S1.out.cell 5 rfl
 have p6:w1.cell? ⟨w.heap.size,6,none⟩=some (.int .i64 n.h.ho):=S1.out.cell 6 rfl
 have p7:w1.cell? ⟨w.heap.size,7,none⟩=some (.int .i64 n.h.tu):=S1.out.cell 7 rfl
 have r0:w1.cell? ⟨w.heap.size+1,0,none⟩=some (.slice none 0 0):=R1.cell 0 rfl
 have g0:=R1.frozen 0
 go_wp2_with (refine wpList_putS Tryz.isR rfl _ _ rfl (w.heap.size+1) (srA (.slice ao n.xs.length ac) (.slice bo n.ys.length bc) (.slice ko n.h.ks.length kc) n.h) zeR rfl rfl rfl rfl (srA_one n.h rfl rfl rfl) R1 ?_;intro w2 s2 g2)
 refine bodyPost_ret (results_S Tryz.isR rfl _ _ (w.heap.size+1) _ rfl rfl s2) rfl ?_
 exact⟨rfl,HB.out.grown g2 HB.out.size (fun k e=>by cases e;omega)⟩
theorem ilogok_any (a b k q z:Value) (n:Nd) (w:World) (hr:RdN w a b k q z n) (hl:n.log.length≤1048576) (ht:Tab w):
  Calls Tryz.prog 86 #[NdV a b k q z n] w fun e w'=>e=.returned (.bool n.logP)∧Below w.heap.size w w':=by
 have HE:Hid (n.logP=(decide (n.log.length≤40000)&&((recallB n.log).isSome&&sameR (recR (recallB n.log)) n.r&&(!n.up||decide (n.log.take (recAt (recallB n.log))=n.log))))):=rfl
 obtain⟨w1,hw1⟩:∃w1,w1=w.alloc (.cells (ndA a b k q z n) 56):=⟨_,rfl⟩
 have S1:Hid (StB w1 w.heap.size 56 (ndA a b k q z n)):=by rw[hw1];exact StB.new _ _ _
 have HB:Hid (Below w.heap.size w w1):=by rw[hw1];exact(Below.refl _ _).alloc (Nat.le_refl _) _
 have c1:=irecall_any n.log w1 hl (ht.below HB.out)
 obtain⟨r,hrr⟩:∃r,r=recR (recallB n.log):=⟨_,rfl⟩
 obtain⟨s,hs⟩:∃s,s=n.log.take (recAt (recallB n.log)):=⟨_,rfl⟩
 obtain⟨x,hx⟩:∃x,x=(recallB n.log).isSome:=⟨_,rfl⟩
 rw[←hrr,←hs,←hx]at c1 HE
 obtain⟨y,hy⟩:∃y,y=n.logP:=⟨_,rfl⟩
 rw[←hy]at HE⊢
 clear hrr hs hx hy ht
 have hz:(⟨n.log.toArray⟩:ByteArray).size=n.log.length:=rfl
 obtain⟨ao,ac,rfl⟩:=reads_form hr.ra
 obtain⟨bo,bc,rfl⟩:=reads_form hr.rb
 obtain⟨ko,kc,rfl⟩:=reads_form hr.rk
 obtain⟨qo,qc,rfl⟩:=reads_form hr.rq
 obtain⟨zo,zc,rfl⟩:=reads_form hr.rz
 clear hr
 unfold RV recA S at c1
 unfold ndA S at hw1
 unfold NdV
 conv in ndA (.slice ao n.xs.length ac) _ _ _ _ _=>unfold ndA S
 go_enter Tryz.func86,Tryz.ntmps86
 go_upto_region 1 with fail
 rw[←hw1]
 clear hw1
 have p8:w1.cell? ⟨w.heap.size,8,none⟩=some (.string ⟨n.log.toArray⟩):=S1.out.cell 8 rfl
 by_cases h4:40000<n.log.length
 ·have HX:Hid (y=false):=by rw[Hid,HE.out];simp;omega
  clear HE c1
  go_wp2
  go_ret
  exact⟨ret_bool HX.out.symm,HB.out⟩
 ·have h4':n.log.length≤40000:=by omega
  have HX:Hid (y=(x&&sameR r n.r&&(!n.up||decide (s=n.log)))):=by rw[Hid,HE.out];simp[h4']
  clear HE
  go_wp2_with fail
  refine c1.mono ?_
  rintro e w2 ⟨rfl,b2⟩
  clear c1 p8
  obtain⟨w3,hw3⟩:∃w3,w3=w2.alloc (.cells #[.int .i64 r.e,.int .i64 r.s,.int .i64 r.t,.int .i64 r.n] 50):=⟨_,rfl⟩
  have b3:Below w2.heap.size w2 w3:=by rw[hw3];exact(Below.refl _ _).alloc (Nat.le_refl _) _
  have R3:Hid (StB w3 w2.heap.size 50 (recA r)):=by rw[hw3];exact StB.new _ _ _
  replace S1:Hid (StB w3 w.heap.size 56 (ndA (.slice ao n.xs.length ac) (.slice bo n.ys.length bc) (.slice ko n.h.ks.length kc) (.slice qo n.c.ts.length qc) (.slice zo n.s.ts.length zc) n)):=(S1.out.below b2).below b3
  replace HB:Hid (Below w.heap.size w w3):=(HB.out.trans (b2.mono HB.out.size)).trans (b3.mono (HB.out.trans (b2.mono HB.out.size)).size)
  go_upto_region 4 with fail
  rw[←hw3]
  clear hw3 b2 b3
  have r0:w3.cell? ⟨w2.heap.size,0,none⟩=some (.int .i64 r.e):=R3.out.cell 0 rfl
  have r1:w3.cell? ⟨w2.heap.size,1,none⟩=some (.int .i64 r.s):=R3.out.cell 1 rfl
  have r2:w3.cell? ⟨w2.heap.size,2,none⟩=some (.int .i64 r.t):=R3.out.cell 2 rfl
  have r3:w3.cell? ⟨w2.heap.size,3,none⟩=some (.int .i64 r.n):=R3.out.cell 3 rfl
  have p1:w3.cell? ⟨w.heap.size,1,none⟩=some (.bool n.up):=S1.out.cell 1 rfl
  have p8:w3.cell? ⟨w.heap.size,8,none⟩=some (.string ⟨n.log.toArray⟩):=S1.out.cell 8 rfl
  have p9:w3.cell? ⟨w.heap.size,9,none⟩=some (.int .i64 n.r.e):=S1.out.cell 9 rfl
  have p10:w3.cell? ⟨w.heap.size,10,none⟩=some (.int .i64 n.r.s):=S1.out.cell 10 rfl
  have p11:w3.cell? ⟨w.heap.size,11,none⟩=some (.int .i64 n.r.t):=S1.out.cell 11 rfl
  have p12:w3.cell? ⟨w.heap.size,12,none⟩=some (.int .i64 n.r.n):=S1.out.cell 12 rfl
  cases x with
  |false=>
   go_wp2
   go_ret
   exact⟨ret_bool (by rw[HX.out];simp),HB.out⟩
  |true=>
   cases t0:(r.e==n.r.e)with
   |false=>
    have HS:Hid (sameR r n.r=false):=by
     have:¬r.e=n.r.e:=by simpa using t0
     simp[Hid,sameR,this]
    go_wp2
    go_ret
    exact⟨ret_bool (by rw[HX.out,HS.out];simp),HB.out⟩
   |true=>
    cases t1:(r.s==n.r.s)with
    |false=>
     have HS:Hid (sameR r n.r=false):=by
      have:¬r.s=n.r.s:=by simpa using t1
      simp[Hid,sameR,this]
     go_wp2
     go_ret
     exact⟨ret_bool (by rw[HX.out,HS.out];simp),HB.out⟩
    |true=>
     cases t2:(r.t==n.r.t)with
     |false=>
      have HS:Hid (sameR r n.r=false):=by
       have:¬r.t=n.r.t:=by simpa using t2
       simp[Hid,sameR,this]
      go_wp2
      go_ret
      exact⟨ret_bool (by rw[HX.out,HS.out];simp),HB.out⟩
     |true=>
      cases t3:(r.n==n.r.n)with
      |false=>
       have HS:Hid (sameR r n.r=false):=by
        have:¬r.n=n.r.n:=by simpa using t3
        simp[Hid,sameR,this]
       go_wp2
       go_ret
       exact⟨ret_bool (by rw[HX.out,HS.out];simp),HB.out⟩
      |true=>
       have HS:Hid (sameR r n.r=true):=by
        simp only[beq_iff_eq]at t0 t1 t2 t3
        simp[Hid,sameR,t0,t1,t2,t3]
       cases hu:n.up with
       |false=>
        rw[hu]at p1
        have HU:Hid (n.up=false):=hu
        clear hu
        go_wp2
        go_ret
        exact⟨ret_bool (by rw[HX.out,HS.out,HU.out];simp),HB.out⟩
       |true=>
        rw[hu]at p1
        have HU:Hid (n.up=true):=hu
        clear hu
        cases tl:(s==n.log)with
        |false=>
         have HV:Hid (decide (s=n.log)=false):=by
          have:¬s=n.log:=by simpa using tl
          simp[Hid,this]
         go_wp2
         go_ret
         exact⟨ret_bool (by rw[HX.out,HS.out,HU.out,HV.out];simp),HB.out⟩
        |true=>
         have HV:Hid (decide (s=n.log)=true):=by
          have:s=n.log:=by simpa using tl
          simp[Hid,this]
         go_wp2
         go_ret
         exact⟨ret_bool (by rw[HX.out,HS.out,HU.out,HV.out];simp),HB.out⟩
theorem incopok_any (a b k q z:Value) (n:Nd) (w:World) (hr:RdN w a b k q z n) (hl:SmN n):
  Calls Tryz.prog 87 #[NdV a b k q z n] w fun e w'=>e=.returned (.bool n.copP)∧Below w.heap.size w w':=by
 have HE:Hid (n.copP=(n.c.unused||(n.up&&decide (n.r.s≠3)&&decide (n.c.tr=n.r.t)&&n.c.ok&&decide (n.c.ts.length=n.ys.length)))):=rfl
 obtain⟨w1,hw1⟩:∃w1,w1=w.alloc (.cells (ndA a b k q z n) 56):=⟨_,rfl⟩
 have S1:Hid (StB w1 w.heap.size 56 (ndA a b k q z n)):=by rw[hw1];exact StB.new _ _ _
 have HB:Hid (Below w.heap.size w w1):=by rw[hw1];exact(Below.refl _ _).alloc (Nat.le_refl _) _
 have HR:Hid (∀wx,Below w.heap.size w wx→RdN wx a b k q z n):=fun wx B=>hr.below B
 have C1:Hid (∀wx,Below w.heap.size w wx→Calls Tryz.prog 100 #[CpV q n.c] wx fun e w'=>e=.returned (.bool n.c.unused)∧Below wx.heap.size wx w'):=fun wx B=>iunused_any _ n.c wx (HR.out wx B).rq
 have C2:Hid (∀wx,Below w.heap.size w wx→Calls Tryz.prog 101 #[CpV q n.c] wx fun e w'=>e=.returned (.bool n.c.ok)∧Below wx.heap.size wx w'):=fun wx B=>icopok_any _ n.c wx (HR.out wx B).rq (by have:=hl.lq;omega)
 obtain⟨x,hx⟩:∃x,x=n.c.unused:=⟨_,rfl⟩
 obtain⟨o,ho⟩:∃o,o=n.c.ok:=⟨_,rfl⟩
 obtain⟨y,hy⟩:∃y,y=n.copP:=⟨_,rfl⟩
 rw[←hx,←ho,←hy]at HE
 rw[←hx]at C1
 rw[←ho]at C2
 rw[←hy]
 clear hx ho hy hl
 obtain⟨ao,ac,rfl⟩:=reads_form hr.ra
 obtain⟨bo,bc,rfl⟩:=reads_form hr.rb
 obtain⟨ko,kc,rfl⟩:=reads_form hr.rk
 obtain⟨qo,qc,rfl⟩:=reads_form hr.rq
 obtain⟨zo,zc,rfl⟩:=reads_form hr.rz
 clear hr HR
 unfold CpV cpA at C1 C2
 unfold ndA S at hw1
 unfold NdV
 conv in ndA (.slice ao n.xs.length ac) _ _ _ _ _=>unfold ndA S
 go_enter Tryz.func87,Tryz.ntmps87
 go_upto_region 1 with fail
 rw[←hw1]
 clear hw1
 have p13:w1.cell? ⟨w.heap.size,13,none⟩=some (.int .i64 n.c.tr):=S1.out.cell 13 rfl
 have p14:w1.cell? ⟨w.heap.size,14,none⟩=some (.bool n.c.op):=S1.out.cell 14 rfl
 have p15:w1.cell? ⟨w.heap.size,15,none⟩=some (.int .i64 n.c.di):=S1.out.cell 15 rfl
 have p16:w1.cell? ⟨w.heap.size,16,none⟩=some (.int .i64 n.c.wa):=S1.out.cell 16 rfl
 have p17:w1.cell? ⟨w.heap.size,17,none⟩=some (.slice qo n.c.ts.length qc):=S1.out.cell 17 rfl
 go_wp2_with fail
 refine(C1.out w1 HB.out).mono ?_
 rintro e w2 ⟨rfl,b2⟩
 replace S1:Hid (StB w2 w.heap.size 56 (ndA (.slice ao n.xs.length ac) (.slice bo n.ys.length bc) (.slice ko n.h.ks.length kc) (.slice qo n.c.ts.length qc) (.slice zo n.s.ts.length zc) n)):=S1.out.below b2
 replace HB:Hid (Below w.heap.size w w2):=HB.out.trans (b2.mono HB.out.size)
 clear b2 C1 p13 p14 p15 p16 p17
 cases x with
 |true=>
  clear C2
  go_wp2
  go_ret
  exact⟨ret_bool (by rw[HE.out];rfl),HB.out⟩
 |false=>
  have HX:Hid (y=(n.up&&decide (n.r.s≠3)&&decide (n.c.tr=n.r.t)&&o&&decide (n.c.ts.length=n.ys.length))):=by rw[Hid,HE.out];simp
  clear HE
  have p1:w2.cell? ⟨w.heap.size,1,none⟩=some (.bool n.up):=S1.out.cell 1 rfl
  have p3:w2.cell? ⟨w.heap.size,3,none⟩=some (.slice bo n.ys.length bc):=S1.out.cell 3 rfl
  have p10:w2.cell? ⟨w.heap.size,10,none⟩=some (.int .i64 n.r.s):=S1.out.cell 10 rfl
  have p11:w2.cell? ⟨w.heap.size,11,none⟩=some (.int .i64 n.r.t):=S1.out.cell 11 rfl
  have p13:w2.cell? ⟨w.heap.size,13,none⟩=some (.int .i64 n.c.tr):=S1.out.cell 13 rfl
  have p14:w2.cell? ⟨w.heap.size,14,none⟩=some (.bool n.c.op):=S1.out.cell 14 rfl
  have p15:w2.cell? ⟨w.heap.size,15,none⟩=some (.int .i64 n.c.di):=S1.out.cell 15 rfl
  have p16:w2.cell? ⟨w.heap.size,16,none⟩=some (.int .i64 n.c.wa):=S1.out.cell 16 rfl
  have p17:w2.cell? ⟨w.heap.size,17,none⟩=some (.slice qo n.c.ts.length qc):=S1.out.cell 17 rfl
  cases hu:n.up with
  |false=>
   rw[hu]at p1
   have HU:Hid (n.up=false):=hu
   clear hu C2
   go_wp2
   go_ret
   exact⟨ret_bool (by rw[HX.out,HU.out];simp),HB.out⟩
  |true=>
   rw[hu]at p1
   have HU:Hid (n.up=true):=hu
   clear hu
   cases t1:(n.r.s !=3)with
   |false=>
    have HS:Hid (decide (n.r.s≠3)=false):=by simpa[Hid]using t1
    clear C2
    go_wp2
    go_ret
    exact⟨ret_bool (by rw[HX.out,HS.out];simp),HB.out⟩
   |true=>
    have HS:Hid (decide (n.r.s≠3)=true):=by simpa[Hid]using t1
    cases t2:(n.c.tr==n.r.t)with
    |false=>
     have HT:Hid (decide (n.c.tr=n.r.t)=false):=by simpa[Hid]using t2
     clear C2
     go_wp2
     go_ret
     exact⟨ret_bool (by rw[HX.out,HT.out];simp),HB.out⟩
    |true=>
     have HT:Hid (decide (n.c.tr=n.r.t)=true):=by simpa[Hid]using t2
     go_wp2_with fail
     refine(C2.out w2 HB.out).mono ?_
     rintro e w3 ⟨rfl,b3⟩
     replace S1:Hid (StB w3 w.heap.size 56 (ndA (.slice ao n.xs.length ac) (.slice bo n.ys.length bc) (.slice ko n.h.ks.length kc) (.slice qo n.c.ts.length qc) (.slice zo n.s.ts.length zc) n)):=S1.out.below b3
     replace HB:Hid (Below w.heap.size w w3):=HB.out.trans (b3.mono HB.out.size)
     clear b3 C2 p1 p3 p10 p11 p13 p14 p15 p16 p17
     have p3:w3.cell? ⟨w.heap.size,3,none⟩=some (.slice bo n.ys.length bc):=S1.out.cell 3 rfl
     have p17:w3.cell? ⟨w.heap.size,17,none⟩=some (.slice qo n.c.ts.length qc):=S1.out.cell 17 rfl
     cases o with
     |false=>
      go_wp2
      go_ret
      exact⟨ret_bool (by rw[HX.out];simp),HB.out⟩
     |true=>
      cases t3:((n.c.ts.length:Int)==(n.ys.length:Int))with
      |false=>
       have HL:Hid (decide (n.c.ts.length=n.ys.length)=false):=by simp only[Hid,beq_eq_false_iff_ne,ne_eq,Int.natCast_inj]at t3⊢;simpa using t3
       go_wp2
       go_ret
       exact⟨ret_bool (by rw[HX.out,HL.out];simp),HB.out⟩
      |true=>
       have HL:Hid (decide (n.c.ts.length=n.ys.length)=true):=by simp only[Hid,beq_iff_eq,Int.natCast_inj]at t3⊢;simpa using t3
       go_wp2
       go_ret
       exact⟨ret_bool (by rw[HX.out,HU.out,HS.out,HT.out,HL.out];simp),HB.out⟩
theorem insnkok_any (a b k q z:Value) (n:Nd) (w:World) (hr:RdN w a b k q z n) (hl:SmN n):
  Calls Tryz.prog 88 #[NdV a b k q z n] w fun e w'=>e=.returned (.bool n.snkP)∧Below w.heap.size w w':=by
 have HE:Hid (n.snkP=(n.s.unused||(n.up&&decide (n.r.s=3)&&decide (n.s.tr=n.r.n)&&n.s.ok&&decide (n.s.ts.length=n.ys.length)))):=rfl
 obtain⟨w1,hw1⟩:∃w1,w1=w.alloc (.cells (ndA a b k q z n) 56):=⟨_,rfl⟩
 have S1:Hid (StB w1 w.heap.size 56 (ndA a b k q z n)):=by rw[hw1];exact StB.new _ _ _
 have HB:Hid (Below w.heap.size w w1):=by rw[hw1];exact(Below.refl _ _).alloc (Nat.le_refl _) _
 have HR:Hid (∀wx,Below w.heap.size w wx→RdN wx a b k q z n):=fun wx B=>hr.below B
 have C1:Hid (∀wx,Below w.heap.size w wx→Calls Tryz.prog 102 #[SnV z n.s] wx fun e w'=>e=.returned (.bool n.s.unused)∧Below wx.heap.size wx w'):=fun wx B=>iunusedS_any _ n.s wx (HR.out wx B).rz
 have C2:Hid (∀wx,Below w.heap.size w wx→Calls Tryz.prog 103 #[SnV z n.s] wx fun e w'=>e=.returned (.bool n.s.ok)∧Below wx.heap.size wx w'):=fun wx B=>isinkok_any _ n.s wx (HR.out wx B).rz (by have:=hl.lz;omega)
 obtain⟨x,hx⟩:∃x,x=n.s.unused:=⟨_,rfl⟩
 obtain⟨o,ho⟩:∃o,o=n.s.ok:=⟨_,rfl⟩
 obtain⟨y,hy⟩:∃y,y=n.snkP:=⟨_,rfl⟩
 rw[←hx,←ho,←hy]at HE
 rw[←hx]at C1
 rw[←ho]at C2
 rw[←hy]
 clear hx ho hy hl
 obtain⟨ao,ac,rfl⟩:=reads_form hr.ra
 obtain⟨bo,bc,rfl⟩:=reads_form hr.rb
 obtain⟨ko,kc,rfl⟩:=reads_form hr.rk
 obtain⟨qo,qc,rfl⟩:=reads_form hr.rq
 obtain⟨zo,zc,rfl⟩:=reads_form hr.rz
 clear hr HR
 unfold SnV snA at C1 C2
 unfold ndA S at hw1
 unfold NdV
 conv in ndA (.slice ao n.xs.length ac) _ _ _ _ _=>unfold ndA S
 go_enter Tryz.func88,Tryz.ntmps88
 go_upto_region 1 with fail
 rw[←hw1]
 clear hw1
 have p18:w1.cell? ⟨w.heap.size,18,none⟩=some (.int .i64 n.s.tr):=S1.out.cell 18 rfl
 have p19:w1.cell? ⟨w.heap.size,19,none⟩=some (.slice zo n.s.ts.length zc):=S1.out.cell 19 rfl
 go_wp2_with fail
 refine(C1.out w1 HB.out).mono ?_
 rintro e w2 ⟨rfl,b2⟩
 replace S1:Hid (StB w2 w.heap.size 56 (ndA (.slice ao n.xs.length ac) (.slice bo n.ys.length bc) (.slice ko n.h.ks.length kc) (.slice qo n.c.ts.length qc) (.slice zo n.s.ts.length zc) n)):=S1.out.below b2
 replace HB:Hid (Below w.heap.size w w2):=HB.out.trans (b2.mono HB.out.size)
 clear b2 C1 p18 p19
 cases x with
 |true=>
  clear C2
  go_wp2
  go_ret
  exact⟨ret_bool (by rw[HE.out];rfl),HB.out⟩
 |false=>
  have HX:Hid (y=(n.up&&decide (n.r.s=3)&&decide (n.s.tr=n.r.n)&&o&&decide (n.s.ts.length=n.ys.length))):=by rw[Hid,HE.out];simp
  clear HE
  have p1:w2.cell? ⟨w.heap.size,1,none⟩=some (.bool n.up):=S1.out.cell 1 rfl
  have p3:w2.cell? ⟨w.heap.size,3,none⟩=some (.slice bo n.ys.length bc):=S1.out.cell 3 rfl
  have p10:w2.cell? ⟨w.heap.size,10,none⟩=some (.int .i64 n.r.s):=S1.out.cell 10 rfl
  have p12:w2.cell? ⟨w.heap.size,12,none⟩=some (.int .i64 n.r.n):=S1.out.cell 12 rfl
  have p18:w2.cell? ⟨w.heap.size,18,none⟩=some (.int .i64 n.s.tr):=S1.out.cell 18 rfl
  have p19:w2.cell? ⟨w.heap.size,19,none⟩=some (.slice zo n.s.ts.length zc):=S1.out.cell 19 rfl
  cases hu:n.up with
  |false=>
   rw[hu]at p1
   have HU:Hid (n.up=false):=hu
   clear hu C2
   go_wp2
   go_ret
   exact⟨ret_bool (by rw[HX.out,HU.out];simp),HB.out⟩
  |true=>
   rw[hu]at p1
   have HU:Hid (n.up=true):=hu
   clear hu
   cases t1:(n.r.s==3)with
   |false=>
    have HS:Hid (decide (n.r.s=3)=false):=by simpa[Hid]using t1
    clear C2
    go_wp2
    go_ret
    exact⟨ret_bool (by rw[HX.out,HS.out];simp),HB.out⟩
   |true=>
    have HS:Hid (decide (n.r.s=3)=true):=by simpa[Hid]using t1
    cases t2:(n.s.tr==n.r.n)with
    |false=>
     have HT:Hid (decide (n.s.tr=n.r.n)=false):=by simpa[Hid]using t2
     clear C2
     go_wp2
     go_ret
     exact⟨ret_bool (by rw[HX.out,HT.out];simp),HB.out⟩
    |true=>
     have HT:Hid (decide (n.s.tr=n.r.n)=true):=by simpa[Hid]using t2
     go_wp2_with fail
     refine(C2.out w2 HB.out).mono ?_
     rintro e w3 ⟨rfl,b3⟩
     replace S1:Hid (StB w3 w.heap.size 56 (ndA (.slice ao n.xs.length ac) (.slice bo n.ys.length bc) (.slice ko n.h.ks.length kc) (.slice qo n.c.ts.length qc) (.slice zo n.s.ts.length zc) n)):=S1.out.below b3
     replace HB:Hid (Below w.heap.size w w3):=HB.out.trans (b3.mono HB.out.size)
     clear b3 C2 p1 p3 p10 p12 p18 p19
     have p3:w3.cell? ⟨w.heap.size,3,none⟩=some (.slice bo n.ys.length bc):=S1.out.cell 3 rfl
     have p19:w3.cell? ⟨w.heap.size,19,none⟩=some (.slice zo n.s.ts.length zc):=S1.out.cell 19 rfl
     cases o with
     |false=>
      go_wp2
      go_ret
      exact⟨ret_bool (by rw[HX.out];simp),HB.out⟩
     |true=>
      cases t3:((n.s.ts.length:Int)==(n.ys.length:Int))with
      |false=>
       have HL:Hid (decide (n.s.ts.length=n.ys.length)=false):=by simp only[Hid,beq_eq_false_iff_ne,ne_eq,Int.natCast_inj]at t3⊢;simpa using t3
       go_wp2
       go_ret
       exact⟨ret_bool (by rw[HX.out,HL.out];simp),HB.out⟩
      |true=>
       have HL:Hid (decide (n.s.ts.length=n.ys.length)=true):=by simp only[Hid,beq_iff_eq,Int.natCast_inj]at t3⊢;simpa using t3
       go_wp2
       go_ret
       exact⟨ret_bool (by rw[HX.out,HU.out,HS.out,HT.out,HL.out];simp),HB.out⟩
end Go.Proofs.YtflbcjgkdokhiaaGreatDoor
