/- How the laws measure a house, take it over, compare two, mark one and look at the marks. -/
import Derived.Test.YtflbcjgkdokhiaaGreatDoorM17
import Derived.Test.YtflbcjgkdokhiaaGreatDoorM24
import Derived.Test.YtflbcjgkdokhiaaGreatDoorM16
import Derived.Test.YtflbcjgkdokhiaaGreatDoorM13
set_option maxRecDepth 20000
set_option maxHeartbeats 4000000
namespace Go.Proofs.YtflbcjgkdokhiaaGreatDoor
open Go.ChangeShapes Go.WideShapes Go.ChangeAt Go.RowKit
theorem szNode_any (a b k q z:Value) (n:Nd) (m:Int) (w:World) (hr:RdN w a b k q z n) (hg:n.log.length≤9223372036854775807) (h0:0≤m) (h1:m≤1048576):
  Calls Tryz.prog 22 #[NdV a b k q z n,.int .i64 m] w fun e w'=>e=.returned (.int .i64 (szI m (n.len+n.log.length)))∧Below w.heap.size w w':=by
 have b1:Below w.heap.size w (w.alloc (.cells (ndA a b k q z n) 68)):=(Below.refl _ _).alloc (Nat.le_refl _) _
 have S1:Hid (StB (w.alloc (.cells (ndA a b k q z n) 68)) w.heap.size 68 (ndA a b k q z n)):=StB.new _ _ _
 have HR:Hid (∀wx,Below w.heap.size w wx→RdN wx a b k q z n):=fun wx B=>hr.below B
 have HL:Hid (n.len=n.xs.length+n.ys.length+n.h.ks.length+n.c.ts.length+n.s.ts.length):=rfl
 have hlog:(⟨n.log.toArray⟩:ByteArray).size=n.log.length:=rfl
 obtain⟨t,ht⟩:∃t,t=n.len:=⟨_,rfl⟩
 rw[←ht]at HL⊢
 clear ht
 obtain⟨ao,ac,rfl⟩:=reads_form hr.ra
 obtain⟨bo,bc,rfl⟩:=reads_form hr.rb
 obtain⟨ko,kc,rfl⟩:=reads_form hr.rk
 obtain⟨qo,qc,rfl⟩:=reads_form hr.rq
 obtain⟨zo,zc,rfl⟩:=reads_form hr.rz
 clear hr
 obtain⟨w1,hw1⟩:∃w1,w1=w.alloc (.cells (ndA (.slice ao n.xs.length ac) (.slice bo n.ys.length bc) (.slice ko n.h.ks.length kc) (.slice qo n.c.ts.length qc) (.slice zo n.s.ts.length zc) n) 68):=⟨_,rfl⟩
 rw[←hw1]at S1 b1
 have HB:Hid (Below w.heap.size w w1):=b1
 clear b1
 unfold ndA S at hw1
 unfold NdV
 unfold ndA S
 have C1:Hid _:=fun(wx:World) (b:Below w.heap.size w wx)=>szDisk_any _ _ n.xs n.ys m wx (HR.out wx b).ra (HR.out wx b).rb h0 h1
 go_enter Tryz.func22,Tryz.ntmps22
 go_upto_region 1 with fail
 rw[←hw1]
 clear hw1
 have p2:w1.cell? ⟨w.heap.size,2,none⟩=some (.slice ao n.xs.length ac):=S1.out.cell 2 rfl
 have p3:w1.cell? ⟨w.heap.size,3,none⟩=some (.slice bo n.ys.length bc):=S1.out.cell 3 rfl
 go_wp2_with fail
 refine(C1.out w1 HB.out).mono ?_
 rintro e w2 ⟨rfl,b2⟩
 replace HB:Hid (Below w.heap.size w w2):=HB.out.trans (b2.mono HB.out.size)
 replace S1:Hid (StB w2 w.heap.size 68 (ndA (.slice ao n.xs.length ac) (.slice bo n.ys.length bc) (.slice ko n.h.ks.length kc) (.slice qo n.c.ts.length qc) (.slice zo n.s.ts.length zc) n)):=S1.out.below b2
 clear C1 b2 p2 p3
 by_cases g0:((n.xs.length+n.ys.length:Nat):Int)≤m
 ·have e0:szI m (n.xs.length+n.ys.length)=m-(n.xs.length+n.ys.length:Nat):=by simp only[szI];rw[if_pos g0]
  rw[e0]
  clear e0
  obtain⟨m1,hm1⟩:∃m1:Int,m1=m-(n.xs.length+n.ys.length:Nat):=⟨_,rfl⟩
  rw[←hm1]
  have y0:0≤m1:=by omega
  have yy0:m1≤1048576:=by omega
  have G0:Hid (m1=m-(n.xs.length+n.ys.length:Nat)):=hm1
  clear hm1
  have C1:Hid _:=fun(wx:World) (b:Below w.heap.size w wx)=>szHolding_any _ n.h m1 wx (HR.out wx b).rk (by omega) (by omega)
  have p4:w2.cell? ⟨w.heap.size,4,none⟩=some (.slice ko n.h.ks.length kc):=S1.out.cell 4 rfl
  have p5:w2.cell? ⟨w.heap.size,5,none⟩=some (.int .i64 n.h.kd):=S1.out.cell 5 rfl
  have p6:w2.cell? ⟨w.heap.size,6,none⟩=some (.int .i64 n.h.ho):=S1.out.cell 6 rfl
  have p7:w2.cell? ⟨w.heap.size,7,none⟩=some (.int .i64 n.h.tu):=S1.out.cell 7 rfl
  go_wp2_with fail
  refine(C1.out w2 HB.out).mono ?_
  rintro e w3 ⟨rfl,b2⟩
  replace HB:Hid (Below w.heap.size w w3):=HB.out.trans (b2.mono HB.out.size)
  replace S1:Hid (StB w3 w.heap.size 68 (ndA (.slice ao n.xs.length ac) (.slice bo n.ys.length bc) (.slice ko n.h.ks.length kc) (.slice qo n.c.ts.length qc) (.slice zo n.s.ts.length zc) n)):=S1.out.below b2
  clear C1 b2 p4 p5 p6 p7
  by_cases g1:((n.h.ks.length:Nat):Int)≤m1
  ·have e1:szI m1 (n.h.ks.length)=m1-(n.h.ks.length:Nat):=by simp only[szI];rw[if_pos g1]
   rw[e1]
   clear e1
   obtain⟨m2,hm2⟩:∃m2:Int,m2=m1-(n.h.ks.length:Nat):=⟨_,rfl⟩
   rw[←hm2]
   have y1:0≤m2:=by omega
   have yy1:m2≤1048576:=by omega
   have G1:Hid (m2=m1-(n.h.ks.length:Nat)):=hm2
   clear hm2
   have p8:w3.cell? ⟨w.heap.size,8,none⟩=some (.string ⟨n.log.toArray⟩):=S1.out.cell 8 rfl
   have wl:IntKind.i64.wrap (m2-(n.log.length:Int))=m2-(n.log.length:Int):=by rw[IntKind.wrap_i64];omega
   by_cases g2:((n.log.length:Nat):Int)≤m2
   ·have y2:0≤(m2-(n.log.length:Int)):=by omega
    have yy2:(m2-(n.log.length:Int))≤1048576:=by omega
    have C3:Hid _:=fun(wx:World) (b:Below w.heap.size w wx)=>szCopier_any _ n.c (m2-(n.log.length:Int)) wx (HR.out wx b).rq (by omega) (by omega)
    have p13:w3.cell? ⟨w.heap.size,13,none⟩=some (.int .i64 n.c.tr):=S1.out.cell 13 rfl
    have p14:w3.cell? ⟨w.heap.size,14,none⟩=some (.bool n.c.op):=S1.out.cell 14 rfl
    have p15:w3.cell? ⟨w.heap.size,15,none⟩=some (.int .i64 n.c.di):=S1.out.cell 15 rfl
    have p16:w3.cell? ⟨w.heap.size,16,none⟩=some (.int .i64 n.c.wa):=S1.out.cell 16 rfl
    have p17:w3.cell? ⟨w.heap.size,17,none⟩=some (.slice qo n.c.ts.length qc):=S1.out.cell 17 rfl
    go_wp2_with fail
    refine(C3.out w3 HB.out).mono ?_
    rintro e w4 ⟨rfl,b2⟩
    replace HB:Hid (Below w.heap.size w w4):=HB.out.trans (b2.mono HB.out.size)
    replace S1:Hid (StB w4 w.heap.size 68 (ndA (.slice ao n.xs.length ac) (.slice bo n.ys.length bc) (.slice ko n.h.ks.length kc) (.slice qo n.c.ts.length qc) (.slice zo n.s.ts.length zc) n)):=S1.out.below b2
    clear C3 b2 p13 p14 p15 p16 p17
    by_cases g3:((n.c.ts.length:Nat):Int)≤(m2-(n.log.length:Int))
    ·have e3:szI (m2-(n.log.length:Int)) (n.c.ts.length)=(m2-(n.log.length:Int))-(n.c.ts.length:Nat):=by simp only[szI];rw[if_pos g3]
     rw[e3]
     clear e3
     obtain⟨m4,hm4⟩:∃m4:Int,m4=(m2-(n.log.length:Int))-(n.c.ts.length:Nat):=⟨_,rfl⟩
     rw[←hm4]
     have y3:0≤m4:=by omega
     have yy3:m4≤1048576:=by omega
     have G3:Hid (m4=(m2-(n.log.length:Int))-(n.c.ts.length:Nat)):=hm4
     clear hm4
     have C4:Hid _:=fun(wx:World) (b:Below w.heap.size w wx)=>szSink_any _ n.s m4 wx (HR.out wx b).rz (by omega) (by omega)
     have p18:w4.cell? ⟨w.heap.size,18,none⟩=some (.int .i64 n.s.tr):=S1.out.cell 18 rfl
     have p19:w4.cell? ⟨w.heap.size,19,none⟩=some (.slice zo n.s.ts.length zc):=S1.out.cell 19 rfl
     go_wp2_with fail
     refine(C4.out w4 HB.out).mono ?_
     rintro e w5 ⟨rfl,b2⟩
     replace HB:Hid (Below w.heap.size w w5):=HB.out.trans (b2.mono HB.out.size)
     replace S1:Hid (StB w5 w.heap.size 68 (ndA (.slice ao n.xs.length ac) (.slice bo n.ys.length bc) (.slice ko n.h.ks.length kc) (.slice qo n.c.ts.length qc) (.slice zo n.s.ts.length zc) n)):=S1.out.below b2
     clear C4 b2 p18 p19
     by_cases g4:((n.s.ts.length:Nat):Int)≤m4
     ·have e4:szI m4 (n.s.ts.length)=m4-(n.s.ts.length:Nat):=by simp only[szI];rw[if_pos g4]
      rw[e4]
      clear e4
      obtain⟨m5,hm5⟩:∃m5:Int,m5=m4-(n.s.ts.length:Nat):=⟨_,rfl⟩
      rw[←hm5]
      have y4:0≤m5:=by omega
      have yy4:m5≤1048576:=by omega
      have G4:Hid (m5=m4-(n.s.ts.length:Nat)):=hm5
      clear hm5
      have ZZ:Hid (szI m (t+n.log.length)=m5):=by rw[Hid];have:=HL.out;have:=G0.out;have:=G1.out;have:=G3.out;have:=G4.out;simp only[szI];rw[if_pos (by omega)];omega
      go_wp2
      go_ret
      exact⟨ret_int ZZ.out.symm,HB.out⟩
     ·have ZZ:Hid (szI m (t+n.log.length)= -1):=by rw[Hid];have:=HL.out;have:=G0.out;have:=G1.out;have:=G3.out;simp only[szI];rw[if_neg (by omega)]
      have e4:szI m4 (n.s.ts.length)= -1:=by simp only[szI];rw[if_neg g4]
      rw[e4]
      clear e4
      go_wp2
      go_ret
      exact⟨ret_int ZZ.out.symm,HB.out⟩
    ·have ZZ:Hid (szI m (t+n.log.length)= -1):=by rw[Hid];have:=HL.out;have:=G0.out;have:=G1.out;simp only[szI];rw[if_neg (by omega)]
     have e3:szI (m2-(n.log.length:Int)) (n.c.ts.length)= -1:=by simp only[szI];rw[if_neg g3]
     rw[e3]
     clear e3
     go_wp2
     go_ret
     exact⟨ret_int ZZ.out.symm,HB.out⟩
   ·have ZZ:Hid (szI m (t+n.log.length)= -1):=by rw[Hid];have:=HL.out;have:=G0.out;have:=G1.out;simp only[szI];rw[if_neg (by omega)]
    have y2:(m2-(n.log.length:Int))<0:=by omega
    go_wp2
    go_ret
    exact⟨ret_int ZZ.out.symm,HB.out⟩
  ·have ZZ:Hid (szI m (t+n.log.length)= -1):=by rw[Hid];have:=HL.out;have:=G0.out;simp only[szI];rw[if_neg (by omega)]
   have e1:szI m1 (n.h.ks.length)= -1:=by simp only[szI];rw[if_neg g1]
   rw[e1]
   clear e1
   go_wp2
   go_ret
   exact⟨ret_int ZZ.out.symm,HB.out⟩
 ·have ZZ:Hid (szI m (t+n.log.length)= -1):=by rw[Hid];have:=HL.out;simp only[szI];rw[if_neg (by omega)]
  have e0:szI m (n.xs.length+n.ys.length)= -1:=by simp only[szI];rw[if_neg g0]
  rw[e0]
  clear e0
  go_wp2
  go_ret
  exact⟨ret_int ZZ.out.symm,HB.out⟩
theorem eqNode_any (a b k q z a' b' k' q' z':Value) (n:Nd) (w:World) (hr:RdN w a b k q z n) (hs:RdN w a' b' k' q' z' n) (hl:SmN n):
  Calls Tryz.prog 34 #[NdV a b k q z n,NdV a' b' k' q' z' n] w fun e w'=>e=.returned (.bool true)∧Below w.heap.size w w':=by
 obtain⟨w1,hw1⟩:∃w1,w1=(w.alloc (.cells (ndA a b k q z n) 56)).alloc (.cells (ndA a' b' k' q' z' n) 56):=⟨_,rfl⟩
 have HB:Hid (Below w.heap.size w w1):=by rw[hw1];exact((Below.refl _ _).alloc (Nat.le_refl _) _).alloc (by simp) _
 have S1:Hid (StB w1 w.heap.size 56 (ndA a b k q z n)∧StB w1 (w.heap.size+1) 56 (ndA a' b' k' q' z' n)):=by
  rw[hw1]
  refine⟨(StB.new _ _ _).alloc _,?_⟩
  have:=StB.new (w.alloc (.cells (ndA a b k q z n) 56)) 56 (ndA a' b' k' q' z' n)
  rwa[World.size_alloc]at this
 have HR:Hid (∀wx,Below w.heap.size w wx→RdN wx a b k q z n∧RdN wx a' b' k' q' z' n):=fun wx B=>⟨hr.below B,hs.below B⟩
 obtain⟨la,lb,lk,lq,lz,ll⟩:=hl
 have C1:Hid (∀wx,Below w.heap.size w wx→Calls Tryz.prog 62 #[.agg #[a,b],.agg #[a',b']] wx fun e w'=>e=.returned (.bool true)∧Below wx.heap.size wx w'):=fun wx B=>eqDisk_any _ _ _ _ n.xs n.ys wx (HR.out wx B).1.ra (HR.out wx B).1.rb (HR.out wx B).2.ra (HR.out wx B).2.rb (by omega) (by omega)
 have C2:Hid (∀wx,Below w.heap.size w wx→Calls Tryz.prog 63 #[HV k n.h,HV k' n.h] wx fun e w'=>e=.returned (.bool true)∧Below wx.heap.size wx w'):=fun wx B=>eqHolding_any _ _ n.h wx (HR.out wx B).1.rk (HR.out wx B).2.rk (by omega)
 have C3:Hid (∀wx,Calls Tryz.prog 64 #[RV n.r,RV n.r] wx fun e w'=>e=.returned (.bool true)∧Below wx.heap.size wx w'):=fun wx=>by
  have:=eqRecord_any n.r n.r wx
  rwa[show sameR n.r n.r=true by simp[sameR]]at this
 have C4:Hid (∀wx,Below w.heap.size w wx→Calls Tryz.prog 65 #[CpV q n.c,CpV q' n.c] wx fun e w'=>e=.returned (.bool true)∧Below wx.heap.size wx w'):=fun wx B=>eqCopier_any _ _ n.c wx (HR.out wx B).1.rq (HR.out wx B).2.rq (by omega)
 have C5:Hid (∀wx,Below w.heap.size w wx→Calls Tryz.prog 66 #[SnV z n.s,SnV z' n.s] wx fun e w'=>e=.returned (.bool true)∧Below wx.heap.size wx w'):=fun wx B=>eqSink_any _ _ n.s wx (HR.out wx B).1.rz (HR.out wx B).2.rz (by omega)
 obtain⟨ao,ac,rfl⟩:=reads_form hr.ra
 obtain⟨bo,bc,rfl⟩:=reads_form hr.rb
 obtain⟨ko,kc,rfl⟩:=reads_form hr.rk
 obtain⟨qo,qc,rfl⟩:=reads_form hr.rq
 obtain⟨zo,zc,rfl⟩:=reads_form hr.rz
 obtain⟨ap,ad,rfl⟩:=reads_form hs.ra
 obtain⟨bp,bd,rfl⟩:=reads_form hs.rb
 obtain⟨kp,kd,rfl⟩:=reads_form hs.rk
 obtain⟨qp,qd,rfl⟩:=reads_form hs.rq
 obtain⟨zp,zd,rfl⟩:=reads_form hs.rz
 clear hr hs HR la lb lk lq lz ll
 unfold HV hdA at C2
 unfold RV recA at C3
 unfold CpV cpA at C4
 unfold SnV snA at C5
 have e1:∀x:Int,(x==x)=true:=by simp
 have e2:∀x:Bool,(x==x)=true:=by simp
 have e3:(n.log==n.log)=true:=by simp
 unfold ndA S at hw1
 unfold NdV
 unfold ndA S
 go_enter Tryz.func34,Tryz.ntmps34
 go_upto_region 1 with fail
 rw[←hw1]
 clear hw1
 have p0:w1.cell? ⟨w.heap.size,0,none⟩=some (.int .i64 n.id):=S1.out.1.cell 0 rfl
 have p1:w1.cell? ⟨w.heap.size,1,none⟩=some (.bool n.up):=S1.out.1.cell 1 rfl
 have p2:w1.cell? ⟨w.heap.size,2,none⟩=some (.slice ao n.xs.length ac):=S1.out.1.cell 2 rfl
 have p3:w1.cell? ⟨w.heap.size,3,none⟩=some (.slice bo n.ys.length bc):=S1.out.1.cell 3 rfl
 have s0:w1.cell? ⟨w.heap.size+1,0,none⟩=some (.int .i64 n.id):=S1.out.2.cell 0 rfl
 have s1:w1.cell? ⟨w.heap.size+1,1,none⟩=some (.bool n.up):=S1.out.2.cell 1 rfl
 have s2:w1.cell? ⟨w.heap.size+1,2,none⟩=some (.slice ap n.xs.length ad):=S1.out.2.cell 2 rfl
 have s3:w1.cell? ⟨w.heap.size+1,3,none⟩=some (.slice bp n.ys.length bd):=S1.out.2.cell 3 rfl
 go_wp2_with fail
 refine(C1.out w1 HB.out).mono ?_
 rintro e w2 ⟨rfl,b2⟩
 replace HB:Hid (Below w.heap.size w w2):=HB.out.trans (b2.mono HB.out.size)
 replace S1:Hid (StB w2 w.heap.size 56 (ndA (.slice ao n.xs.length ac) (.slice bo n.ys.length bc) (.slice ko n.h.ks.length kc) (.slice qo n.c.ts.length qc) (.slice zo n.s.ts.length zc) n)∧StB w2 (w.heap.size+1) 56 (ndA (.slice ap n.xs.length ad) (.slice bp n.ys.length bd) (.slice kp n.h.ks.length kd) (.slice qp n.c.ts.length qd) (.slice zp n.s.ts.length zd) n)):=⟨S1.out.1.below b2,S1.out.2.below b2⟩
 clear C1 b2 p0 s0 p1 s1 p2 s2 p3 s3
 have p4:w2.cell? ⟨w.heap.size,4,none⟩=some (.slice ko n.h.ks.length kc):=S1.out.1.cell 4 rfl
 have p5:w2.cell? ⟨w.heap.size,5,none⟩=some (.int .i64 n.h.kd):=S1.out.1.cell 5 rfl
 have p6:w2.cell? ⟨w.heap.size,6,none⟩=some (.int .i64 n.h.ho):=S1.out.1.cell 6 rfl
 have p7:w2.cell? ⟨w.heap.size,7,none⟩=some (.int .i64 n.h.tu):=S1.out.1.cell 7 rfl
 have s4:w2.cell? ⟨w.heap.size+1,4,none⟩=some (.slice kp n.h.ks.length kd):=S1.out.2.cell 4 rfl
 have s5:w2.cell? ⟨w.heap.size+1,5,none⟩=some (.int .i64 n.h.kd):=S1.out.2.cell 5 rfl
 have s6:w2.cell? ⟨w.heap.size+1,6,none⟩=some (.int .i64 n.h.ho):=S1.out.2.cell 6 rfl
 have s7:w2.cell? ⟨w.heap.size+1,7,none⟩=some (.int .i64 n.h.tu):=S1.out.2.cell 7 rfl
 go_wp2_with fail
 refine(C2.out w2 HB.out).mono ?_
 rintro e w3 ⟨rfl,b2⟩
 replace HB:Hid (Below w.heap.size w w3):=HB.out.trans (b2.mono HB.out.size)
 replace S1:Hid (StB w3 w.heap.size 56 (ndA (.slice ao n.xs.length ac) (.slice bo n.ys.length bc) (.slice ko n.h.ks.length kc) (.slice qo n.c.ts.length qc) (.slice zo n.s.ts.length zc) n)∧StB w3 (w.heap.size+1) 56 (ndA (.slice ap n.xs.length ad) (.slice bp n.ys.length bd) (.slice kp n.h.ks.length kd) (.slice qp n.c.ts.length qd) (.slice zp n.s.ts.length zd) n)):=⟨S1.out.1.below b2,S1.out.2.below b2⟩
 clear C2 b2 p4 s4 p5 s5 p6 s6 p7 s7
 have p8:w3.cell? ⟨w.heap.size,8,none⟩=some (.string ⟨n.log.toArray⟩):=S1.out.1.cell 8 rfl
 have p9:w3.cell? ⟨w.heap.size,9,none⟩=some (.int .i64 n.r.e):=S1.out.1.cell 9 rfl
 have p10:w3.cell? ⟨w.heap.size,10,none⟩=some (.int .i64 n.r.s):=S1.out.1.cell 10 rfl
 have p11:w3.cell? ⟨w.heap.size,11,none⟩=some (.int .i64 n.r.t):=S1.out.1.cell 11 rfl
 have p12:w3.cell? ⟨w.heap.size,12,none⟩=some (.int .i64 n.r.n):=S1.out.1.cell 12 rfl
 have s8:w3.cell? ⟨w.heap.size+1,8,none⟩=some (.string ⟨n.log.toArray⟩):=S1.out.2.cell 8 rfl
 have s9:w3.cell? ⟨w.heap.size+1,9,none⟩=some (.int .i64 n.r.e):=S1.out.2.cell 9 rfl
 have s10:w3.cell? ⟨w.heap.size+1,10,none⟩=some (.int .i64 n.r.s):=S1.out.2.cell 10 rfl
 have s11:w3.cell? ⟨w.heap.size+1,11,none⟩=some (.int .i64 n.r.t):=S1.out.2.cell 11 rfl
 have s12:w3.cell? ⟨w.heap.size+1,12,none⟩=some (.int .i64 n.r.n):=S1.out.2.cell 12 rfl
 go_wp2_with fail
 refine(C3.out w3).mono ?_
 rintro e w4 ⟨rfl,b2⟩
 replace HB:Hid (Below w.heap.size w w4):=HB.out.trans (b2.mono HB.out.size)
 replace S1:Hid (StB w4 w.heap.size 56 (ndA (.slice ao n.xs.length ac) (.slice bo n.ys.length bc) (.slice ko n.h.ks.length kc) (.slice qo n.c.ts.length qc) (.slice zo n.s.ts.length zc) n)∧StB w4 (w.heap.size+1) 56 (ndA (.slice ap n.xs.length ad) (.slice bp n.ys.length bd) (.slice kp n.h.ks.length kd) (.slice qp n.c.ts.length qd) (.slice zp n.s.ts.length zd) n)):=⟨S1.out.1.below b2,S1.out.2.below b2⟩
 clear C3 b2 p8 s8 p9 s9 p10 s10 p11 s11 p12 s12
 have p13:w4.cell? ⟨w.heap.size,13,none⟩=some (.int .i64 n.c.tr):=S1.out.1.cell 13 rfl
 have p14:w4.cell? ⟨w.heap.size,14,none⟩=some (.bool n.c.op):=S1.out.1.cell 14 rfl
 have p15:w4.cell? ⟨w.heap.size,15,none⟩=some (.int .i64 n.c.di):=S1.out.1.cell 15 rfl
 have p16:w4.cell? ⟨w.heap.size,16,none⟩=some (.int .i64 n.c.wa):=S1.out.1.cell 16 rfl
 have p17:w4.cell? ⟨w.heap.size,17,none⟩=some (.slice qo n.c.ts.length qc):=S1.out.1.cell 17 rfl
 have s13:w4.cell? ⟨w.heap.size+1,13,none⟩=some (.int .i64 n.c.tr):=S1.out.2.cell 13 rfl
 have s14:w4.cell? ⟨w.heap.size+1,14,none⟩=some (.bool n.c.op):=S1.out.2.cell 14 rfl
 have s15:w4.cell? ⟨w.heap.size+1,15,none⟩=some (.int .i64 n.c.di):=S1.out.2.cell 15 rfl
 have s16:w4.cell? ⟨w.heap.size+1,16,none⟩=some (.int .i64 n.c.wa):=S1.out.2.cell 16 rfl
 have s17:w4.cell? ⟨w.heap.size+1,17,none⟩=some (.slice qp n.c.ts.length qd):=S1.out.2.cell 17 rfl
 go_wp2_with fail
 refine(C4.out w4 HB.out).mono ?_
 rintro e w5 ⟨rfl,b2⟩
 replace HB:Hid (Below w.heap.size w w5):=HB.out.trans (b2.mono HB.out.size)
 replace S1:Hid (StB w5 w.heap.size 56 (ndA (.slice ao n.xs.length ac) (.slice bo n.ys.length bc) (.slice ko n.h.ks.length kc) (.slice qo n.c.ts.length qc) (.slice zo n.s.ts.length zc) n)∧StB w5 (w.heap.size+1) 56 (ndA (.slice ap n.xs.length ad) (.slice bp n.ys.length bd) (.slice kp n.h.ks.length kd) (.slice qp n.c.ts.length qd) (.slice zp n.s.ts.length zd) n)):=⟨S1.out.1.below b2,S1.out.2.below b2⟩
 clear C4 b2 p13 s13 p14 s14 p15 s15 p16 s16 p17 s17
 have p18:w5.cell? ⟨w.heap.size,18,none⟩=some (.int .i64 n.s.tr):=S1.out.1.cell 18 rfl
 have p19:w5.cell? ⟨w.heap.size,19,none⟩=some (.slice zo n.s.ts.length zc):=S1.out.1.cell 19 rfl
 have s18:w5.cell? ⟨w.heap.size+1,18,none⟩=some (.int .i64 n.s.tr):=S1.out.2.cell 18 rfl
 have s19:w5.cell? ⟨w.heap.size+1,19,none⟩=some (.slice zp n.s.ts.length zd):=S1.out.2.cell 19 rfl
 go_wp2_with fail
 refine(C5.out w5 HB.out).mono ?_
 rintro e w6 ⟨rfl,b2⟩
 replace HB:Hid (Below w.heap.size w w6):=HB.out.trans (b2.mono HB.out.size)
 replace S1:Hid (StB w6 w.heap.size 56 (ndA (.slice ao n.xs.length ac) (.slice bo n.ys.length bc) (.slice ko n.h.ks.length kc) (.slice qo n.c.ts.length qc) (.slice zo n.s.ts.length zc) n)∧StB w6 (w.heap.size+1) 56 (ndA (.slice ap n.xs.length ad) (.slice bp n.ys.length bd) (.slice kp n.h.ks.length kd) (.slice qp n.c.ts.length qd) (.slice zp n.s.ts.length zd) n)):=⟨S1.out.1.below b2,S1.out.2.below b2⟩
 clear C5 b2 p18 s18 p19 s19
 go_wp2
 go_ret
 exact⟨rfl,HB.out⟩
end Go.Proofs.YtflbcjgkdokhiaaGreatDoor
