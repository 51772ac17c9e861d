/- What the program's actions answer is what is said of holdings as plain lists and numbers. -/
import Derived.Test.YthldeiojlllkdaaGreatDoorM1
import Derived.Test.YthldeiojlllkdaaGreatDoorM29
import Derived.Test.YthldeiojlllkdaaGreatDoorM25
import Derived.Test.YthldeiojlllkdaaGreatDoorM21
import Derived.Test.YthldeiojlllkdaaGreatDoorM12
import Derived.Deep.DeepCutAuto
set_option maxRecDepth 20000
set_option maxHeartbeats 1000000
namespace Go.Proofs.YthldeiojlllkdaaGreatDoor
open Go.ChangeShapes Go.WideShapes Go.ChangeAt Go.RowKit
section
open Go.RowKit
theorem xN {h:Hd} (e:h.mid=true) (h0:h.kd=0):h.ho= -1:=by
 unfold Hd.mid at e;rw[if_pos h0]at e;simpa using e
theorem ro {h:Hd} (e:h.mid=true) (h0:h.kd≠0) (ha:bY h.kd=true):h.ho= -1/\eD h.ks=true:=by
 unfold Hd.mid at e;rw[if_neg h0,if_pos ha]at e;simpa using e
theorem xO {h:Hd} (e:h.mid=true) (h0:h.kd≠0) (ha:bY h.kd=false):kiI h.kd=true/\(0<=h.ho/\h.ho<=3)/\h.ks.getD h.ho.toNat 0≠0:=by
 unfold Hd.mid at e;rw[if_neg h0,ha]at e;simp only[Bool.false_eq_true,if_false,Bool.and_eq_true]at e;exact⟨e.1.1,(aD _ _ _).1 e.1.2,by simpa[dV]using e.2⟩
theorem yq {ks:List Int} (hl:ks.length=4) {j:Nat} (hj:j<4) (x:Int):dw (d9 (KF ks) j x)=ks.set j x:=by
 match ks,hl with
 |[a,b,c,d],_=>
  obtain rfl|rfl|rfl|rfl:j=0∨j=1∨j=2∨j=3:=by omega
  all_goals rfl
theorem yr (f:Nat->Int):jG f=eD (dw f):=by
 simp[jG,eD,dw,Bool.or_assoc,bne,decide_not];rfl
theorem Ah {ks:List Int} {i m:Nat} {x:Int} (hm:m<ks.length) (hn:m≠i) (h:ks.getD m 0≠0):eD (ks.set i x)=true:=by
 refine rJ _ m (by simpa using hm) ?_;simp only[List.getD_eq_getElem?_getD]at h⊢;rw[List.getElem?_set_ne (by omega)];exact h
theorem pu {ks:List Int} {i:Nat} {x:Int} (hi:i<ks.length) (h:x≠0):eD (ks.set i x)=true:=by
 refine rJ _ i (by simpa using hi) ?_;simp only[List.getD_eq_getElem?_getD,List.getElem?_set_self hi];exact h
theorem yt (h:Hd) (i key:Int):
  lQ h.ok (inI i 0 3&&inI key 0 9999) false h ⟨dw (d9 (KF h.ks) i.toNat key),if jF (d9 (KF h.ks) i.toNat key) h.kd h.ho then h.kd else 0,if jF (d9 (KF h.ks) i.toNat key) h.kd h.ho then h.ho else-1,cL h.tu⟩=h.register i key:=by
 unfold lQ Hd.register;cases ho:h.ok
 ·simp
 cases hi:inI i 0 3
 ·simp
 cases hk:inI key 0 9999
 ·simp
 obtain⟨hl, -, -,hm⟩:=Hd.ok_all ho;have hi':=(aD _ _ _).1 hi;have h4:i.toNat<4:=by omega
 simp only[Bool.and_self,if_true,Bool.false_eq_true,if_false]
 congr 1
 unfold Hd.regd;have e1:dw (d9 (KF h.ks) i.toNat key)=h.ks.set i.toNat key:=yq hl h4 key;have e2:jG (d9 (KF h.ks) i.toNat key)=eD (h.ks.set i.toNat key):=by rw[yr,e1]
 rw[e1];unfold jF;rw[e2];by_cases k0:h.kd=0
 ·have:=xN hm k0
  rw[if_pos k0];split<;>simp[Hd.free,Hd.turn,Hd.key,k0,this]
 ·rw[if_neg k0]
  cases ha:bY h.kd
  ·obtain⟨m1,m2,m3⟩:=xO hm k0 ha
   have m4:inI h.ho 0 3=true:=(aD _ _ _).2 m2;simp only[Bool.false_eq_true,if_false,m1,m4,Bool.true_and];by_cases e:h.ho=i
   ·have:d9 (KF h.ks) i.toNat key h.ho.toNat=key:=by simp[d9,e]
    rw[this];by_cases kz:key=0
    ·simp[kz,e,Hd.free,Hd.turn,Hd.key]
    ·simp[kz,Hd.turn,Hd.key]
   ·have n1:h.ho.toNat≠i.toNat:=by omega
    have:d9 (KF h.ks) i.toNat key h.ho.toNat=h.ks.getD h.ho.toNat 0:=by simp[d9,n1,KF]
    rw[this];have a1:eD (h.ks.set i.toNat key)=true:=Ah (by omega) n1 m3;simp only[a1,e,Bool.true_eq_false,or_self,and_false,if_false];simp only[ne_eq,m3,not_false_eq_true,decide_true,if_true];rfl
  ·obtain⟨m1,m2⟩:=ro hm k0 ha
   have n2:¬((-1:Int)=i):=by omega
   simp only[m1,decide_true,Bool.true_and,if_true];by_cases kz:key=0
   ·subst kz
    cases hb:eD (h.ks.set i.toNat 0)<;>simp[n2,Hd.free,Hd.turn,Hd.key,m1]
   ·have hb:eD (h.ks.set i.toNat key)=true:=pu (by omega) kz
    simp[kz,hb,Hd.turn,Hd.key,m1]
theorem ny (h:Hd) (i:Int) (hi:inI i 0 3=true):lr (KF h.ks) i= !regI h.ks i:=by
 unfold lr dV KF;rw[hi,Bool.true_and]
theorem Dx (h:Hd) (i:Int):lQ h.ok (inI i 0 3&&true) (lr (KF h.ks) i) h ⟨dw (fun _=>0),0, -1,cL h.tu⟩=h.clear i:=by
 unfold lQ Hd.clear;cases ho:h.ok
 ·simp
 cases hi:inI i 0 3
 ·simp
 rw[ny h i hi];unfold Hd.clrd;cases hr:dV h.ks i
 ·simp[told]
 ·simp[told,dw]
theorem Ai (h:Hd) (i:Int):lQ h.ok (inI i 0 3&&true) (lr (KF h.ks) i) h ⟨dw (KF h.ks),if eE (KF h.ks) h.kd h.ho i then 0 else h.kd,if eE (KF h.ks) h.kd h.ho i then-1 else h.ho,h.tu⟩=h.release i:=by
 unfold lQ Hd.release;cases ho:h.ok
 ·simp
 cases hi:inI i 0 3
 ·simp
 rw[ny h i hi,ql ho,hi,ot (Hd.ok_all ho).1];unfold Hd.reld;cases hr:dV h.ks i
 ·simp[told]
 ·cases hh:h.holds i
  ·simp[told]
  ·simp[told,Hd.free]
theorem Aj (h:Hd) (i k:Int):lQ h.ok (inI i 0 3&&kiI k) (l6 (KF h.ks) h.kd h.ho i k) h ⟨dw (KF h.ks),k,if bY k then-1 else i,h.tu⟩=h.reserve i k:=by
 unfold lQ Hd.reserve;cases ho:h.ok
 ·simp
 cases hi:inI i 0 3
 ·simp
 cases hk:kiI k
 ·simp
 obtain⟨hl, -, -,hm⟩:=Hd.ok_all ho;have hi':=(aD _ _ _).1 hi;unfold l6;rw[ny h i hi,ot hl];unfold Hd.resd eE;rw[hi,show decide (KF h.ks i.toNat≠0)=dV h.ks i from rfl];cases hr:dV h.ks i
 ·simp[told]
 ·simp only[Bool.not_true,Bool.false_or,Bool.true_eq_false,if_false,Bool.and_self,if_true,Bool.true_and]
  by_cases k0:h.kd=0
  ·simp[k0,told,Hd.take]
  ·rw[if_neg k0]
   by_cases e:h.kd=k
   ·subst e
    cases ha:bY h.kd
    ·by_cases eo:h.ho=i
     ·subst eo
      simp[told]
     ·have:¬i=h.ho:=fun c=>eo c.symm
      simp[k0,eo,told,this]
    ·have m1:=(ro hm k0 ha).1
     rw[<-m1];simp[told]
   ·simp[k0,e,told]
theorem B9 {ks:List Int} (hl:ks.length=4) {i:Nat} (hi:i<4) (key:Int):dw (fY (KF ks) i key 4)=cz ks i key 4:=by
 match ks,hl with
 |[a,b,c,d],_=>
  obtain rfl|rfl|rfl|rfl:i=0∨i=1∨i=2∨i=3:=by omega
  all_goals
   simp only[dw,fY,KF,cz,List.getD_cons_zero,List.getD_cons_succ];by_cases ha:a=key<;>by_cases hb:b=key<;>by_cases hc:c=key<;>by_cases hd:d=key<;>simp[ha,hb,hc,hd]
theorem nez (x:Int):(x !=0)= !decide (x=0):=rfl
theorem Ei {ks:List Int} (hl:ks.length=4) {i:Nat} (hi:i<4) (key:Int):jG (d9 (fY (KF ks) i key 4) i 0)=jV ks i key 4:=by
 match ks,hl with
 |[a,b,c,d],_=>
  obtain rfl|rfl|rfl|rfl:i=0∨i=1∨i=2∨i=3:=by omega
  all_goals
   simp only[jG,d9,fY,KF,jV,List.getD_cons_zero,List.getD_cons_succ];by_cases ha:a=key<;>by_cases hb:b=key<;>by_cases hc:c=key<;>by_cases hd:d=key<;>simp[ha,hb,hc,hd,nez]
theorem Ej (ks:List Int) (key:Int):∀j,lu (KF ks) key j=has ks key j
 |0=>rfl
 |j+1=>by rw[lu,has,Ej ks key j];rfl
theorem Dy {h:Hd} (hm:h.mid=true) (key:Int) (hk:1<=key):(iH (KF h.ks) h.ho==key)=h.alone key:=by
 unfold iH Hd.alone;by_cases k0:h.kd=0
 ·rw[xN hm k0]
  have:¬(0=key):=by omega
  simp[inI,k0,this]
 ·cases ha:bY h.kd
  ·obtain⟨m1,m2,m3⟩:=xO hm k0 ha
   rw[(aD _ _ _).2 m2];simp only[if_true,k0,ne_eq,not_false_eq_true,decide_true,Bool.true_and,Bool.not_false];rfl
  ·obtain⟨m1,m2⟩:=ro hm k0 ha
   rw[m1];have:¬(0=key):=by omega
   simp[inI,this]
theorem Ak (h:Hd) (i key k:Int):
  lQ h.ok (inI i 0 3&&(inI key 1 9999&&kiI k)) (l9 (KF h.ks) i key) h ⟨dw (fY (KF h.ks) i.toNat key 4),if gH (KF h.ks) h.kd h.ho i key then k else h.kd,if gH (KF h.ks) h.kd h.ho i key then(if bY k then-1 else i)else h.ho,cL h.tu⟩=h.preempt i key k:=by
 unfold lQ Hd.preempt;cases ho:h.ok
 ·simp
 cases hi:inI i 0 3
 ·simp
 cases hk:inI key 1 9999
 ·simp
 cases hd:kiI k
 ·simp
 obtain⟨hl, -, -,hm⟩:=Hd.ok_all ho;have hi':=(aD _ _ _).1 hi;have hk':=(aD _ _ _).1 hk;have h4:i.toNat<4:=by omega
 unfold l9 gH;rw[ny h i hi,Ej,B9 hl h4,Ei hl h4,Dy hm key hk'.1];unfold Hd.pred;simp only[Bool.and_self,if_true];cases hr:dV h.ks i
 ·simp[told]
 ·cases hh:has h.ks key 4
  ·simp[told]
  ·simp only[Bool.not_true,Bool.or_self,Bool.false_eq_true,if_false,Bool.and_self,Bool.true_eq_false]
   cases hq:(h.alone key||(bY h.kd&& !more h.ks i.toNat key 4))
   ·simp[told,Hd.turn]
   ·simp[told,Hd.turn,Hd.take]
end
def Ent (n:FuncId):Prop:=∀args wx,(callFunc n args).run Tryz.prog wx=.ok (.enter n args) wx
theorem nf:Ent 272:=by intro args wx;kernel_rfl
theorem iF:Ent 273:=by intro args wx;kernel_rfl
theorem lM:Ent 274:=by intro args wx;kernel_rfl
theorem kY:Ent 275:=by intro args wx;kernel_rfl
theorem lN:Ent 276:=by intro args wx;kernel_rfl
theorem ng:Ent 277:=by intro args wx;kernel_rfl
theorem hU:Ent 278:=by intro args wx;kernel_rfl
theorem fT:Ent 279:=by intro args wx;kernel_rfl
theorem py:Ent 280:=by intro args wx;kernel_rfl
theorem lO:Ent 281:=by intro args wx;kernel_rfl
theorem iv:Ent 282:=by intro args wx;kernel_rfl
theorem iS:Ent 283:=by intro args wx;kernel_rfl
theorem ki:Ent 284:=by intro args wx;kernel_rfl
theorem jr {h:Hd} (e:h.ok=true):0<=h.tu/\h.tu<=1000000000:=(Hd.ok_all e).2.1
theorem nB {i:Int} (e:inI i 0 3=true):0<=i/\i<4:=by have:=(aD _ _ _).1 e;omega
theorem pz (v:Value) (h:Hd) (i key:Int) (w:World) (hr:ag w v h.ks) (hl:h.ks.length<=1099511627776):
  Calls Tryz.prog 234 #[HV v h,.int .i64 i,.int .i64 key] w (Ans w (h.register i key)):=by
 obtain⟨ao,cap,rfl⟩:=aa hr;obtain⟨w1,hw1⟩:=eX ((w.alloc (.cells (hdA (.slice ao h.ks.length cap) h) 37)).alloc (.cells #[.slice none 0 0,.int .i64 0,.int .i64 0,.int .i64 0] 37))
 have HB:Hid (Bx w w1 (.slice ao h.ks.length cap) h):=by rw[hw1];exact Bx.start hr
 have c:=gE 0 272 273 274 Em (.slice ao h.ks.length cap) h i key 0 w1 HB.out.2.2.2.2 hl (inI key 0 9999) (false) (d9 (KF h.ks) i.toNat key) (if jF (d9 (KF h.ks) i.toNat key) h.kd h.ho then h.kd else 0) (if jF (d9 (KF h.ks) i.toNat key) h.kd h.ho then h.ho else-1) (cL h.tu) nf iF lM
  (fun wx=>uj i key 0 wx) (fun _ _ _ wx=>ul (KF h.ks) h.kd h.ho h.tu i key 0 wx) (fun ok hi _ _ wx=>sa (KF h.ks) h.kd h.ho h.tu i key 0 wx (jr ok).1 (jr ok).2 (nB hi).1 (nB hi).2)
 rw[yt]at c;obtain⟨r,HE⟩:∃r,Hid (r=h.register i key):=⟨_,rfl⟩
 rw[<-HE.out]at c⊢;clear HE hr hl;obtain⟨z,t⟩:=r;unfold Ans HV wiA at c;dsimp only at c;unfold hdA at hw1;unfold HV;conv in hdA (.slice ao h.ks.length cap) h=>unfold hdA
 have hs:=HB.out.2.2.2.1;go_enter Tryz.func234,Tryz.ntmps234;go_upto_region 1 with fail
 rw[<-hw1];clear hw1;go_wp2_with (first|(refine ah Tryz.isH rfl _ rfl w.heap.size rfl (hdA (.slice ao h.ks.length cap) h) rfl HB.out.1 ?_)|(go_at_call 256;refine c.mono ?_;rintro e w2 ⟨u,rfl,o2,b2⟩;have HB2:Hid (Bx w w2 (.slice ao h.ks.length cap) h):=HB.out.next b2;have O2:Hid (Own w2 w1.heap.size u z.ks):=o2;have ho1:=dq o2.reads;clear b2 o2)|(refine ae Tryz.isH rfl _ _ rfl (w.heap.size+1) (hdA u z) #[.slice none 0 0,.int .i64 0,.int .i64 0,.int .i64 0] rfl rfl rfl rfl (dB _ ho1) HB2.out.2.1 ?_;intro we se ge))
 refine bodyPost_ret (bE Tryz.isH rfl _ _ (w.heap.size+1) _ _ rfl rfl rfl se) rfl ?_;exact⟨u,rfl,(O2.out.keptLt ge (by omega)).mono (by omega),HB2.out.2.2.1.grown ge HB2.out.2.2.1.size (fun x e=>by cases e;omega)⟩
theorem rK (v:Value) (h:Hd) (i k:Int) (w:World) (hr:ag w v h.ks) (hl:h.ks.length<=1099511627776):
  Calls Tryz.prog 235 #[HV v h,.int .i64 i,.int .i64 k] w (Ans w (h.reserve i k)):=by
 obtain⟨ao,cap,rfl⟩:=aa hr;obtain⟨w1,hw1⟩:=eX ((w.alloc (.cells (hdA (.slice ao h.ks.length cap) h) 37)).alloc (.cells #[.slice none 0 0,.int .i64 0,.int .i64 0,.int .i64 0] 37))
 have HB:Hid (Bx w w1 (.slice ao h.ks.length cap) h):=by rw[hw1];exact Bx.start hr
 have c:=gE 1 275 276 277 En (.slice ao h.ks.length cap) h i 0 k w1 HB.out.2.2.2.2 hl (kiI k) (l6 (KF h.ks) h.kd h.ho i k) (KF h.ks) k (if bY k then-1 else i) h.tu kY lN ng
  (fun wx=>pK i 0 k wx) (fun _ _ _ wx=>wG (KF h.ks) h.kd h.ho h.tu i 0 k wx) (fun _ _ _ _ wx=>mQ (KF h.ks) h.kd h.ho h.tu i 0 k wx)
 rw[Aj]at c;obtain⟨r,HE⟩:∃r,Hid (r=h.reserve i k):=⟨_,rfl⟩
 rw[<-HE.out]at c⊢;clear HE hr hl;obtain⟨z,t⟩:=r;unfold Ans HV wiA at c;dsimp only at c;unfold hdA at hw1;unfold HV;conv in hdA (.slice ao h.ks.length cap) h=>unfold hdA
 have hs:=HB.out.2.2.2.1;go_enter Tryz.func235,Tryz.ntmps235;go_upto_region 1 with fail
 rw[<-hw1];clear hw1;go_wp2_with (first|(refine ah Tryz.isH rfl _ rfl w.heap.size rfl (hdA (.slice ao h.ks.length cap) h) rfl HB.out.1 ?_)|(go_at_call 256;refine c.mono ?_;rintro e w2 ⟨u,rfl,o2,b2⟩;have HB2:Hid (Bx w w2 (.slice ao h.ks.length cap) h):=HB.out.next b2;have O2:Hid (Own w2 w1.heap.size u z.ks):=o2;have ho1:=dq o2.reads;clear b2 o2)|(refine ae Tryz.isH rfl _ _ rfl (w.heap.size+1) (hdA u z) #[.slice none 0 0,.int .i64 0,.int .i64 0,.int .i64 0] rfl rfl rfl rfl (dB _ ho1) HB2.out.2.1 ?_;intro we se ge))
 refine bodyPost_ret (bE Tryz.isH rfl _ _ (w.heap.size+1) _ _ rfl rfl rfl se) rfl ?_;exact⟨u,rfl,(O2.out.keptLt ge (by omega)).mono (by omega),HB2.out.2.2.1.grown ge HB2.out.2.2.1.size (fun x e=>by cases e;omega)⟩
theorem rL (v:Value) (h:Hd) (i:Int) (w:World) (hr:ag w v h.ks) (hl:h.ks.length<=1099511627776):
  Calls Tryz.prog 236 #[HV v h,.int .i64 i] w (Ans w (h.release i)):=by
 obtain⟨ao,cap,rfl⟩:=aa hr;obtain⟨w1,hw1⟩:=eX ((w.alloc (.cells (hdA (.slice ao h.ks.length cap) h) 37)).alloc (.cells #[.slice none 0 0,.int .i64 0,.int .i64 0,.int .i64 0] 37))
 have HB:Hid (Bx w w1 (.slice ao h.ks.length cap) h):=by rw[hw1];exact Bx.start hr
 have c:=gE 2 278 279 280 Eo (.slice ao h.ks.length cap) h i 0 0 w1 HB.out.2.2.2.2 hl (true) (lr (KF h.ks) i) (KF h.ks) (if eE (KF h.ks) h.kd h.ho i then 0 else h.kd) (if eE (KF h.ks) h.kd h.ho i then-1 else h.ho) h.tu hU fT py
  (fun wx=>jT i 0 0 wx) (fun _ _ _ wx=>gm (KF h.ks) h.kd h.ho h.tu i 0 0 wx) (fun _ _ _ _ wx=>zB (KF h.ks) h.kd h.ho h.tu i 0 0 wx)
 rw[Ai]at c;obtain⟨r,HE⟩:∃r,Hid (r=h.release i):=⟨_,rfl⟩
 rw[<-HE.out]at c⊢;clear HE hr hl;obtain⟨z,t⟩:=r;unfold Ans HV wiA at c;dsimp only at c;unfold hdA at hw1;unfold HV;conv in hdA (.slice ao h.ks.length cap) h=>unfold hdA
 have hs:=HB.out.2.2.2.1;go_enter Tryz.func236,Tryz.ntmps236;go_upto_region 1 with fail
 rw[<-hw1];clear hw1;go_wp2_with (first|(refine ah Tryz.isH rfl _ rfl w.heap.size rfl (hdA (.slice ao h.ks.length cap) h) rfl HB.out.1 ?_)|(go_at_call 256;refine c.mono ?_;rintro e w2 ⟨u,rfl,o2,b2⟩;have HB2:Hid (Bx w w2 (.slice ao h.ks.length cap) h):=HB.out.next b2;have O2:Hid (Own w2 w1.heap.size u z.ks):=o2;have ho1:=dq o2.reads;clear b2 o2)|(refine ae Tryz.isH rfl _ _ rfl (w.heap.size+1) (hdA u z) #[.slice none 0 0,.int .i64 0,.int .i64 0,.int .i64 0] rfl rfl rfl rfl (dB _ ho1) HB2.out.2.1 ?_;intro we se ge))
 refine bodyPost_ret (bE Tryz.isH rfl _ _ (w.heap.size+1) _ _ rfl rfl rfl se) rfl ?_;exact⟨u,rfl,(O2.out.keptLt ge (by omega)).mono (by omega),HB2.out.2.2.1.grown ge HB2.out.2.2.1.size (fun x e=>by cases e;omega)⟩
theorem vH (v:Value) (h:Hd) (i:Int) (w:World) (hr:ag w v h.ks) (hl:h.ks.length<=1099511627776):
  Calls Tryz.prog 237 #[HV v h,.int .i64 i] w (Ans w (h.clear i)):=by
 obtain⟨ao,cap,rfl⟩:=aa hr;obtain⟨w1,hw1⟩:=eX ((w.alloc (.cells (hdA (.slice ao h.ks.length cap) h) 37)).alloc (.cells #[.slice none 0 0,.int .i64 0,.int .i64 0,.int .i64 0] 37))
 have HB:Hid (Bx w w1 (.slice ao h.ks.length cap) h):=by rw[hw1];exact Bx.start hr
 have c:=gE 3 278 279 281 Ep (.slice ao h.ks.length cap) h i 0 0 w1 HB.out.2.2.2.2 hl (true) (lr (KF h.ks) i) (fun _=>0) 0 (-1) (cL h.tu) hU fT lO
  (fun wx=>jT i 0 0 wx) (fun _ _ _ wx=>gm (KF h.ks) h.kd h.ho h.tu i 0 0 wx) (fun ok _ _ _ wx=>r9 (KF h.ks) h.kd h.ho h.tu i 0 0 wx (jr ok).1 (jr ok).2)
 rw[Dx]at c;obtain⟨r,HE⟩:∃r,Hid (r=h.clear i):=⟨_,rfl⟩
 rw[<-HE.out]at c⊢;clear HE hr hl;obtain⟨z,t⟩:=r;unfold Ans HV wiA at c;dsimp only at c;unfold hdA at hw1;unfold HV;conv in hdA (.slice ao h.ks.length cap) h=>unfold hdA
 have hs:=HB.out.2.2.2.1;go_enter Tryz.func237,Tryz.ntmps237;go_upto_region 1 with fail
 rw[<-hw1];clear hw1;go_wp2_with (first|(refine ah Tryz.isH rfl _ rfl w.heap.size rfl (hdA (.slice ao h.ks.length cap) h) rfl HB.out.1 ?_)|(go_at_call 256;refine c.mono ?_;rintro e w2 ⟨u,rfl,o2,b2⟩;have HB2:Hid (Bx w w2 (.slice ao h.ks.length cap) h):=HB.out.next b2;have O2:Hid (Own w2 w1.heap.size u z.ks):=o2;have ho1:=dq o2.reads;clear b2 o2)|(refine ae Tryz.isH rfl _ _ rfl (w.heap.size+1) (hdA u z) #[.slice none 0 0,.int .i64 0,.int .i64 0,.int .i64 0] rfl rfl rfl rfl (dB _ ho1) HB2.out.2.1 ?_;intro we se ge))
 refine bodyPost_ret (bE Tryz.isH rfl _ _ (w.heap.size+1) _ _ rfl rfl rfl se) rfl ?_;exact⟨u,rfl,(O2.out.keptLt ge (by omega)).mono (by omega),HB2.out.2.2.1.grown ge HB2.out.2.2.1.size (fun x e=>by cases e;omega)⟩
theorem rM (v:Value) (h:Hd) (i key k:Int) (w:World) (hr:ag w v h.ks) (hl:h.ks.length<=1099511627776):
  Calls Tryz.prog 238 #[HV v h,.int .i64 i,.int .i64 key,.int .i64 k] w (Ans w (h.preempt i key k)):=by
 obtain⟨ao,cap,rfl⟩:=aa hr;obtain⟨w1,hw1⟩:=eX ((w.alloc (.cells (hdA (.slice ao h.ks.length cap) h) 37)).alloc (.cells #[.slice none 0 0,.int .i64 0,.int .i64 0,.int .i64 0] 37))
 have HB:Hid (Bx w w1 (.slice ao h.ks.length cap) h):=by rw[hw1];exact Bx.start hr
 have c:=gE 4 282 283 284 Er (.slice ao h.ks.length cap) h i key k w1 HB.out.2.2.2.2 hl (inI key 1 9999&&kiI k) (l9 (KF h.ks) i key) (fY (KF h.ks) i.toNat key 4) (if gH (KF h.ks) h.kd h.ho i key then k else h.kd) (if gH (KF h.ks) h.kd h.ho i key then(if bY k then-1 else i)else h.ho) (cL h.tu) iv iS ki
  (fun wx=>uk i key k wx) (fun _ _ _ wx=>wI (KF h.ks) h.kd h.ho h.tu i key k wx) (fun ok hi _ _ wx=>ox (KF h.ks) h.kd h.ho h.tu i key k wx (jr ok).1 (jr ok).2 (nB hi).1 (nB hi).2)
 rw[Ak]at c;obtain⟨r,HE⟩:∃r,Hid (r=h.preempt i key k):=⟨_,rfl⟩
 rw[<-HE.out]at c⊢;clear HE hr hl;obtain⟨z,t⟩:=r;unfold Ans HV wiA at c;dsimp only at c;unfold hdA at hw1;unfold HV;conv in hdA (.slice ao h.ks.length cap) h=>unfold hdA
 have hs:=HB.out.2.2.2.1;go_enter Tryz.func238,Tryz.ntmps238;go_upto_region 1 with fail
 rw[<-hw1];clear hw1;go_wp2_with (first|(refine ah Tryz.isH rfl _ rfl w.heap.size rfl (hdA (.slice ao h.ks.length cap) h) rfl HB.out.1 ?_)|(go_at_call 256;refine c.mono ?_;rintro e w2 ⟨u,rfl,o2,b2⟩;have HB2:Hid (Bx w w2 (.slice ao h.ks.length cap) h):=HB.out.next b2;have O2:Hid (Own w2 w1.heap.size u z.ks):=o2;have ho1:=dq o2.reads;clear b2 o2)|(refine ae Tryz.isH rfl _ _ rfl (w.heap.size+1) (hdA u z) #[.slice none 0 0,.int .i64 0,.int .i64 0,.int .i64 0] rfl rfl rfl rfl (dB _ ho1) HB2.out.2.1 ?_;intro we se ge))
 refine bodyPost_ret (bE Tryz.isH rfl _ _ (w.heap.size+1) _ _ rfl rfl rfl se) rfl ?_;exact⟨u,rfl,(O2.out.keptLt ge (by omega)).mono (by omega),HB2.out.2.2.1.grown ge HB2.out.2.2.1.size (fun x e=>by cases e;omega)⟩
def Hd.after (h:Hd) (i:Int) (c:Cm):Hd×Int:=if c.o=6 then h.register i c.a else if c.o=7 then h.reserve i c.k else if c.o=8 then h.release i else if c.o=9 then h.clear i else h.preempt i c.a c.k
structure Hx (w wx:World) (q:Value) (h:Hd) (c:Cm):Prop where
 hd:StB wx w.heap.size 37 (hdA q h)
 cm:StB wx (w.heap.size+1) 66 (cmA c)
 rs:StB wx (w.heap.size+1+1) 37 #[.slice none 0 0,.int .i64 0,.int .i64 0,.int .i64 0]
 bl:bB w wx
 sz:w.heap.size+3<=wx.heap.size
theorem Hx.start (w:World) (q:Value) (h:Hd) (c:Cm):Hx w (((w.alloc (.cells (hdA q h) 37)).alloc (.cells (cmA c) 66)).alloc (.cells #[.slice none 0 0,.int .i64 0,.int .i64 0,.int .i64 0] 37)) q h c:=by
 have a2:=StB.new (w.alloc (.cells (hdA q h) 37)) 66 (cmA c);have a3:=StB.new ((w.alloc (.cells (hdA q h) 37)).alloc (.cells (cmA c) 66)) 37 #[.slice none 0 0,.int .i64 0,.int .i64 0,.int .i64 0];simp only[World.size_alloc]at a2 a3;exact⟨((StB.new w _ _).alloc _).alloc _,a2.alloc _,a3,(bA.alloc (by simp) _).alloc (by simp;omega) _,by simp⟩
theorem Hx.next {w wx wy:World} {q:Value} {h:Hd} {c:Cm} (d:Hx w wx q h c) (b:bB wx wy):Hx w wy q h c:=
 ⟨d.hd.below b,d.cm.below b,d.rs.below b,d.bl.trans (b.mono d.bl.size),Nat.le_trans d.sz b.size⟩
theorem li (q:Value) (h:Hd) (i:Int) (c:Cm) (w:World) (hq:ag w q h.ks) (hl:h.ks.length<=1099511627776) (e6:c.o=6):
  Calls Tryz.prog 198 #[HV q h,.int .i64 i,CV c] w (Ans w (h.register i c.a)):=by
 have E6:Hid (c.o=6):=e6;clear e6;obtain⟨w1,hw1⟩:=eX (((w.alloc (.cells (hdA q h) 37)).alloc (.cells (cmA c) 66)).alloc (.cells #[.slice none 0 0,.int .i64 0,.int .i64 0,.int .i64 0] 37))
 have HX:Hid (Hx w w1 q h c):=by rw[hw1];exact Hx.start w q h c
 have c1:=pz q h i c.a w1 (hq.below HX.out.bl (Nat.le_refl _)) hl;obtain⟨r,hr⟩:=eX (h.register i c.a)
 rw[<-hr]at c1⊢;obtain⟨qo,qc,rfl⟩:=aa hq;clear hr hq hl;unfold Ans HV at c1;unfold Ans HV CV;conv in hdA (.slice qo h.ks.length qc) _=>unfold hdA
 unfold cmA;unfold hdA cmA at hw1;have k0:w1.cell? ⟨w.heap.size+1,0,none⟩=some (.int .i64 c.o):=HX.out.cm.cell 0 rfl;have k2:w1.cell? ⟨w.heap.size+1,2,none⟩=some (.int .i64 c.a):=HX.out.cm.cell 2 rfl;have k4:w1.cell? ⟨w.heap.size+1,4,none⟩=some (.int .i64 c.k):=HX.out.cm.cell 4 rfl;go_enter Tryz.func198,Tryz.ntmps198;go_upto_region 1 with fail
 rw[<-hw1];clear hw1;have e6:=E6.out;go_wp2_with (refine ah Tryz.isH rfl _ rfl w.heap.size rfl _ rfl HX.out.hd ?_)
 refine c1.mono ?_;rintro e w2 ⟨u,rfl,o2,b2⟩;have H2:Hid (Hx w w2 (.slice qo h.ks.length qc) h c):=HX.out.next b2;have O2:Hid (Own w2 (w.heap.size+3) u r.1.ks):=o2.mono HX.out.sz;obtain⟨uo,uc,rfl⟩:=aa o2.reads;clear o2 b2 c1 HX k0 k2 k4;go_wp2_with (refine ae Tryz.isH rfl _ _ rfl (w.heap.size+1+1) (hdA (.slice uo r.1.ks.length uc) r.1) #[.slice none 0 0,.int .i64 0,.int .i64 0,.int .i64 0] rfl rfl rfl rfl (dB _ rfl) H2.out.rs ?_;intro we se ge)
 refine bodyPost_ret (bE Tryz.isH rfl _ _ (w.heap.size+1+1) _ _ rfl rfl rfl se) rfl ?_;exact⟨_,rfl,(O2.out.keptLt ge (by omega)).mono (by omega),H2.out.bl.grown ge H2.out.bl.size (fun x e=>by cases e;omega)⟩
theorem lV (q:Value) (h:Hd) (i:Int) (c:Cm) (w:World) (hq:ag w q h.ks) (hl:h.ks.length<=1099511627776) (n6:c.o≠6) (e7:c.o=7):
  Calls Tryz.prog 198 #[HV q h,.int .i64 i,CV c] w (Ans w (h.reserve i c.k)):=by
 have N6:Hid (c.o≠6):=n6;clear n6;have E7:Hid (c.o=7):=e7;clear e7;obtain⟨w1,hw1⟩:=eX (((w.alloc (.cells (hdA q h) 37)).alloc (.cells (cmA c) 66)).alloc (.cells #[.slice none 0 0,.int .i64 0,.int .i64 0,.int .i64 0] 37))
 have HX:Hid (Hx w w1 q h c):=by rw[hw1];exact Hx.start w q h c
 have c1:=rK q h i c.k w1 (hq.below HX.out.bl (Nat.le_refl _)) hl;obtain⟨r,hr⟩:=eX (h.reserve i c.k)
 rw[<-hr]at c1⊢;obtain⟨qo,qc,rfl⟩:=aa hq;clear hr hq hl;unfold Ans HV at c1;unfold Ans HV CV;conv in hdA (.slice qo h.ks.length qc) _=>unfold hdA
 unfold cmA;unfold hdA cmA at hw1;have k0:w1.cell? ⟨w.heap.size+1,0,none⟩=some (.int .i64 c.o):=HX.out.cm.cell 0 rfl;have k2:w1.cell? ⟨w.heap.size+1,2,none⟩=some (.int .i64 c.a):=HX.out.cm.cell 2 rfl;have k4:w1.cell? ⟨w.heap.size+1,4,none⟩=some (.int .i64 c.k):=HX.out.cm.cell 4 rfl;go_enter Tryz.func198,Tryz.ntmps198;go_upto_region 1 with fail
 rw[<-hw1];clear hw1;have n6:=N6.out;have e7:=E7.out;go_wp2_with (refine ah Tryz.isH rfl _ rfl w.heap.size rfl _ rfl HX.out.hd ?_)
 refine c1.mono ?_;rintro e w2 ⟨u,rfl,o2,b2⟩;have H2:Hid (Hx w w2 (.slice qo h.ks.length qc) h c):=HX.out.next b2;have O2:Hid (Own w2 (w.heap.size+3) u r.1.ks):=o2.mono HX.out.sz;obtain⟨uo,uc,rfl⟩:=aa o2.reads;clear o2 b2 c1 HX k0 k2 k4;go_wp2_with (refine ae Tryz.isH rfl _ _ rfl (w.heap.size+1+1) (hdA (.slice uo r.1.ks.length uc) r.1) #[.slice none 0 0,.int .i64 0,.int .i64 0,.int .i64 0] rfl rfl rfl rfl (dB _ rfl) H2.out.rs ?_;intro we se ge)
 refine bodyPost_ret (bE Tryz.isH rfl _ _ (w.heap.size+1+1) _ _ rfl rfl rfl se) rfl ?_;exact⟨_,rfl,(O2.out.keptLt ge (by omega)).mono (by omega),H2.out.bl.grown ge H2.out.bl.size (fun x e=>by cases e;omega)⟩
theorem lW (q:Value) (h:Hd) (i:Int) (c:Cm) (w:World) (hq:ag w q h.ks) (hl:h.ks.length<=1099511627776) (n6:c.o≠6) (n7:c.o≠7) (e8:c.o=8):
  Calls Tryz.prog 198 #[HV q h,.int .i64 i,CV c] w (Ans w (h.release i)):=by
 have N6:Hid (c.o≠6):=n6;clear n6;have N7:Hid (c.o≠7):=n7;clear n7;have E8:Hid (c.o=8):=e8;clear e8;obtain⟨w1,hw1⟩:=eX (((w.alloc (.cells (hdA q h) 37)).alloc (.cells (cmA c) 66)).alloc (.cells #[.slice none 0 0,.int .i64 0,.int .i64 0,.int .i64 0] 37))
 have HX:Hid (Hx w w1 q h c):=by rw[hw1];exact Hx.start w q h c
 have c1:=rL q h i w1 (hq.below HX.out.bl (Nat.le_refl _)) hl;obtain⟨r,hr⟩:=eX (h.release i)
 rw[<-hr]at c1⊢;obtain⟨qo,qc,rfl⟩:=aa hq;clear hr hq hl;unfold Ans HV at c1;unfold Ans HV CV;conv in hdA (.slice qo h.ks.length qc) _=>unfold hdA
 unfold cmA;unfold hdA cmA at hw1;have k0:w1.cell? ⟨w.heap.size+1,0,none⟩=some (.int .i64 c.o):=HX.out.cm.cell 0 rfl;have k2:w1.cell? ⟨w.heap.size+1,2,none⟩=some (.int .i64 c.a):=HX.out.cm.cell 2 rfl;have k4:w1.cell? ⟨w.heap.size+1,4,none⟩=some (.int .i64 c.k):=HX.out.cm.cell 4 rfl;go_enter Tryz.func198,Tryz.ntmps198;go_upto_region 1 with fail
 rw[<-hw1];clear hw1;have n6:=N6.out;have n7:=N7.out;have e8:=E8.out;go_wp2_with (refine ah Tryz.isH rfl _ rfl w.heap.size rfl _ rfl HX.out.hd ?_)
 refine c1.mono ?_;rintro e w2 ⟨u,rfl,o2,b2⟩;have H2:Hid (Hx w w2 (.slice qo h.ks.length qc) h c):=HX.out.next b2;have O2:Hid (Own w2 (w.heap.size+3) u r.1.ks):=o2.mono HX.out.sz;obtain⟨uo,uc,rfl⟩:=aa o2.reads;clear o2 b2 c1 HX k0 k2 k4;go_wp2_with (refine ae Tryz.isH rfl _ _ rfl (w.heap.size+1+1) (hdA (.slice uo r.1.ks.length uc) r.1) #[.slice none 0 0,.int .i64 0,.int .i64 0,.int .i64 0] rfl rfl rfl rfl (dB _ rfl) H2.out.rs ?_;intro we se ge)
 refine bodyPost_ret (bE Tryz.isH rfl _ _ (w.heap.size+1+1) _ _ rfl rfl rfl se) rfl ?_;exact⟨_,rfl,(O2.out.keptLt ge (by omega)).mono (by omega),H2.out.bl.grown ge H2.out.bl.size (fun x e=>by cases e;omega)⟩
theorem oA (q:Value) (h:Hd) (i:Int) (c:Cm) (w:World) (hq:ag w q h.ks) (hl:h.ks.length<=1099511627776) (n6:c.o≠6) (n7:c.o≠7) (n8:c.o≠8) (e9:c.o=9):
  Calls Tryz.prog 198 #[HV q h,.int .i64 i,CV c] w (Ans w (h.clear i)):=by
 have N6:Hid (c.o≠6):=n6;clear n6;have N7:Hid (c.o≠7):=n7;clear n7;have N8:Hid (c.o≠8):=n8;clear n8;have E9:Hid (c.o=9):=e9;clear e9;obtain⟨w1,hw1⟩:=eX (((w.alloc (.cells (hdA q h) 37)).alloc (.cells (cmA c) 66)).alloc (.cells #[.slice none 0 0,.int .i64 0,.int .i64 0,.int .i64 0] 37))
 have HX:Hid (Hx w w1 q h c):=by rw[hw1];exact Hx.start w q h c
 have c1:=vH q h i w1 (hq.below HX.out.bl (Nat.le_refl _)) hl;obtain⟨r,hr⟩:=eX (h.clear i)
 rw[<-hr]at c1⊢;obtain⟨qo,qc,rfl⟩:=aa hq;clear hr hq hl;unfold Ans HV at c1;unfold Ans HV CV;conv in hdA (.slice qo h.ks.length qc) _=>unfold hdA
 unfold cmA;unfold hdA cmA at hw1;have k0:w1.cell? ⟨w.heap.size+1,0,none⟩=some (.int .i64 c.o):=HX.out.cm.cell 0 rfl;have k2:w1.cell? ⟨w.heap.size+1,2,none⟩=some (.int .i64 c.a):=HX.out.cm.cell 2 rfl;have k4:w1.cell? ⟨w.heap.size+1,4,none⟩=some (.int .i64 c.k):=HX.out.cm.cell 4 rfl;go_enter Tryz.func198,Tryz.ntmps198;go_upto_region 1 with fail
 rw[<-hw1];clear hw1;have n6:=N6.out;have n7:=N7.out;have n8:=N8.out;have e9:=E9.out;go_wp2_with (refine ah Tryz.isH rfl _ rfl w.heap.size rfl _ rfl HX.out.hd ?_)
 refine c1.mono ?_;rintro e w2 ⟨u,rfl,o2,b2⟩;have H2:Hid (Hx w w2 (.slice qo h.ks.length qc) h c):=HX.out.next b2;have O2:Hid (Own w2 (w.heap.size+3) u r.1.ks):=o2.mono HX.out.sz;obtain⟨uo,uc,rfl⟩:=aa o2.reads;clear o2 b2 c1 HX k0 k2 k4;go_wp2_with (refine ae Tryz.isH rfl _ _ rfl (w.heap.size+1+1) (hdA (.slice uo r.1.ks.length uc) r.1) #[.slice none 0 0,.int .i64 0,.int .i64 0,.int .i64 0] rfl rfl rfl rfl (dB _ rfl) H2.out.rs ?_;intro we se ge)
 refine bodyPost_ret (bE Tryz.isH rfl _ _ (w.heap.size+1+1) _ _ rfl rfl rfl se) rfl ?_;exact⟨_,rfl,(O2.out.keptLt ge (by omega)).mono (by omega),H2.out.bl.grown ge H2.out.bl.size (fun x e=>by cases e;omega)⟩
theorem lX (q:Value) (h:Hd) (i:Int) (c:Cm) (w:World) (hq:ag w q h.ks) (hl:h.ks.length<=1099511627776) (n6:c.o≠6) (n7:c.o≠7) (n8:c.o≠8) (n9:c.o≠9):
  Calls Tryz.prog 198 #[HV q h,.int .i64 i,CV c] w (Ans w (h.preempt i c.a c.k)):=by
 have N6:Hid (c.o≠6):=n6;clear n6;have N7:Hid (c.o≠7):=n7;clear n7;have N8:Hid (c.o≠8):=n8;clear n8;have N9:Hid (c.o≠9):=n9;clear n9;obtain⟨w1,hw1⟩:=eX (((w.alloc (.cells (hdA q h) 37)).alloc (.cells (cmA c) 66)).alloc (.cells #[.slice none 0 0,.int .i64 0,.int .i64 0,.int .i64 0] 37))
 have HX:Hid (Hx w w1 q h c):=by rw[hw1];exact Hx.start w q h c
 have c1:=rM q h i c.a c.k w1 (hq.below HX.out.bl (Nat.le_refl _)) hl;obtain⟨r,hr⟩:=eX (h.preempt i c.a c.k)
 rw[<-hr]at c1⊢;obtain⟨qo,qc,rfl⟩:=aa hq;clear hr hq hl;unfold Ans HV at c1;unfold Ans HV CV;conv in hdA (.slice qo h.ks.length qc) _=>unfold hdA
 unfold cmA;unfold hdA cmA at hw1;have k0:w1.cell? ⟨w.heap.size+1,0,none⟩=some (.int .i64 c.o):=HX.out.cm.cell 0 rfl;have k2:w1.cell? ⟨w.heap.size+1,2,none⟩=some (.int .i64 c.a):=HX.out.cm.cell 2 rfl;have k4:w1.cell? ⟨w.heap.size+1,4,none⟩=some (.int .i64 c.k):=HX.out.cm.cell 4 rfl;go_enter Tryz.func198,Tryz.ntmps198;go_upto_region 1 with fail
 rw[<-hw1];clear hw1;have n6:=N6.out;have n7:=N7.out;have n8:=N8.out;have n9:=N9.out;go_wp2_with (refine ah Tryz.isH rfl _ rfl w.heap.size rfl _ rfl HX.out.hd ?_)
 refine c1.mono ?_;rintro e w2 ⟨u,rfl,o2,b2⟩;have H2:Hid (Hx w w2 (.slice qo h.ks.length qc) h c):=HX.out.next b2;have O2:Hid (Own w2 (w.heap.size+3) u r.1.ks):=o2.mono HX.out.sz;obtain⟨uo,uc,rfl⟩:=aa o2.reads;clear o2 b2 c1 HX k0 k2 k4;go_wp2_with (refine ae Tryz.isH rfl _ _ rfl (w.heap.size+1+1) (hdA (.slice uo r.1.ks.length uc) r.1) #[.slice none 0 0,.int .i64 0,.int .i64 0,.int .i64 0] rfl rfl rfl rfl (dB _ rfl) H2.out.rs ?_;intro we se ge)
 refine bodyPost_ret (bE Tryz.isH rfl _ _ (w.heap.size+1+1) _ _ rfl rfl rfl se) rfl ?_;exact⟨_,rfl,(O2.out.keptLt ge (by omega)).mono (by omega),H2.out.bl.grown ge H2.out.bl.size (fun x e=>by cases e;omega)⟩
theorem oB (q:Value) (h:Hd) (i:Int) (c:Cm) (w:World) (hq:ag w q h.ks) (hl:h.ks.length<=1099511627776):
  Calls Tryz.prog 198 #[HV q h,.int .i64 i,CV c] w (Ans w (h.after i c)):=by
 unfold Hd.after;by_cases e6:c.o=6
 ·rw[if_pos e6];exact li q h i c w hq hl e6
 rw[if_neg e6];by_cases e7:c.o=7
 ·rw[if_pos e7];exact lV q h i c w hq hl e6 e7
 rw[if_neg e7];by_cases e8:c.o=8
 ·rw[if_pos e8];exact lW q h i c w hq hl e6 e7 e8
 rw[if_neg e8];by_cases e9:c.o=9
 ·rw[if_pos e9];exact oA q h i c w hq hl e6 e7 e8 e9
 rw[if_neg e9];exact lX q h i c w hq hl e6 e7 e8 e9
end Go.Proofs.YthldeiojlllkdaaGreatDoor
