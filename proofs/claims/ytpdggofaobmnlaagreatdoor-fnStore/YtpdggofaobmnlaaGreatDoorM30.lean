import Derived.Test.YtpdggofaobmnlaaGreatDoorM29
import Derived.Test.YtpdggofaobmnlaaGreatDoorM18
import Derived.Test.YtpdggofaobmnlaaGreatDoorM9
import Derived.Test.YtpdggofaobmnlaaGreatDoorM8
import Derived.Deep.DeepCutAuto
/- What the program's actions answer is what is said of holdings as plain lists and numbers. -/
set_option maxRecDepth 20000
set_option maxHeartbeats 1000000
namespace Go.Proofs.YtpdggofaobmnlaaGreatDoor
open Go.RowKit
theorem mid_kd0 {h:Hd} (e:h.mid=true) (h0:h.kd=0):h.ho= -1:=by
 unfold Hd.mid at e;rw[if_pos h0]at e;simpa using e
theorem mid_all {h:Hd} (e:h.mid=true) (h0:h.kd≠0) (ha:allI h.kd=true):h.ho= -1∧anyI h.ks=true:=by
 unfold Hd.mid at e;rw[if_neg h0,if_pos ha]at e;simpa using e
theorem mid_one {h:Hd} (e:h.mid=true) (h0:h.kd≠0) (ha:allI h.kd=false):kiI h.kd=true∧(0≤h.ho∧h.ho≤3)∧h.ks.getD h.ho.toNat 0≠0:=by
 unfold Hd.mid at e
 rw[if_neg h0,ha]at e
 simp only[Bool.false_eq_true,if_false,Bool.and_eq_true]at e
 exact⟨e.1.1,(inI_iff _ _ _).1 e.1.2,by simpa[regI]using e.2⟩
theorem listK_upd {ks:List Int} (hl:ks.length=4) {j:Nat} (hj:j<4) (x:Int):listK (updF (KF ks) j x)=ks.set j x:=by
 match ks,hl with
 |[a,b,c,d],_=>
  obtain rfl|rfl|rfl|rfl:j=0∨j=1∨j=2∨j=3:=by omega
  all_goals rfl
theorem anyF_list (f:Nat→Int):anyF f=anyI (listK f):=by
 simp[anyF,anyI,listK,Bool.or_assoc,bne,decide_not];rfl
theorem anyI_set {ks:List Int} {i m:Nat} {x:Int} (hm:m<ks.length) (hn:m≠i) (h:ks.getD m 0≠0):anyI (ks.set i x)=true:=by
 refine any_at _ m (by simpa using hm) ?_
 simp only[List.getD_eq_getElem?_getD]at h⊢
 rw[List.getElem?_set_ne (by omega)]
 exact h
theorem anyI_set_self {ks:List Int} {i:Nat} {x:Int} (hi:i<ks.length) (h:x≠0):anyI (ks.set i x)=true:=by
 refine any_at _ i (by simpa using hi) ?_
 simp only[List.getD_eq_getElem?_getD,List.getElem?_set_self hi]
 exact h
theorem registerA (h:Hd) (i key:Int):
  ansA h.ok (inI i 0 3&&inI key 0 9999) false h ⟨listK (updF (KF h.ks) i.toNat key),if midF (updF (KF h.ks) i.toNat key) h.kd h.ho then h.kd else 0,if midF (updF (KF h.ks) i.toNat key) h.kd h.ho then h.ho else-1,turnI h.tu⟩=h.register i key:=by
 unfold ansA Hd.register
 cases ho:h.ok
 ·simp
 cases hi:inI i 0 3
 ·simp
 cases hk:inI key 0 9999
 ·simp
 obtain⟨hl, -, -,hm⟩:=Hd.ok_all ho
 have hi':=(inI_iff _ _ _).1 hi
 have h4:i.toNat<4:=by omega
 simp only[Bool.and_self,if_true,Bool.false_eq_true,if_false]
 congr 1
 unfold Hd.regd
 have e1:listK (updF (KF h.ks) i.toNat key)=h.ks.set i.toNat key:=listK_upd hl h4 key
 have e2:anyF (updF (KF h.ks) i.toNat key)=anyI (h.ks.set i.toNat key):=by rw[anyF_list,e1]
 rw[e1]
 unfold midF
 rw[e2]
 by_cases k0:h.kd=0
 ·have:=mid_kd0 hm k0
  rw[if_pos k0]
  split<;>simp[Hd.free,Hd.turn,Hd.key,k0,this]
 ·rw[if_neg k0]
  cases ha:allI h.kd
  ·obtain⟨m1,m2,m3⟩:=mid_one hm k0 ha
   have m4:inI h.ho 0 3=true:=(inI_iff _ _ _).2 m2
   simp only[Bool.false_eq_true,if_false,m1,m4,Bool.true_and]
   by_cases e:h.ho=i
   ·have:updF (KF h.ks) i.toNat key h.ho.toNat=key:=by simp[updF,e]
    rw[this]
    by_cases kz:key=0
    ·simp[kz,e,Hd.free,Hd.turn,Hd.key]
    ·simp[kz,Hd.turn,Hd.key]
   ·have n1:h.ho.toNat≠i.toNat:=by omega
    have:updF (KF h.ks) i.toNat key h.ho.toNat=h.ks.getD h.ho.toNat 0:=by simp[updF,n1,KF]
    rw[this]
    have a1:anyI (h.ks.set i.toNat key)=true:=anyI_set (by omega) n1 m3
    simp only[a1,e,Bool.true_eq_false,or_self,and_false,if_false]
    simp only[ne_eq,m3,not_false_eq_true,decide_true,if_true]
    rfl
  ·obtain⟨m1,m2⟩:=mid_all hm k0 ha
   have n2:¬((-1:Int)=i):=by omega
   simp only[m1,decide_true,Bool.true_and,if_true]
   by_cases kz:key=0
   ·subst kz
    cases hb:anyI (h.ks.set i.toNat 0)<;>simp[n2,Hd.free,Hd.turn,Hd.key,m1]
   ·have hb:anyI (h.ks.set i.toNat key)=true:=anyI_set_self (by omega) kz
    simp[kz,hb,Hd.turn,Hd.key,m1]
theorem strI_KF (h:Hd) (i:Int) (hi:inI i 0 3=true):strI (KF h.ks) i= !regI h.ks i:=by
 unfold strI regI KF
 rw[hi,Bool.true_and]
theorem clearA (h:Hd) (i:Int):ansA h.ok (inI i 0 3&&true) (strI (KF h.ks) i) h ⟨listK (fun _=>0),0, -1,turnI h.tu⟩=h.clear i:=by
 unfold ansA Hd.clear
 cases ho:h.ok
 ·simp
 cases hi:inI i 0 3
 ·simp
 rw[strI_KF h i hi]
 unfold Hd.clrd
 cases hr:regI h.ks i
 ·simp[told]
 ·simp[told,listK]
theorem releaseA (h:Hd) (i:Int):ansA h.ok (inI i 0 3&&true) (strI (KF h.ks) i) h ⟨listK (KF h.ks),if holdsF (KF h.ks) h.kd h.ho i then 0 else h.kd,if holdsF (KF h.ks) h.kd h.ho i then-1 else h.ho,h.tu⟩=h.release i:=by
 unfold ansA Hd.release
 cases ho:h.ok
 ·simp
 cases hi:inI i 0 3
 ·simp
 rw[strI_KF h i hi,holdsF_ok ho,hi,listK_KF (Hd.ok_all ho).1]
 unfold Hd.reld
 cases hr:regI h.ks i
 ·simp[told]
 ·cases hh:h.holds i
  ·simp[told]
  ·simp[told,Hd.free]
theorem reserveA (h:Hd) (i k:Int):ansA h.ok (inI i 0 3&&kiI k) (takenI (KF h.ks) h.kd h.ho i k) h ⟨listK (KF h.ks),k,if allI k then-1 else i,h.tu⟩=h.reserve i k:=by
 unfold ansA Hd.reserve
 cases ho:h.ok
 ·simp
 cases hi:inI i 0 3
 ·simp
 cases hk:kiI k
 ·simp
 obtain⟨hl, -, -,hm⟩:=Hd.ok_all ho
 have hi':=(inI_iff _ _ _).1 hi
 unfold takenI
 rw[strI_KF h i hi,listK_KF hl]
 unfold Hd.resd holdsF
 rw[hi,show decide (KF h.ks i.toNat≠0)=regI h.ks i from rfl]
 cases hr:regI h.ks i
 ·simp[told]
 ·simp only[Bool.not_true,Bool.false_or,Bool.true_eq_false,if_false,Bool.and_self,if_true,Bool.true_and]
  by_cases k0:h.kd=0
  ·simp[k0,told,Hd.take]
  ·rw[if_neg k0]
   by_cases e:h.kd=k
   ·subst e
    cases ha:allI h.kd
    ·by_cases eo:h.ho=i
     ·subst eo
      simp[told]
     ·have:¬i=h.ho:=fun c=>eo c.symm
      simp[k0,eo,told,this]
    ·have m1:=(mid_all hm k0 ha).1
     rw[←m1]
     simp[told]
   ·simp[k0,e,told]
theorem strikeK {ks:List Int} (hl:ks.length=4) {i:Nat} (hi:i<4) (key:Int):listK (strF (KF ks) i key 4)=strike ks i key 4:=by
 match ks,hl with
 |[a,b,c,d],_=>
  obtain rfl|rfl|rfl|rfl:i=0∨i=1∨i=2∨i=3:=by omega
  all_goals
   simp only[listK,strF,KF,strike,List.getD_cons_zero,List.getD_cons_succ]
   by_cases ha:a=key<;>by_cases hb:b=key<;>by_cases hc:c=key<;>by_cases hd:d=key<;>simp[ha,hb,hc,hd]
theorem nez (x:Int):(x !=0)= !decide (x=0):=rfl
theorem moreK {ks:List Int} (hl:ks.length=4) {i:Nat} (hi:i<4) (key:Int):anyF (updF (strF (KF ks) i key 4) i 0)=more ks i key 4:=by
 match ks,hl with
 |[a,b,c,d],_=>
  obtain rfl|rfl|rfl|rfl:i=0∨i=1∨i=2∨i=3:=by omega
  all_goals
   simp only[anyF,updF,strF,KF,more,List.getD_cons_zero,List.getD_cons_succ]
   by_cases ha:a=key<;>by_cases hb:b=key<;>by_cases hc:c=key<;>by_cases hd:d=key<;>simp[ha,hb,hc,hd,nez]
theorem hasK (ks:List Int) (key:Int):∀j,hasF (KF ks) key j=has ks key j
 |0=>rfl
 |j+1=>by rw[hasF,has,hasK ks key j];rfl
theorem aloneK {h:Hd} (hm:h.mid=true) (key:Int) (hk:1≤key):(keyF (KF h.ks) h.ho==key)=h.alone key:=by
 unfold keyF Hd.alone
 by_cases k0:h.kd=0
 ·rw[mid_kd0 hm k0]
  have:¬(0=key):=by omega
  simp[inI,k0,this]
 ·cases ha:allI h.kd
  ·obtain⟨m1,m2,m3⟩:=mid_one hm k0 ha
   rw[(inI_iff _ _ _).2 m2]
   simp only[if_true,k0,ne_eq,not_false_eq_true,decide_true,Bool.true_and,Bool.not_false]
   rfl
  ·obtain⟨m1,m2⟩:=mid_all hm k0 ha
   rw[m1]
   have:¬(0=key):=by omega
   simp[inI,this]
theorem preemptA (h:Hd) (i key k:Int):
  ansA h.ok (inI i 0 3&&(inI key 1 9999&&kiI k)) (lacksI (KF h.ks) i key) h ⟨listK (strF (KF h.ks) i.toNat key 4),if fallsI (KF h.ks) h.kd h.ho i key then k else h.kd,if fallsI (KF h.ks) h.kd h.ho i key then(if allI k then-1 else i)else h.ho,turnI h.tu⟩=h.preempt i key k:=by
 unfold ansA Hd.preempt
 cases ho:h.ok
 ·simp
 cases hi:inI i 0 3
 ·simp
 cases hk:inI key 1 9999
 ·simp
 cases hd:kiI k
 ·simp
 obtain⟨hl, -, -,hm⟩:=Hd.ok_all ho
 have hi':=(inI_iff _ _ _).1 hi
 have hk':=(inI_iff _ _ _).1 hk
 have h4:i.toNat<4:=by omega
 unfold lacksI fallsI
 rw[strI_KF h i hi,hasK,strikeK hl h4,moreK hl h4,aloneK hm key hk'.1]
 unfold Hd.pred
 simp only[Bool.and_self,if_true]
 cases hr:regI h.ks i
 ·simp[told]
 ·cases hh:has h.ks key 4
  ·simp[told]
  ·simp only[Bool.not_true,Bool.or_self,Bool.false_eq_true,if_false,Bool.and_self,Bool.true_eq_false]
   cases hq:(h.alone key||(allI h.kd&& !more h.ks i.toNat key 4))
   ·simp[told,Hd.turn]
   ·simp[told,Hd.turn,Hd.take]
end Go.Proofs.YtpdggofaobmnlaaGreatDoor
namespace Go.Proofs.YtpdggofaobmnlaaGreatDoor
open Go.ChangeShapes Go.WideShapes Go.ChangeAt Go.RowKit
def Ent (n:FuncId):Prop:=∀args wx,(callFunc n args).run Tryz.prog wx=.ok (.enter n args) wx
theorem ent_wish_anyKey:Ent 191:=by intro args wx;kernel_rfl
theorem ent_held_refusesNobody:Ent 192:=by intro args wx;kernel_rfl
theorem ent_held_rekeyed:Ent 193:=by intro args wx;kernel_rfl
theorem ent_wish_someKind:Ent 194:=by intro args wx;kernel_rfl
theorem ent_held_isTaken:Ent 195:=by intro args wx;kernel_rfl
theorem ent_held_heldBy:Ent 196:=by intro args wx;kernel_rfl
theorem ent_wish_anything:Ent 197:=by intro args wx;kernel_rfl
theorem ent_held_isStrangeTo:Ent 198:=by intro args wx;kernel_rfl
theorem ent_held_left:Ent 199:=by intro args wx;kernel_rfl
theorem ent_held_cleared:Ent 200:=by intro args wx;kernel_rfl
theorem ent_wish_someKeyAndKind:Ent 201:=by intro args wx;kernel_rfl
theorem ent_held_hasNoSuchKey:Ent 202:=by intro args wx;kernel_rfl
theorem ent_held_preempted:Ent 203:=by intro args wx;kernel_rfl
theorem ok_turn {h:Hd} (e:h.ok=true):0≤h.tu∧h.tu≤1000000000:=(Hd.ok_all e).2.1
theorem in_four {i:Int} (e:inI i 0 3=true):0≤i∧i<4:=by have:=(inI_iff _ _ _).1 e;omega
theorem iregister_any (v:Value) (h:Hd) (i key:Int) (w:World) (hr:Reads w v h.ks) (hl:h.ks.length≤1099511627776):
  Calls Tryz.prog 148 #[HV v h,.int .i64 i,.int .i64 key] w (Ans w (h.register i key)):=by
 obtain⟨ao,cap,rfl⟩:=reads_form hr
 obtain⟨w1,hw1⟩:∃w1,w1=(w.alloc (.cells (hdA (.slice ao h.ks.length cap) h) 28)).alloc (.cells #[.slice none 0 0,.int .i64 0,.int .i64 0,.int .i64 0] 28):=⟨_,rfl⟩
 have HB:Hid (Bx w w1 (.slice ao h.ks.length cap) h):=by rw[hw1];exact Bx.start hr
 have c:=iacted_any 0 191 192 193 idxA0 (.slice ao h.ks.length cap) h i key 0 w1 HB.out.2.2.2.2 hl (inI key 0 9999) (false) (updF (KF h.ks) i.toNat key) (if midF (updF (KF h.ks) i.toNat key) h.kd h.ho then h.kd else 0) (if midF (updF (KF h.ks) i.toNat key) h.kd h.ho then h.ho else-1) (turnI h.tu) ent_wish_anyKey ent_held_refusesNobody ent_held_rekeyed
  (fun wx=>ianykey_any i key 0 wx) (fun _ _ _ wx=>inobody_any (KF h.ks) h.kd h.ho h.tu i key 0 wx) (fun ok hi _ _ wx=>irekeyed_any (KF h.ks) h.kd h.ho h.tu i key 0 wx (ok_turn ok).1 (ok_turn ok).2 (in_four hi).1 (in_four hi).2)
 rw[registerA]at c
 obtain⟨r,HE⟩:∃r,Hid (r=h.register i key):=⟨_,rfl⟩
 rw[←HE.out]at c⊢
 clear HE hr hl
 obtain⟨z,t⟩:=r
 unfold Ans HV wiA at c
 dsimp only at c
 unfold hdA at hw1
 unfold HV
 conv in hdA (.slice ao h.ks.length cap) h=>unfold hdA
 have hs:=HB.out.2.2.2.1
 go_enter Tryz.func148,Tryz.ntmps148
 go_upto_region 1 with fail
 rw[←hw1]
 clear hw1
 go_wp2_with (first|(refine wpList_getS Tryz.isH rfl _ rfl w.heap.size rfl (hdA (.slice ao h.ks.length cap) h) rfl HB.out.1 ?_)|(go_at_call 173;refine c.mono ?_;rintro e w2 ⟨u,rfl,o2,b2⟩;have HB2:Hid (Bx w w2 (.slice ao h.ks.length cap) h):=HB.out.next b2;have O2:Hid (Own w2 w1.heap.size u z.ks):=o2;have ho1:=reads_one o2.reads;clear b2 o2)|(refine wpList_putS Tryz.isH rfl _ _ rfl (w.heap.size+1) (hdA u z) #[.slice none 0 0,.int .i64 0,.int .i64 0,.int .i64 0] rfl rfl rfl rfl (hdA_one _ ho1) HB2.out.2.1 ?_;intro we se ge))
 refine bodyPost_ret (results_S2 Tryz.isH rfl _ _ (w.heap.size+1) _ _ rfl rfl rfl se) rfl ?_
 exact⟨u,rfl,(O2.out.keptLt ge (by omega)).mono (by omega),HB2.out.2.2.1.grown ge HB2.out.2.2.1.size (fun x e=>by cases e;omega)⟩
theorem ireserve_any (v:Value) (h:Hd) (i k:Int) (w:World) (hr:Reads w v h.ks) (hl:h.ks.length≤1099511627776):
  Calls Tryz.prog 149 #[HV v h,.int .i64 i,.int .i64 k] w (Ans w (h.reserve i k)):=by
 obtain⟨ao,cap,rfl⟩:=reads_form hr
 obtain⟨w1,hw1⟩:∃w1,w1=(w.alloc (.cells (hdA (.slice ao h.ks.length cap) h) 28)).alloc (.cells #[.slice none 0 0,.int .i64 0,.int .i64 0,.int .i64 0] 28):=⟨_,rfl⟩
 have HB:Hid (Bx w w1 (.slice ao h.ks.length cap) h):=by rw[hw1];exact Bx.start hr
 have c:=iacted_any 1 194 195 196 idxA1 (.slice ao h.ks.length cap) h i 0 k w1 HB.out.2.2.2.2 hl (kiI k) (takenI (KF h.ks) h.kd h.ho i k) (KF h.ks) k (if allI k then-1 else i) h.tu ent_wish_someKind ent_held_isTaken ent_held_heldBy
  (fun wx=>isomekind_any i 0 k wx) (fun _ _ _ wx=>itaken_any (KF h.ks) h.kd h.ho h.tu i 0 k wx) (fun _ _ _ _ wx=>iheldby_any (KF h.ks) h.kd h.ho h.tu i 0 k wx)
 rw[reserveA]at c
 obtain⟨r,HE⟩:∃r,Hid (r=h.reserve i k):=⟨_,rfl⟩
 rw[←HE.out]at c⊢
 clear HE hr hl
 obtain⟨z,t⟩:=r
 unfold Ans HV wiA at c
 dsimp only at c
 unfold hdA at hw1
 unfold HV
 conv in hdA (.slice ao h.ks.length cap) h=>unfold hdA
 have hs:=HB.out.2.2.2.1
 go_enter Tryz.func149,Tryz.ntmps149
 go_upto_region 1 with fail
 rw[←hw1]
 clear hw1
 go_wp2_with (first|(refine wpList_getS Tryz.isH rfl _ rfl w.heap.size rfl (hdA (.slice ao h.ks.length cap) h) rfl HB.out.1 ?_)|(go_at_call 173;refine c.mono ?_;rintro e w2 ⟨u,rfl,o2,b2⟩;have HB2:Hid (Bx w w2 (.slice ao h.ks.length cap) h):=HB.out.next b2;have O2:Hid (Own w2 w1.heap.size u z.ks):=o2;have ho1:=reads_one o2.reads;clear b2 o2)|(refine wpList_putS Tryz.isH rfl _ _ rfl (w.heap.size+1) (hdA u z) #[.slice none 0 0,.int .i64 0,.int .i64 0,.int .i64 0] rfl rfl rfl rfl (hdA_one _ ho1) HB2.out.2.1 ?_;intro we se ge))
 refine bodyPost_ret (results_S2 Tryz.isH rfl _ _ (w.heap.size+1) _ _ rfl rfl rfl se) rfl ?_
 exact⟨u,rfl,(O2.out.keptLt ge (by omega)).mono (by omega),HB2.out.2.2.1.grown ge HB2.out.2.2.1.size (fun x e=>by cases e;omega)⟩
theorem irelease_any (v:Value) (h:Hd) (i:Int) (w:World) (hr:Reads w v h.ks) (hl:h.ks.length≤1099511627776):
  Calls Tryz.prog 150 #[HV v h,.int .i64 i] w (Ans w (h.release i)):=by
 obtain⟨ao,cap,rfl⟩:=reads_form hr
 obtain⟨w1,hw1⟩:∃w1,w1=(w.alloc (.cells (hdA (.slice ao h.ks.length cap) h) 28)).alloc (.cells #[.slice none 0 0,.int .i64 0,.int .i64 0,.int .i64 0] 28):=⟨_,rfl⟩
 have HB:Hid (Bx w w1 (.slice ao h.ks.length cap) h):=by rw[hw1];exact Bx.start hr
 have c:=iacted_any 2 197 198 199 idxA2 (.slice ao h.ks.length cap) h i 0 0 w1 HB.out.2.2.2.2 hl (true) (strI (KF h.ks) i) (KF h.ks) (if holdsF (KF h.ks) h.kd h.ho i then 0 else h.kd) (if holdsF (KF h.ks) h.kd h.ho i then-1 else h.ho) h.tu ent_wish_anything ent_held_isStrangeTo ent_held_left
  (fun wx=>ianything_any i 0 0 wx) (fun _ _ _ wx=>istrange_any (KF h.ks) h.kd h.ho h.tu i 0 0 wx) (fun _ _ _ _ wx=>ileft_any (KF h.ks) h.kd h.ho h.tu i 0 0 wx)
 rw[releaseA]at c
 obtain⟨r,HE⟩:∃r,Hid (r=h.release i):=⟨_,rfl⟩
 rw[←HE.out]at c⊢
 clear HE hr hl
 obtain⟨z,t⟩:=r
 unfold Ans HV wiA at c
 dsimp only at c
 unfold hdA at hw1
 unfold HV
 conv in hdA (.slice ao h.ks.length cap) h=>unfold hdA
 have hs:=HB.out.2.2.2.1
 go_enter Tryz.func150,Tryz.ntmps150
 go_upto_region 1 with fail
 rw[←hw1]
 clear hw1
 go_wp2_with (first|(refine wpList_getS Tryz.isH rfl _ rfl w.heap.size rfl (hdA (.slice ao h.ks.length cap) h) rfl HB.out.1 ?_)|(go_at_call 173;refine c.mono ?_;rintro e w2 ⟨u,rfl,o2,b2⟩;have HB2:Hid (Bx w w2 (.slice ao h.ks.length cap) h):=HB.out.next b2;have O2:Hid (Own w2 w1.heap.size u z.ks):=o2;have ho1:=reads_one o2.reads;clear b2 o2)|(refine wpList_putS Tryz.isH rfl _ _ rfl (w.heap.size+1) (hdA u z) #[.slice none 0 0,.int .i64 0,.int .i64 0,.int .i64 0] rfl rfl rfl rfl (hdA_one _ ho1) HB2.out.2.1 ?_;intro we se ge))
 refine bodyPost_ret (results_S2 Tryz.isH rfl _ _ (w.heap.size+1) _ _ rfl rfl rfl se) rfl ?_
 exact⟨u,rfl,(O2.out.keptLt ge (by omega)).mono (by omega),HB2.out.2.2.1.grown ge HB2.out.2.2.1.size (fun x e=>by cases e;omega)⟩
theorem iclear_any (v:Value) (h:Hd) (i:Int) (w:World) (hr:Reads w v h.ks) (hl:h.ks.length≤1099511627776):
  Calls Tryz.prog 151 #[HV v h,.int .i64 i] w (Ans w (h.clear i)):=by
 obtain⟨ao,cap,rfl⟩:=reads_form hr
 obtain⟨w1,hw1⟩:∃w1,w1=(w.alloc (.cells (hdA (.slice ao h.ks.length cap) h) 28)).alloc (.cells #[.slice none 0 0,.int .i64 0,.int .i64 0,.int .i64 0] 28):=⟨_,rfl⟩
 have HB:Hid (Bx w w1 (.slice ao h.ks.length cap) h):=by rw[hw1];exact Bx.start hr
 have c:=iacted_any 3 197 198 200 idxA3 (.slice ao h.ks.length cap) h i 0 0 w1 HB.out.2.2.2.2 hl (true) (strI (KF h.ks) i) (fun _=>0) 0 (-1) (turnI h.tu) ent_wish_anything ent_held_isStrangeTo ent_held_cleared
  (fun wx=>ianything_any i 0 0 wx) (fun _ _ _ wx=>istrange_any (KF h.ks) h.kd h.ho h.tu i 0 0 wx) (fun ok _ _ _ wx=>icleared_any (KF h.ks) h.kd h.ho h.tu i 0 0 wx (ok_turn ok).1 (ok_turn ok).2)
 rw[clearA]at c
 obtain⟨r,HE⟩:∃r,Hid (r=h.clear i):=⟨_,rfl⟩
 rw[←HE.out]at c⊢
 clear HE hr hl
 obtain⟨z,t⟩:=r
 unfold Ans HV wiA at c
 dsimp only at c
 unfold hdA at hw1
 unfold HV
 conv in hdA (.slice ao h.ks.length cap) h=>unfold hdA
 have hs:=HB.out.2.2.2.1
 go_enter Tryz.func151,Tryz.ntmps151
 go_upto_region 1 with fail
 rw[←hw1]
 clear hw1
 go_wp2_with (first|(refine wpList_getS Tryz.isH rfl _ rfl w.heap.size rfl (hdA (.slice ao h.ks.length cap) h) rfl HB.out.1 ?_)|(go_at_call 173;refine c.mono ?_;rintro e w2 ⟨u,rfl,o2,b2⟩;have HB2:Hid (Bx w w2 (.slice ao h.ks.length cap) h):=HB.out.next b2;have O2:Hid (Own w2 w1.heap.size u z.ks):=o2;have ho1:=reads_one o2.reads;clear b2 o2)|(refine wpList_putS Tryz.isH rfl _ _ rfl (w.heap.size+1) (hdA u z) #[.slice none 0 0,.int .i64 0,.int .i64 0,.int .i64 0] rfl rfl rfl rfl (hdA_one _ ho1) HB2.out.2.1 ?_;intro we se ge))
 refine bodyPost_ret (results_S2 Tryz.isH rfl _ _ (w.heap.size+1) _ _ rfl rfl rfl se) rfl ?_
 exact⟨u,rfl,(O2.out.keptLt ge (by omega)).mono (by omega),HB2.out.2.2.1.grown ge HB2.out.2.2.1.size (fun x e=>by cases e;omega)⟩
theorem ipreempt_any (v:Value) (h:Hd) (i key k:Int) (w:World) (hr:Reads w v h.ks) (hl:h.ks.length≤1099511627776):
  Calls Tryz.prog 152 #[HV v h,.int .i64 i,.int .i64 key,.int .i64 k] w (Ans w (h.preempt i key k)):=by
 obtain⟨ao,cap,rfl⟩:=reads_form hr
 obtain⟨w1,hw1⟩:∃w1,w1=(w.alloc (.cells (hdA (.slice ao h.ks.length cap) h) 28)).alloc (.cells #[.slice none 0 0,.int .i64 0,.int .i64 0,.int .i64 0] 28):=⟨_,rfl⟩
 have HB:Hid (Bx w w1 (.slice ao h.ks.length cap) h):=by rw[hw1];exact Bx.start hr
 have c:=iacted_any 4 201 202 203 idxA4 (.slice ao h.ks.length cap) h i key k w1 HB.out.2.2.2.2 hl (inI key 1 9999&&kiI k) (lacksI (KF h.ks) i key) (strF (KF h.ks) i.toNat key 4) (if fallsI (KF h.ks) h.kd h.ho i key then k else h.kd) (if fallsI (KF h.ks) h.kd h.ho i key then(if allI k then-1 else i)else h.ho) (turnI h.tu) ent_wish_someKeyAndKind ent_held_hasNoSuchKey ent_held_preempted
  (fun wx=>isomekk_any i key k wx) (fun _ _ _ wx=>ilacks_any (KF h.ks) h.kd h.ho h.tu i key k wx) (fun ok hi _ _ wx=>ipreempted_any (KF h.ks) h.kd h.ho h.tu i key k wx (ok_turn ok).1 (ok_turn ok).2 (in_four hi).1 (in_four hi).2)
 rw[preemptA]at c
 obtain⟨r,HE⟩:∃r,Hid (r=h.preempt i key k):=⟨_,rfl⟩
 rw[←HE.out]at c⊢
 clear HE hr hl
 obtain⟨z,t⟩:=r
 unfold Ans HV wiA at c
 dsimp only at c
 unfold hdA at hw1
 unfold HV
 conv in hdA (.slice ao h.ks.length cap) h=>unfold hdA
 have hs:=HB.out.2.2.2.1
 go_enter Tryz.func152,Tryz.ntmps152
 go_upto_region 1 with fail
 rw[←hw1]
 clear hw1
 go_wp2_with (first|(refine wpList_getS Tryz.isH rfl _ rfl w.heap.size rfl (hdA (.slice ao h.ks.length cap) h) rfl HB.out.1 ?_)|(go_at_call 173;refine c.mono ?_;rintro e w2 ⟨u,rfl,o2,b2⟩;have HB2:Hid (Bx w w2 (.slice ao h.ks.length cap) h):=HB.out.next b2;have O2:Hid (Own w2 w1.heap.size u z.ks):=o2;have ho1:=reads_one o2.reads;clear b2 o2)|(refine wpList_putS Tryz.isH rfl _ _ rfl (w.heap.size+1) (hdA u z) #[.slice none 0 0,.int .i64 0,.int .i64 0,.int .i64 0] rfl rfl rfl rfl (hdA_one _ ho1) HB2.out.2.1 ?_;intro we se ge))
 refine bodyPost_ret (results_S2 Tryz.isH rfl _ _ (w.heap.size+1) _ _ rfl rfl rfl se) rfl ?_
 exact⟨u,rfl,(O2.out.keptLt ge (by omega)).mono (by omega),HB2.out.2.2.1.grown ge HB2.out.2.2.1.size (fun x e=>by cases e;omega)⟩
end Go.Proofs.YtpdggofaobmnlaaGreatDoor
namespace Go.Proofs.YtpdggofaobmnlaaGreatDoor
open Go.ChangeShapes Go.WideShapes Go.ChangeAt Go.RowKit
def Hd.after (h:Hd) (i:Int) (c:Cm):Hd×Int:=if c.o=6 then h.register i c.a else if c.o=7 then h.reserve i c.k else if c.o=8 then h.release i else if c.o=9 then h.clear i else h.preempt i c.a c.k
structure Hx (w wx:World) (q:Value) (h:Hd) (c:Cm):Prop where
 hd:StB wx w.heap.size 28 (hdA q h)
 cm:StB wx (w.heap.size+1) 32 (cmA c)
 rs:StB wx (w.heap.size+1+1) 28 #[.slice none 0 0,.int .i64 0,.int .i64 0,.int .i64 0]
 bl:Below w.heap.size w wx
 sz:w.heap.size+3≤wx.heap.size
theorem Hx.start (w:World) (q:Value) (h:Hd) (c:Cm):Hx w (((w.alloc (.cells (hdA q h) 28)).alloc (.cells (cmA c) 32)).alloc (.cells #[.slice none 0 0,.int .i64 0,.int .i64 0,.int .i64 0] 28)) q h c:=by
 have a2:=StB.new (w.alloc (.cells (hdA q h) 28)) 32 (cmA c)
 have a3:=StB.new ((w.alloc (.cells (hdA q h) 28)).alloc (.cells (cmA c) 32)) 28 #[.slice none 0 0,.int .i64 0,.int .i64 0,.int .i64 0]
 simp only[World.size_alloc]at a2 a3
 exact⟨((StB.new w _ _).alloc _).alloc _,a2.alloc _,a3,(((Below.refl _ _).alloc (Nat.le_refl _) _).alloc (by simp) _).alloc (by simp;omega) _,by simp⟩
theorem Hx.next {w wx wy:World} {q:Value} {h:Hd} {c:Cm} (d:Hx w wx q h c) (b:Below wx.heap.size wx wy):Hx w wy q h c:=
 ⟨d.hd.below b,d.cm.below b,d.rs.below b,d.bl.trans (b.mono d.bl.size),Nat.le_trans d.sz b.size⟩
theorem iheldRegister_any (q:Value) (h:Hd) (i:Int) (c:Cm) (w:World) (hq:Reads w q h.ks) (hl:h.ks.length≤1099511627776) (e6:c.o=6):
  Calls Tryz.prog 114 #[HV q h,.int .i64 i,CV c] w (Ans w (h.register i c.a)):=by
 have E6:Hid (c.o=6):=e6
 clear e6
 obtain⟨w1,hw1⟩:∃w1,w1=((w.alloc (.cells (hdA q h) 28)).alloc (.cells (cmA c) 32)).alloc (.cells #[.slice none 0 0,.int .i64 0,.int .i64 0,.int .i64 0] 28):=⟨_,rfl⟩
 have HX:Hid (Hx w w1 q h c):=by rw[hw1];exact Hx.start w q h c
 have c1:=iregister_any q h i c.a w1 (hq.below HX.out.bl (Nat.le_refl _)) hl
 obtain⟨r,hr⟩:∃r,r=h.register i c.a:=⟨_,rfl⟩
 rw[←hr]at c1⊢
 obtain⟨qo,qc,rfl⟩:=reads_form hq
 clear hr hq hl
 unfold Ans HV at c1
 unfold Ans HV CV
 conv in hdA (.slice qo h.ks.length qc) _=>unfold hdA
 unfold cmA
 unfold hdA cmA at hw1
 have k0:w1.cell? ⟨w.heap.size+1,0,none⟩=some (.int .i64 c.o):=HX.out.cm.cell 0 rfl
 have k2:w1.cell? ⟨w.heap.size+1,2,none⟩=some (.int .i64 c.a):=HX.out.cm.cell 2 rfl
 have k4:w1.cell? ⟨w.heap.size+1,4,none⟩=some (.int .i64 c.k):=HX.out.cm.cell 4 rfl
 go_enter Tryz.func114,Tryz.ntmps114
 go_upto_region 1 with fail
 rw[←hw1]
 clear hw1
 have e6:=E6.out
 go_wp2_with (refine wpList_getS Tryz.isH rfl _ rfl w.heap.size rfl _ rfl HX.out.hd ?_)
 refine c1.mono ?_
 rintro e w2 ⟨u,rfl,o2,b2⟩
 have H2:Hid (Hx w w2 (.slice qo h.ks.length qc) h c):=HX.out.next b2
 have O2:Hid (Own w2 (w.heap.size+3) u r.1.ks):=o2.mono HX.out.sz
 obtain⟨uo,uc,rfl⟩:=reads_form o2.reads
 clear o2 b2 c1 HX k0 k2 k4
 go_wp2_with (refine wpList_putS Tryz.isH rfl _ _ rfl (w.heap.size+1+1) (hdA (.slice uo r.1.ks.length uc) r.1) #[.slice none 0 0,.int .i64 0,.int .i64 0,.int .i64 0] rfl rfl rfl rfl (hdA_one _ rfl) H2.out.rs ?_;intro we se ge)
 refine bodyPost_ret (results_S2 Tryz.isH rfl _ _ (w.heap.size+1+1) _ _ rfl rfl rfl se) rfl ?_
 exact⟨_,rfl,(O2.out.keptLt ge (by omega)).mono (by omega),H2.out.bl.grown ge H2.out.bl.size (fun x e=>by cases e;omega)⟩
theorem iheldReserve_any (q:Value) (h:Hd) (i:Int) (c:Cm) (w:World) (hq:Reads w q h.ks) (hl:h.ks.length≤1099511627776) (n6:c.o≠6) (e7:c.o=7):
  Calls Tryz.prog 114 #[HV q h,.int .i64 i,CV c] w (Ans w (h.reserve i c.k)):=by
 have N6:Hid (c.o≠6):=n6
 clear n6
 have E7:Hid (c.o=7):=e7
 clear e7
 obtain⟨w1,hw1⟩:∃w1,w1=((w.alloc (.cells (hdA q h) 28)).alloc (.cells (cmA c) 32)).alloc (.cells #[.slice none 0 0,.int .i64 0,.int .i64 0,.int .i64 0] 28):=⟨_,rfl⟩
 have HX:Hid (Hx w w1 q h c):=by rw[hw1];exact Hx.start w q h c
 have c1:=ireserve_any q h i c.k w1 (hq.below HX.out.bl (Nat.le_refl _)) hl
 obtain⟨r,hr⟩:∃r,r=h.reserve i c.k:=⟨_,rfl⟩
 rw[←hr]at c1⊢
 obtain⟨qo,qc,rfl⟩:=reads_form hq
 clear hr hq hl
 unfold Ans HV at c1
 unfold Ans HV CV
 conv in hdA (.slice qo h.ks.length qc) _=>unfold hdA
 unfold cmA
 unfold hdA cmA at hw1
 have k0:w1.cell? ⟨w.heap.size+1,0,none⟩=some (.int .i64 c.o):=HX.out.cm.cell 0 rfl
 have k2:w1.cell? ⟨w.heap.size+1,2,none⟩=some (.int .i64 c.a):=HX.out.cm.cell 2 rfl
 have k4:w1.cell? ⟨w.heap.size+1,4,none⟩=some (.int .i64 c.k):=HX.out.cm.cell 4 rfl
 go_enter Tryz.func114,Tryz.ntmps114
 go_upto_region 1 with fail
 rw[←hw1]
 clear hw1
 have n6:=N6.out
 have e7:=E7.out
 go_wp2_with (refine wpList_getS Tryz.isH rfl _ rfl w.heap.size rfl _ rfl HX.out.hd ?_)
 refine c1.mono ?_
 rintro e w2 ⟨u,rfl,o2,b2⟩
 have H2:Hid (Hx w w2 (.slice qo h.ks.length qc) h c):=HX.out.next b2
 have O2:Hid (Own w2 (w.heap.size+3) u r.1.ks):=o2.mono HX.out.sz
 obtain⟨uo,uc,rfl⟩:=reads_form o2.reads
 clear o2 b2 c1 HX k0 k2 k4
 go_wp2_with (refine wpList_putS Tryz.isH rfl _ _ rfl (w.heap.size+1+1) (hdA (.slice uo r.1.ks.length uc) r.1) #[.slice none 0 0,.int .i64 0,.int .i64 0,.int .i64 0] rfl rfl rfl rfl (hdA_one _ rfl) H2.out.rs ?_;intro we se ge)
 refine bodyPost_ret (results_S2 Tryz.isH rfl _ _ (w.heap.size+1+1) _ _ rfl rfl rfl se) rfl ?_
 exact⟨_,rfl,(O2.out.keptLt ge (by omega)).mono (by omega),H2.out.bl.grown ge H2.out.bl.size (fun x e=>by cases e;omega)⟩
theorem iheldRelease_any (q:Value) (h:Hd) (i:Int) (c:Cm) (w:World) (hq:Reads w q h.ks) (hl:h.ks.length≤1099511627776) (n6:c.o≠6) (n7:c.o≠7) (e8:c.o=8):
  Calls Tryz.prog 114 #[HV q h,.int .i64 i,CV c] w (Ans w (h.release i)):=by
 have N6:Hid (c.o≠6):=n6
 clear n6
 have N7:Hid (c.o≠7):=n7
 clear n7
 have E8:Hid (c.o=8):=e8
 clear e8
 obtain⟨w1,hw1⟩:∃w1,w1=((w.alloc (.cells (hdA q h) 28)).alloc (.cells (cmA c) 32)).alloc (.cells #[.slice none 0 0,.int .i64 0,.int .i64 0,.int .i64 0] 28):=⟨_,rfl⟩
 have HX:Hid (Hx w w1 q h c):=by rw[hw1];exact Hx.start w q h c
 have c1:=irelease_any q h i w1 (hq.below HX.out.bl (Nat.le_refl _)) hl
 obtain⟨r,hr⟩:∃r,r=h.release i:=⟨_,rfl⟩
 rw[←hr]at c1⊢
 obtain⟨qo,qc,rfl⟩:=reads_form hq
 clear hr hq hl
 unfold Ans HV at c1
 unfold Ans HV CV
 conv in hdA (.slice qo h.ks.length qc) _=>unfold hdA
 unfold cmA
 unfold hdA cmA at hw1
 have k0:w1.cell? ⟨w.heap.size+1,0,none⟩=some (.int .i64 c.o):=HX.out.cm.cell 0 rfl
 have k2:w1.cell? ⟨w.heap.size+1,2,none⟩=some (.int .i64 c.a):=HX.out.cm.cell 2 rfl
 have k4:w1.cell? ⟨w.heap.size+1,4,none⟩=some (.int .i64 c.k):=HX.out.cm.cell 4 rfl
 go_enter Tryz.func114,Tryz.ntmps114
 go_upto_region 1 with fail
 rw[←hw1]
 clear hw1
 have n6:=N6.out
 have n7:=N7.out
 have e8:=E8.out
 go_wp2_with (refine wpList_getS Tryz.isH rfl _ rfl w.heap.size rfl _ rfl HX.out.hd ?_)
 refine c1.mono ?_
 rintro e w2 ⟨u,rfl,o2,b2⟩
 have H2:Hid (Hx w w2 (.slice qo h.ks.length qc) h c):=HX.out.next b2
 have O2:Hid (Own w2 (w.heap.size+3) u r.1.ks):=o2.mono HX.out.sz
 obtain⟨uo,uc,rfl⟩:=reads_form o2.reads
 clear o2 b2 c1 HX k0 k2 k4
 go_wp2_with (refine wpList_putS Tryz.isH rfl _ _ rfl (w.heap.size+1+1) (hdA (.slice uo r.1.ks.length uc) r.1) #[.slice none 0 0,.int .i64 0,.int .i64 0,.int .i64 0] rfl rfl rfl rfl (hdA_one _ rfl) H2.out.rs ?_;intro we se ge)
 refine bodyPost_ret (results_S2 Tryz.isH rfl _ _ (w.heap.size+1+1) _ _ rfl rfl rfl se) rfl ?_
 exact⟨_,rfl,(O2.out.keptLt ge (by omega)).mono (by omega),H2.out.bl.grown ge H2.out.bl.size (fun x e=>by cases e;omega)⟩
theorem iheldClear_any (q:Value) (h:Hd) (i:Int) (c:Cm) (w:World) (hq:Reads w q h.ks) (hl:h.ks.length≤1099511627776) (n6:c.o≠6) (n7:c.o≠7) (n8:c.o≠8) (e9:c.o=9):
  Calls Tryz.prog 114 #[HV q h,.int .i64 i,CV c] w (Ans w (h.clear i)):=by
 have N6:Hid (c.o≠6):=n6
 clear n6
 have N7:Hid (c.o≠7):=n7
 clear n7
 have N8:Hid (c.o≠8):=n8
 clear n8
 have E9:Hid (c.o=9):=e9
 clear e9
 obtain⟨w1,hw1⟩:∃w1,w1=((w.alloc (.cells (hdA q h) 28)).alloc (.cells (cmA c) 32)).alloc (.cells #[.slice none 0 0,.int .i64 0,.int .i64 0,.int .i64 0] 28):=⟨_,rfl⟩
 have HX:Hid (Hx w w1 q h c):=by rw[hw1];exact Hx.start w q h c
 have c1:=iclear_any q h i w1 (hq.below HX.out.bl (Nat.le_refl _)) hl
 obtain⟨r,hr⟩:∃r,r=h.clear i:=⟨_,rfl⟩
 rw[←hr]at c1⊢
 obtain⟨qo,qc,rfl⟩:=reads_form hq
 clear hr hq hl
 unfold Ans HV at c1
 unfold Ans HV CV
 conv in hdA (.slice qo h.ks.length qc) _=>unfold hdA
 unfold cmA
 unfold hdA cmA at hw1
 have k0:w1.cell? ⟨w.heap.size+1,0,none⟩=some (.int .i64 c.o):=HX.out.cm.cell 0 rfl
 have k2:w1.cell? ⟨w.heap.size+1,2,none⟩=some (.int .i64 c.a):=HX.out.cm.cell 2 rfl
 have k4:w1.cell? ⟨w.heap.size+1,4,none⟩=some (.int .i64 c.k):=HX.out.cm.cell 4 rfl
 go_enter Tryz.func114,Tryz.ntmps114
 go_upto_region 1 with fail
 rw[←hw1]
 clear hw1
 have n6:=N6.out
 have n7:=N7.out
 have n8:=N8.out
 have e9:=E9.out
 go_wp2_with (refine wpList_getS Tryz.isH rfl _ rfl w.heap.size rfl _ rfl HX.out.hd ?_)
 refine c1.mono ?_
 rintro e w2 ⟨u,rfl,o2,b2⟩
 have H2:Hid (Hx w w2 (.slice qo h.ks.length qc) h c):=HX.out.next b2
 have O2:Hid (Own w2 (w.heap.size+3) u r.1.ks):=o2.mono HX.out.sz
 obtain⟨uo,uc,rfl⟩:=reads_form o2.reads
 clear o2 b2 c1 HX k0 k2 k4
 go_wp2_with (refine wpList_putS Tryz.isH rfl _ _ rfl (w.heap.size+1+1) (hdA (.slice uo r.1.ks.length uc) r.1) #[.slice none 0 0,.int .i64 0,.int .i64 0,.int .i64 0] rfl rfl rfl rfl (hdA_one _ rfl) H2.out.rs ?_;intro we se ge)
 refine bodyPost_ret (results_S2 Tryz.isH rfl _ _ (w.heap.size+1+1) _ _ rfl rfl rfl se) rfl ?_
 exact⟨_,rfl,(O2.out.keptLt ge (by omega)).mono (by omega),H2.out.bl.grown ge H2.out.bl.size (fun x e=>by cases e;omega)⟩
theorem iheldPreempt_any (q:Value) (h:Hd) (i:Int) (c:Cm) (w:World) (hq:Reads w q h.ks) (hl:h.ks.length≤1099511627776) (n6:c.o≠6) (n7:c.o≠7) (n8:c.o≠8) (n9:c.o≠9):
  Calls Tryz.prog 114 #[HV q h,.int .i64 i,CV c] w (Ans w (h.preempt i c.a c.k)):=by
 have N6:Hid (c.o≠6):=n6
 clear n6
 have N7:Hid (c.o≠7):=n7
 clear n7
 have N8:Hid (c.o≠8):=n8
 clear n8
 have N9:Hid (c.o≠9):=n9
 clear n9
 obtain⟨w1,hw1⟩:∃w1,w1=((w.alloc (.cells (hdA q h) 28)).alloc (.cells (cmA c) 32)).alloc (.cells #[.slice none 0 0,.int .i64 0,.int .i64 0,.int .i64 0] 28):=⟨_,rfl⟩
 have HX:Hid (Hx w w1 q h c):=by rw[hw1];exact Hx.start w q h c
 have c1:=ipreempt_any q h i c.a c.k w1 (hq.below HX.out.bl (Nat.le_refl _)) hl
 obtain⟨r,hr⟩:∃r,r=h.preempt i c.a c.k:=⟨_,rfl⟩
 rw[←hr]at c1⊢
 obtain⟨qo,qc,rfl⟩:=reads_form hq
 clear hr hq hl
 unfold Ans HV at c1
 unfold Ans HV CV
 conv in hdA (.slice qo h.ks.length qc) _=>unfold hdA
 unfold cmA
 unfold hdA cmA at hw1
 have k0:w1.cell? ⟨w.heap.size+1,0,none⟩=some (.int .i64 c.o):=HX.out.cm.cell 0 rfl
 have k2:w1.cell? ⟨w.heap.size+1,2,none⟩=some (.int .i64 c.a):=HX.out.cm.cell 2 rfl
 have k4:w1.cell? ⟨w.heap.size+1,4,none⟩=some (.int .i64 c.k):=HX.out.cm.cell 4 rfl
 go_enter Tryz.func114,Tryz.ntmps114
 go_upto_region 1 with fail
 rw[←hw1]
 clear hw1
 have n6:=N6.out
 have n7:=N7.out
 have n8:=N8.out
 have n9:=N9.out
 go_wp2_with (refine wpList_getS Tryz.isH rfl _ rfl w.heap.size rfl _ rfl HX.out.hd ?_)
 refine c1.mono ?_
 rintro e w2 ⟨u,rfl,o2,b2⟩
 have H2:Hid (Hx w w2 (.slice qo h.ks.length qc) h c):=HX.out.next b2
 have O2:Hid (Own w2 (w.heap.size+3) u r.1.ks):=o2.mono HX.out.sz
 obtain⟨uo,uc,rfl⟩:=reads_form o2.reads
 clear o2 b2 c1 HX k0 k2 k4
 go_wp2_with (refine wpList_putS Tryz.isH rfl _ _ rfl (w.heap.size+1+1) (hdA (.slice uo r.1.ks.length uc) r.1) #[.slice none 0 0,.int .i64 0,.int .i64 0,.int .i64 0] rfl rfl rfl rfl (hdA_one _ rfl) H2.out.rs ?_;intro we se ge)
 refine bodyPost_ret (results_S2 Tryz.isH rfl _ _ (w.heap.size+1+1) _ _ rfl rfl rfl se) rfl ?_
 exact⟨_,rfl,(O2.out.keptLt ge (by omega)).mono (by omega),H2.out.bl.grown ge H2.out.bl.size (fun x e=>by cases e;omega)⟩
theorem iheldAfter_any (q:Value) (h:Hd) (i:Int) (c:Cm) (w:World) (hq:Reads w q h.ks) (hl:h.ks.length≤1099511627776):
  Calls Tryz.prog 114 #[HV q h,.int .i64 i,CV c] w (Ans w (h.after i c)):=by
 unfold Hd.after
 by_cases e6:c.o=6
 ·rw[if_pos e6];exact iheldRegister_any q h i c w hq hl e6
 rw[if_neg e6]
 by_cases e7:c.o=7
 ·rw[if_pos e7];exact iheldReserve_any q h i c w hq hl e6 e7
 rw[if_neg e7]
 by_cases e8:c.o=8
 ·rw[if_pos e8];exact iheldRelease_any q h i c w hq hl e6 e7 e8
 rw[if_neg e8]
 by_cases e9:c.o=9
 ·rw[if_pos e9];exact iheldClear_any q h i c w hq hl e6 e7 e8 e9
 rw[if_neg e9]
 exact iheldPreempt_any q h i c w hq hl e6 e7 e8 e9
end Go.Proofs.YtpdggofaobmnlaaGreatDoor
