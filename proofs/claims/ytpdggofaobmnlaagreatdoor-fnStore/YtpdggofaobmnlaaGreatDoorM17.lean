import Derived.Test.YtpdggofaobmnlaaGreatDoorM11
import Derived.Test.YtpdggofaobmnlaaGreatDoorM15
import Derived.Test.YtpdggofaobmnlaaGreatDoorM16
import Derived.Test.YtpdggofaobmnlaaGreatDoorM6
import Derived.Test.YtpdggofaobmnlaaGreatDoorM1
import Derived.Deep.QuietTactic
import Derived.Test.YtpdggofaobmnlaaGreatDoorM14
import Derived.BigQuiet
/- What the laws on stores ask, of plain lists and numbers. -/
set_option maxRecDepth 20000
set_option maxHeartbeats 4000000
namespace Go.Proofs.YtpdggofaobmnlaaGreatDoor
open Go.RowKit
theorem pred_unreg {h:Hd} {i:Int} (e:regI h.ks i=false) (key k:Int):h.pred i key k=(h,false):=by simp[Hd.pred,e]
theorem act_unreg {h:Hd} {i:Int} (e:regI h.ks i=false) (c:Cm) (h6:c.o≠6):(h.act i c).1=h:=by
 unfold Hd.act
 rw[if_neg h6]
 split
 ·simp[conf,Hd.resd,e]
 ·split
  ·simp[conf,Hd.reld,e]
  ·split
   ·simp[conf,Hd.clrd,e]
   ·split
    ·split
     ·rfl
     ·simp[conf,pred_unreg e]
    ·split<;>rfl
theorem resd_no (h:Hd) (i k:Int):(h.resd i k).2=false→(h.resd i k).1=h:=by
 unfold Hd.resd
 split
 ·intro;rfl
 ·split
  ·intro e;cases e
  ·intro;rfl
theorem reld_no (h:Hd) (i:Int):(h.reld i).2=false→(h.reld i).1=h:=by
 unfold Hd.reld
 split
 ·intro;rfl
 ·split
  ·intro e;cases e
  ·intro;rfl
theorem clrd_no (h:Hd) (i:Int):(h.clrd i).2=false→(h.clrd i).1=h:=by
 unfold Hd.clrd
 split
 ·intro;rfl
 ·intro e;cases e
theorem pred_no (h:Hd) (i key k:Int):(h.pred i key k).2=false→(h.pred i key k).1=h:=by
 unfold Hd.pred
 split
 ·intro;rfl
 ·split
  ·intro e;cases e
  ·intro e;cases e
theorem conf_ne {r:Hd×Bool} {h:Hd} (hr:r.2=false→r.1=h) (hs:(conf r).2.st≠0):(conf r).1=h:=by
 obtain⟨a,b⟩:=r
 cases b with
 |false=>exact hr rfl
 |true=>exact absurd rfl hs
theorem act_bad {h:Hd} {i:Int} {c:Cm}:(h.act i c).2.st≠0→(h.act i c).1=h:=by
 unfold Hd.act
 split
 ·intro e;exact absurd rfl e
 ·split
  ·exact conf_ne (resd_no h i c.k)
  ·split
   ·exact conf_ne (reld_no h i)
   ·split
    ·exact conf_ne (clrd_no h i)
    ·split
     ·split
      ·intro;rfl
      ·exact conf_ne (pred_no h i c.a c.k)
     ·split
      ·intro;rfl
      ·intro;rfl
theorem didI_bad {xs ys:List Int} {c:Cm}:(didI xs ys c).2.2.st≠0→(didI xs ys c).1=xs∧(didI xs ys c).2.1=ys:=by
 unfold didI
 split
 ·intro e;exact absurd rfl e
 ·split
  ·intro;exact⟨rfl,rfl⟩
  ·split
   ·intro e;exact absurd rfl e
   ·split
    ·intro e;exact absurd rfl e
    ·split
     ·split
      ·intro e;exact absurd rfl e
      ·intro;exact⟨rfl,rfl⟩
     ·intro e;exact absurd rfl e
theorem didI_st {xs ys:List Int} {c:Cm}:(didI xs ys c).2.2.st≠3∧(didI xs ys c).2.2.st≠7:=by
 unfold didI
 repeat' split
 all_goals simp
theorem conf_st (r:Hd×Bool):(conf r).2.st≠7:=by
 obtain⟨a,b⟩:=r
 cases b<;>simp[conf]
theorem act_st (h:Hd) (i:Int) (c:Cm):(h.act i c).2.st≠7:=by
 unfold Hd.act
 repeat' split
 all_goals first|exact conf_st _|simp
theorem did_bad {s:Sr} {i:Int} {c:Cm} (ok:s.ok=true) (hs:(s.did i c).2.st≠0):(s.did i c).1=s:=by
 unfold Sr.did at hs⊢
 rw[if_pos ok]at hs⊢
 split at hs
 ·rename_i q
  rw[if_pos q]
  unfold Sr.doing at hs⊢
  split at hs
  ·rename_i q5
   rw[if_pos q5]
   dsimp only
   rw[act_bad hs]
  ·rename_i q5
   rw[if_neg q5]
   split at hs
   ·rename_i qm
    rw[if_pos qm]
    dsimp only
    obtain⟨e1,e2⟩:=didI_bad hs
    rw[e1,e2]
   ·rename_i qm
    rw[if_neg qm]
 ·rename_i q
  rw[if_neg q]
theorem did_seven {s:Sr} {i:Int} {c:Cm} (ok:s.ok=true):(s.did i c).2.st=7→(inI i 0 3&&c.ok)=false:=by
 unfold Sr.did
 rw[if_pos ok]
 split
 ·intro e
  exfalso
  unfold Sr.doing at e
  split at e
  ·exact act_st _ _ _ e
  ·split at e
   ·exact didI_st.2 e
   ·simp at e
 ·rename_i q
  intro
  simpa using q
theorem did_low {s:Sr} {i:Int} {c:Cm} (ok:s.ok=true) (hi:(inI i 0 3&&c.ok)=true) (h5:c.o≤5):(s.did i c).1.h=s.h∧decide ((s.did i c).2.st=3)= !s.h.may i (decide (c.o≠1)):=by
 unfold Sr.did Sr.doing
 rw[if_pos ok,if_pos hi,if_neg (by omega)]
 cases hm:s.h.may i (decide (c.o≠1))with
 |true=>
  rw[if_pos rfl]
  exact⟨rfl,by simp[didI_st.1]⟩
 |false=>
  rw[if_neg (by decide)]
  exact⟨rfl,rfl⟩
theorem did_high {s:Sr} {i:Int} {c:Cm} (ok:s.ok=true) (hi:(inI i 0 3&&c.ok)=true) (h5:5<c.o):(s.did i c).1.xs=s.xs∧(s.did i c).1.ys=s.ys∧(regI s.h.ks i=false→c.o≠6→(s.did i c).1.h=s.h):=by
 unfold Sr.did Sr.doing
 rw[if_pos ok,if_pos hi,if_pos h5]
 exact⟨rfl,rfl,fun e h6=>act_unreg e c h6⟩
theorem free_ok {h:Hd} (ok:h.ok=true):h.free.ok=true:=by
 obtain⟨hl,ht,hk, -⟩:=ok_iff.1 ok
 exact ok_iff.2 ⟨hl,ht,hk,mid_iff.2 (.inl ⟨rfl,rfl⟩)⟩
theorem clrd_ok {h:Hd} (ok:h.ok=true) (i:Int):(h.clrd i).1.ok=true:=by
 obtain⟨hl,ht,hk,hm⟩:=ok_iff.1 ok
 unfold Hd.clrd
 split
 ·exact ok
 ·refine ok_iff.2 ⟨rfl,?_,(show keysI [0,0,0,0]=true by decide),mid_iff.2 (.inl ⟨rfl,rfl⟩)⟩
  dsimp only
  unfold turnI
  split<;>omega
theorem resd_ok {h:Hd} (ok:h.ok=true) {i k:Int} (hi:0≤i∧i≤3) (hk:kiI k=true):(h.resd i k).1.ok=true:=by
 unfold Hd.resd
 split
 ·exact ok
 ·rename_i hr
  split
  ·exact take_ok ok hi (reg_of.1 (by simpa using hr)) hk
  ·exact ok
theorem reld_ok {h:Hd} (ok:h.ok=true) (i:Int):(h.reld i).1.ok=true:=by
 unfold Hd.reld
 split
 ·exact ok
 ·split
  ·exact free_ok ok
  ·exact ok
theorem pred_ok {h:Hd} (ok:h.ok=true) {i key k:Int} (hi:inI i 0 3=true) (hy:inI key 1 9999=true) (hk:kiI k=true):(h.pred i key k).1.ok=true:=by
 have e:h.preempt i key k=told (h.pred i key k):=by simp[Hd.preempt,ok,hi,hy,hk]
 have c:=preempt_cases h i key k
 rw[e]at c
 unfold told at c
 rcases c with c|c|⟨x,c, -, -, -, -, -, -,hx, -⟩
 ·have:=congrArg Prod.snd c
  dsimp only at this
  split at this<;>cases this
 ·have:=congrArg Prod.fst c
  dsimp only at this
  rw[this]
  exact ok
 ·have:=congrArg Prod.fst c
  dsimp only at this
  rw[this]
  exact hx
theorem act_ok {h:Hd} (ok:h.ok=true) {i:Int} {c:Cm} (hi:inI i 0 3=true) (hc:c.ok=true):(h.act i c).1.ok=true:=by
 have hi':=(inI_iff _ _ _).1 hi
 unfold Cm.ok Cm.fits at hc
 rw[Bool.and_eq_true]at hc
 have hf:=hc.2
 unfold Hd.act
 split
 ·rename_i h6
  rw[if_pos h6]at hf
  exact(regd_ok ok hi' ((inI_iff _ _ _).1 hf)).1
 ·rename_i h6
  rw[if_neg h6]at hf
  split
  ·rename_i h7
   rw[if_neg (by omega),if_pos h7]at hf
   exact resd_ok ok hi' hf
  ·split
   ·exact reld_ok ok i
   ·split
    ·exact clrd_ok ok i
    ·split
     ·rename_i h10
      rw[if_pos h10]at hf
      simp only[Bool.and_eq_true]at hf
      split
      ·exact ok
      ·rename_i ha
       have h1:=(inI_iff _ _ _).1 hf.1.1
       exact pred_ok ok hi ((inI_iff _ _ _).2 (by omega)) hf.2
     ·split
      ·exact ok
      ·exact ok
theorem didI_ok {xs ys:List Int} {c:Cm} (hb:bothOk xs ys=true) (hc:(c.ok&&decide (c.o≤5))=true):bothOk (didI xs ys c).1 (didI xs ys c).2.1=true:=by
 have d:=did_cases c hb
 rw[did_in hb hc]at d
 rcases d with⟨-,e1,e2⟩|⟨-, -, -,e1,e2⟩|⟨-, -, -,j,z, -,hj,hz,e1,e2, -⟩
 ·rw[e1,e2];exact hb
 ·rw[e1,e2];exact bothOk_same hb
 ·rw[e1,e2];exact put_ok hb hj hz
theorem did_ok {s:Sr} {i:Int} {c:Cm} (ok:s.ok=true):(s.did i c).1.ok=true:=by
 have o:=ok
 unfold Sr.ok at o
 rw[Bool.and_eq_true]at o
 unfold Sr.did
 rw[if_pos ok]
 split
 ·rename_i q
  rw[Bool.and_eq_true]at q
  unfold Sr.doing
  split
  ·unfold Sr.ok
   dsimp only
   rw[o.1,act_ok o.2 q.1 q.2]
   rfl
  ·rename_i h5
   split
   ·unfold Sr.ok
    dsimp only
    rw[didI_ok o.1 (by rw[q.2];simp;omega),o.2]
    rfl
   ·exact ok
 ·exact ok
theorem zero_ok:Sr.zero.ok=false:=rfl
theorem did_zero {s:Sr} {i:Int} {c:Cm} (ok:s.ok=false):s.did i c=(Sr.zero,⟨7,[]⟩):=by
 unfold Sr.did
 rw[ok]
 rfl
theorem newS_ok {n:Int} (h:cntOk n=true):(newS n).ok=true:=by
 have e:(decide (1≤n)&&decide (n≤8))=true:=h
 unfold newS
 rw[e,if_pos rfl]
 unfold Sr.ok
 dsimp only
 rw[(zeros_ok h).1]
 rfl
theorem power_flushed {ys:List Int} {h:Hd} (hb:bothOk ys ys=true) (set:Int):Sr.power ⟨ys,ys,h⟩ set=if h.ok then⟨ys,ys,h⟩else Sr.zero:=by
 unfold Sr.power Sr.ok
 dsimp only
 rw[hb,Bool.true_and,chosenUp_same]
 cases h.ok
 ·rfl
 ·simp
theorem alike_self {s:Sr} (ok:s.ok=true):s.alike s=true:=by simp[Sr.alike,ok,Hd.eqB]
theorem alike_eq {s t:Sr} (h:s.alike t=true):s=t:=by
 obtain⟨xs,ys,⟨ks,kd,ho,tu⟩⟩:=s
 obtain⟨xt,yt,⟨kt,kd',ho',tu'⟩⟩:=t
 simp[Sr.alike,Hd.eqB]at h
 obtain⟨-,⟨rfl,rfl⟩,((⟨⟨rfl,rfl⟩,rfl⟩)|_)⟩:=h
 all_goals simp_all
end Go.Proofs.YtpdggofaobmnlaaGreatDoor
namespace Go.Proofs.YtpdggofaobmnlaaGreatDoor
open Go.RowKit
theorem conf_fst (r:Hd×Bool):(conf r).1=r.1:=rfl
theorem act_len (h:Hd) (i:Int) (c:Cm) (hl:h.ks.length≤1048576):(h.act i c).1.ks.length≤1048576:=by
 unfold Hd.act
 split
 ·unfold Hd.regd Hd.free Hd.turn Hd.key
  split<;>simpa using hl
 ·split
  ·rw[conf_fst];unfold Hd.resd Hd.take;split
   ·exact hl
   ·split<;>exact hl
  ·split
   ·rw[conf_fst];unfold Hd.reld Hd.free;split
    ·exact hl
    ·split<;>exact hl
   ·split
    ·rw[conf_fst];unfold Hd.clrd;split
     ·exact hl
     ·simp
    ·split
     ·split
      ·exact hl
      ·rw[conf_fst]
       unfold Hd.pred Hd.turn Hd.take
       split
       ·exact hl
       ·split
        ·simpa[strike_len]using hl
        ·simpa[strike_len]using hl
     ·split<;>exact hl
theorem did_len (s:Sr) (i:Int) (c:Cm) (hx:s.xs.length≤1048576) (hy:s.ys.length≤1048576) (hk:s.h.ks.length≤1048576):(s.did i c).1.xs.length≤1048576∧(s.did i c).1.ys.length≤1048576∧(s.did i c).1.h.ks.length≤1048576:=by
 unfold Sr.did
 split
 ·split
  ·unfold Sr.doing
   split
   ·exact⟨hx,hy,act_len s.h i c hk⟩
   ·split
    ·exact⟨(didI_len s.xs s.ys c hx hy).1,(didI_len s.xs s.ys c hx hy).2,hk⟩
    ·exact⟨hx,hy,hk⟩
  ·exact⟨hx,hy,hk⟩
 ·simp[Sr.zero,Hd.zero]
theorem power_len (s:Sr) (set:Int) (hx:s.xs.length≤1048576) (hy:s.ys.length≤1048576) (hk:s.h.ks.length≤1048576):(s.power set).xs.length≤1048576∧(s.power set).ys.length≤1048576∧(s.power set).h.ks.length≤1048576:=by
 unfold Sr.power
 split
 ·split
  ·simp[chosenUp_len,hx,hk]
  ·exact⟨hx,hy,hk⟩
 ·simp[Sr.zero,Hd.zero]
theorem new_len (n:Int):(newS n).xs.length≤1048576∧(newS n).ys.length≤1048576∧(newS n).h.ks.length≤1048576:=by
 unfold newS
 split
 ·unfold zerosI Hd.new
  split
  ·simp;omega
  ·simp
 ·simp[Sr.zero,Hd.zero]
end Go.Proofs.YtpdggofaobmnlaaGreatDoor
namespace Go.Proofs.YtpdggofaobmnlaaGreatDoor
open Go.ChangeShapes Go.WideShapes Go.ChangeAt Go.RowKit
def likeH (a b:Hd):Bool:=decide (a.ks=b.ks)&&decide (a.kd=b.kd)&&decide (a.ho=b.ho)&&decide (a.tu=b.tu)
theorem likeH_same (a:Hd):likeH a a=true:=by simp[likeH]
theorem likeH_any (u v:Value) (a b:Hd) (w:World) (hu:Reads w u a.ks) (hv:Reads w v b.ks) (hl:a.ks.length≤1099511627776):
  Calls Tryz.prog 16 #[HV u a,HV v b] w fun e w'=>e=.returned (.bool (likeH a b))∧Below w.heap.size w w':=by
 obtain⟨w1,hw1⟩:∃w1,w1=(w.alloc (.cells (hdA u a) 28)).alloc (.cells (hdA v b) 28):=⟨_,rfl⟩
 have B1:Hid (Below w.heap.size w w1):=by rw[hw1];exact((Below.refl _ _).alloc (Nat.le_refl _) _).alloc (by simp) _
 have p0:Hid (StB w1 w.heap.size 28 (hdA u a)):=by rw[hw1];exact(StB.new w _ _).alloc _
 have q0:Hid (StB w1 (w.heap.size+1) 28 (hdA v b)):=by
  rw[hw1]
  have:=StB.new (w.alloc (.cells (hdA u a) 28)) 28 (hdA v b)
  rwa[World.size_alloc]at this
 have c1:=like_any u v a.ks b.ks w1 (hu.below B1.out (Nat.le_refl _)) (hv.below B1.out (Nat.le_refl _)) hl
 have HE:Hid (likeH a b=(decide (a.ks=b.ks)&&decide (a.kd=b.kd)&&decide (a.ho=b.ho)&&decide (a.tu=b.tu))):=rfl
 obtain⟨r,hr⟩:∃r,r=likeH a b:=⟨_,rfl⟩
 obtain⟨d,hd⟩:∃d,d=decide (a.ks=b.ks):=⟨_,rfl⟩
 rw[←hr]at HE⊢
 rw[←hd]at HE c1
 have k0:w1.cell? ⟨w.heap.size,0,none⟩=some u:=p0.out.cell 0 rfl
 have l0:w1.cell? ⟨w.heap.size+1,0,none⟩=some v:=q0.out.cell 0 rfl
 obtain⟨ao,ca,rfl⟩:=reads_form hu
 obtain⟨bo,cb,rfl⟩:=reads_form hv
 obtain⟨na,hna⟩:∃na,na=a.ks.length:=⟨_,rfl⟩
 obtain⟨nb,hnb⟩:∃nb,nb=b.ks.length:=⟨_,rfl⟩
 rw[←hna]at hw1 c1 k0 p0⊢
 rw[←hnb]at hw1 c1 l0 q0⊢
 clear hr hd hu hv hl hna hnb
 unfold HV
 unfold hdA at hw1⊢
 go_enter Tryz.func16,Tryz.ntmps16
 go_wp2_with fail
 rw[←hw1]
 refine c1.mono ?_
 rintro e w2 ⟨rfl,hw2⟩
 have B2:Hid (Below w.heap.size w w2):=by obtain⟨n,rfl⟩:=hw2;exact below_drewN B1.out n
 have k1:w2.cell? ⟨w.heap.size,1,none⟩=some (.int .i64 a.kd):=by obtain⟨n,rfl⟩:=hw2;exact p0.out.cell 1 rfl
 have k2:w2.cell? ⟨w.heap.size,2,none⟩=some (.int .i64 a.ho):=by obtain⟨n,rfl⟩:=hw2;exact p0.out.cell 2 rfl
 have k3:w2.cell? ⟨w.heap.size,3,none⟩=some (.int .i64 a.tu):=by obtain⟨n,rfl⟩:=hw2;exact p0.out.cell 3 rfl
 have l1:w2.cell? ⟨w.heap.size+1,1,none⟩=some (.int .i64 b.kd):=by obtain⟨n,rfl⟩:=hw2;exact q0.out.cell 1 rfl
 have l2:w2.cell? ⟨w.heap.size+1,2,none⟩=some (.int .i64 b.ho):=by obtain⟨n,rfl⟩:=hw2;exact q0.out.cell 2 rfl
 have l3:w2.cell? ⟨w.heap.size+1,3,none⟩=some (.int .i64 b.tu):=by obtain⟨n,rfl⟩:=hw2;exact q0.out.cell 3 rfl
 clear hw2 hw1 p0 q0 k0 l0 B1 c1
 cases d with
 |false=>
  go_wp2
  go_ret
  exact⟨ret_bool (by rw[HE.out];simp),B2.out⟩
 |true=>
  by_cases e1:a.kd=b.kd
  ·by_cases e2:a.ho=b.ho
   ·by_cases e3:a.tu=b.tu
    ·have f1:(a.kd==b.kd)=true:=by simpa using e1
     have f2:(a.ho==b.ho)=true:=by simpa using e2
     have f3:(a.tu==b.tu)=true:=by simpa using e3
     have HX:Hid (r=true):=by rw[Hid,HE.out];simp[e1,e2,e3]
     clear e1 e2 e3
     go_wp2
     go_ret
     exact⟨ret_bool (by rw[HX.out]),B2.out⟩
    ·have f1:(a.kd==b.kd)=true:=by simpa using e1
     have f2:(a.ho==b.ho)=true:=by simpa using e2
     have f3:(a.tu==b.tu)=false:=by simpa using e3
     have HX:Hid (r=false):=by rw[Hid,HE.out];simp[e3]
     clear e1 e2 e3
     go_wp2
     go_ret
     exact⟨ret_bool (by rw[HX.out]),B2.out⟩
   ·have f1:(a.kd==b.kd)=true:=by simpa using e1
    have f2:(a.ho==b.ho)=false:=by simpa using e2
    have HX:Hid (r=false):=by rw[Hid,HE.out];simp[e2]
    clear e1 e2
    go_wp2
    go_ret
    exact⟨ret_bool (by rw[HX.out]),B2.out⟩
  ·have f1:(a.kd==b.kd)=false:=by simpa using e1
   have HX:Hid (r=false):=by rw[Hid,HE.out];simp[e1]
   clear e1
   go_wp2
   go_ret
   exact⟨ret_bool (by rw[HX.out]),B2.out⟩
end Go.Proofs.YtpdggofaobmnlaaGreatDoor
namespace Go.Proofs.YtpdggofaobmnlaaGreatDoor
open Go.ChangeShapes Go.WideShapes Go.ChangeAt Go.RowKit
theorem likeStore_any (u v q a b k:Value) (xs ys:List Int) (h:Hd) (w:World) (hu:Reads w u xs) (hv:Reads w v ys) (hq:Reads w q h.ks) (ha:Reads w a xs) (hb:Reads w b ys) (hk:Reads w k h.ks) (gx:xs.length≤1099511627776) (gy:ys.length≤1099511627776) (gk:h.ks.length≤1099511627776):
  Calls Tryz.prog 11 #[SRV u v q h,SRV a b k h] w fun e w'=>e=.returned (.bool true)∧Below w.heap.size w w':=by
 obtain⟨w1,hw1⟩:∃w1,w1=(w.alloc (.cells (srA u v q h) 30)).alloc (.cells (srA a b k h) 30):=⟨_,rfl⟩
 have b1:Below w.heap.size w w1:=by rw[hw1];exact((Below.refl _ _).alloc (Nat.le_refl _) _).alloc (by simp) _
 have S1:Hid (StB w1 w.heap.size 30 (srA u v q h)∧StB w1 (w.heap.size+1) 30 (srA a b k h)∧Below w.heap.size w w1):=by
  have a2:=StB.new (w.alloc (.cells (srA u v q h) 30)) 30 (srA a b k h)
  simp only[World.size_alloc]at a2
  exact⟨by rw[hw1];exact(StB.new w _ _).alloc _,by rw[hw1];exact a2,b1⟩
 have c1:=likeDisk_any u v a b xs ys w1 (hu.below b1 (Nat.le_refl _)) (hv.below b1 (Nat.le_refl _)) (ha.below b1 (Nat.le_refl _)) (hb.below b1 (Nat.le_refl _)) gx gy
 have c2:Hid (∀wx,Below w.heap.size w wx→Calls Tryz.prog 16 #[HV q h,HV k h] wx fun e w'=>e=.returned (.bool true)∧Below wx.heap.size wx w'):=fun wx e=>by
  have:=likeH_any q k h h wx (hq.below e (Nat.le_refl _)) (hk.below e (Nat.le_refl _)) gk
  rw[likeH_same]at this
  exact this
 obtain⟨uo,uc,rfl⟩:=reads_form hu
 obtain⟨vo,vc,rfl⟩:=reads_form hv
 obtain⟨qo,qc,rfl⟩:=reads_form hq
 obtain⟨ao,ac,rfl⟩:=reads_form ha
 obtain⟨bo,bc,rfl⟩:=reads_form hb
 obtain⟨ko,kc,rfl⟩:=reads_form hk
 clear b1 hu hv hq ha hb hk gx gy gk
 unfold SRV srA at*
 unfold HV hdA at c2
 go_enter Tryz.func11,Tryz.ntmps11
 go_upto_region 1 with fail
 rw[←hw1]
 clear hw1
 have k0:=S1.out.1.cell 0 rfl
 have k1:=S1.out.1.cell 1 rfl
 have l0:=S1.out.2.1.cell 0 rfl
 have l1:=S1.out.2.1.cell 1 rfl
 go_wp2_with fail
 refine c1.mono ?_
 rintro e w2 ⟨rfl,b2⟩
 have S2:Hid (StB w2 w.heap.size 30 _∧StB w2 (w.heap.size+1) 30 _∧Below w.heap.size w w2):=⟨S1.out.1.below b2,S1.out.2.1.below b2,S1.out.2.2.trans (b2.mono S1.out.2.2.size)⟩
 clear S1 c1 b2 k0 k1 l0 l1
 have k2:=S2.out.1.cell 2 rfl
 have k3:=S2.out.1.cell 3 rfl
 have k4:=S2.out.1.cell 4 rfl
 have k5:=S2.out.1.cell 5 rfl
 have l2:=S2.out.2.1.cell 2 rfl
 have l3:=S2.out.2.1.cell 3 rfl
 have l4:=S2.out.2.1.cell 4 rfl
 have l5:=S2.out.2.1.cell 5 rfl
 go_wp2_with fail
 refine(c2.out w2 S2.out.2.2).mono ?_
 rintro e w3 ⟨rfl,b3⟩
 have B3:Hid (Below w.heap.size w w3):=S2.out.2.2.trans (b3.mono S2.out.2.2.size)
 clear S2 c2 b3 k2 k3 k4 k5 l2 l3 l4 l5
 go_wp2
 go_ret
 exact⟨rfl,B3.out⟩
end Go.Proofs.YtpdggofaobmnlaaGreatDoor
namespace Go.Proofs.YtpdggofaobmnlaaGreatDoor
open Go.ChangeShapes Go.WideShapes Go.ChangeAt Go.RowKit
structure Kin (p:World→Prop) where
 x:World
 h:p x
theorem wp_region_kin (p:World→Prop) {id:Nat} {Q:Exit→Act→World→Prop} {a:Act} {w:World} {l:List Oper} (hm:Tryz.prog.follows .mixedOrders=true) (hB:Region.lexB .any l.toArray=true) (h0:p w.drew)
  (h:wpQuiet Tryz.prog l.toArray (fun w'=>∃q:Kin p,w'=q.x) (fun a'=>∀w',(∃q:Kin p,w'=q.x)→Q .normal a' w') l a):(Code.region id l.toArray true).wp Tryz.prog Q a w:=
 wp_region_quiet (C:=fun w'=>∃q:Kin p,w'=q.x) hm hB ⟨⟨w.drew,h0⟩,rfl⟩ (by simpa using h)
theorem Kin.call {p:World→Prop} {q:Kin p} {fn:FuncId} {args:Array Value} {v:Value}
  (h:Calls Tryz.prog fn args q.x fun e w'=>e=.returned v∧Below q.x.heap.size q.x w') (hb:∀x w',p x→Below x.heap.size x w'→p w'):Calls Tryz.prog fn args q.x fun e w''=>e=.returned v∧∃q:Kin p,w''=q.x:=
 h.mono fun _ w' ⟨he,b⟩=>⟨he,⟨w',hb _ _ q.h b⟩,rfl⟩
theorem Kin.same {p:World→Prop} {q:Kin p} {fn:FuncId} {args:Array Value} {v:Value}
  (h:Calls Tryz.prog fn args q.x fun e w'=>e=.returned v∧w'=q.x):Calls Tryz.prog fn args q.x fun e w''=>e=.returned v∧∃q:Kin p,w''=q.x:=
 h.mono fun _ _ ⟨he,b⟩=>⟨he,q,b⟩
end Go.Proofs.YtpdggofaobmnlaaGreatDoor
namespace Go.Proofs.YtpdggofaobmnlaaGreatDoor
open Go.ChangeShapes Go.WideShapes Go.ChangeAt Go.RowKit
theorem s9preempt_any (base g:Nat) (h:Hd) (i key k:Int) (w:World) (d:PB w base g h) (i0:0≤i) (i1:i<4) (t0:0≤h.tu) (t1:h.tu≤1000000000) (hm:h.kd≠0→allI h.kd=false→0≤h.ho∧h.ho≤3):
  Calls Tryz.prog 130 #[.pointer (some ⟨g,0,none⟩),.int .i64 i,.int .i64 key,.int .i64 k] w fun e w'=>e=.returned (.bool (h.pred i key k).2)∧PB w' base g (h.pred i key k).1∧Below base w w':=by
 obtain⟨q,cap,d⟩:=d
 have HP:Hid (PQ w base g q cap h):=d
 have k0:w.cell? ⟨g,0,none⟩=some (.slice (some ⟨q,0,none⟩) 4 cap):=d.1.cell 0 rfl
 have k1:w.cell? ⟨g,1,none⟩=some (.int .i64 h.kd):=d.1.cell 1 rfl
 have k2:w.cell? ⟨g,2,none⟩=some (.int .i64 h.ho):=d.1.cell 2 rfl
 have k3:w.cell? ⟨g,3,none⟩=some (.int .i64 h.tu):=d.1.cell 3 rfl
 have cr:=s8reg_any _ h i w d.2.1.reads i0 (by have:=d.2.2.2.2.2;omega)
 unfold HV hdA at cr
 obtain⟨r,HE⟩:∃r,Hid (r=h.pred i key k):=⟨_,rfl⟩
 rw[←HE.out]
 have HM:Hid (h.kd≠0→allI h.kd=false→0≤h.ho∧h.ho≤3):=hm
 clear d hm
 go_enter Tryz.func130,Tryz.ntmps130
 go_wp2
 go_loopw [9,10] (fun f n wr=>∃j:Nat,(j:Int)≤4∧n=.int .i64 j∧f=.bool (has h.ks key j)∧wr=w) (fun _ n _=>4-(intOf n).toNat)
 case atStart=>exact⟨0,by omega,rfl,rfl,rfl⟩
 case round=>
  obtain⟨j,hj,rfl,rfl,hw⟩:=hrel
  subst wr
  by_cases hlt:(j:Int)<4
  ·have kj:=(HP.out.key j (by omega) 0).2.1
   have HH:Hid (has h.ks key (j+1)=(has h.ks key j||decide (h.ks.getD j 0=key))):=rfl
   obtain⟨y,hy⟩:∃y,y=h.ks.getD j 0:=⟨_,rfl⟩
   obtain⟨b,hb⟩:∃b,b=has h.ks key j:=⟨_,rfl⟩
   rw[←hy]at kj HH
   rw[←hb]at HH⊢
   clear hy hb
   cases b with
   |true=>
    go_wp2
    go_roundw
    case rel=>exact⟨j+1,by omega,by go_num,by rw[HH.out];rfl,trivial⟩
    case measure=>simp[intOf];omega
   |false=>
    go_wp2
    go_roundw
    case rel=>exact⟨j+1,by omega,by go_num,by rw[HH.out];by_cases e:y=key<;>simp[e],trivial⟩
    case measure=>simp[intOf];omega
  ·obtain rfl:j=4:=by omega
   have HE2:Hid (r=if(regI h.ks i&&has h.ks key 4)=false then(h,false)else if(h.alone key||(allI h.kd&& !more h.ks i.toNat key 4))=true then((Hd.turn ⟨strike h.ks i.toNat key 4,h.kd,h.ho,h.tu⟩).take i k,true)else(Hd.turn ⟨strike h.ks i.toNat key 4,h.kd,h.ho,h.tu⟩,true)):=HE.out
   clear HE
   obtain⟨bh,hbh⟩:∃bh,bh=has h.ks key 4:=⟨_,rfl⟩
   obtain⟨br,hbr⟩:∃br,br=regI h.ks i:=⟨_,rfl⟩
   rw[←hbh,←hbr]at HE2
   rw[←hbh]
   rw[←hbr]at cr
   clear hbh hbr
   go_wp2_with fail
   refine cr.mono ?_
   rintro e w2 ⟨rfl,b2⟩
   have HB:Hid (Below base w w2):=b2.mono HP.out.lt
   replace HP:Hid (PQ w2 base g q cap h):=HP.out.below b2
   clear b2 k0 k1 k2 k3 cr
   by_cases hrb:(br&&bh)=false
   ·have HR:Hid (r=(h,false)):=by rw[Hid,HE2.out,if_pos hrb]
    have HQ:Hid (PB w2 base g h∧Below base w w2):=⟨⟨q,cap,HP.out⟩,HB.out⟩
    clear HE2 HP HB HM
    cases br with
    |false=>
     clear hrb
     go_wp2
     go_ret
     exact⟨by rw[HR.out];rfl,by rw[HR.out];exact HQ.out.1,HQ.out.2⟩
    |true=>
     obtain rfl:bh=false:=by simpa using hrb
     clear hrb
     go_wp2
     go_ret
     exact⟨by rw[HR.out];rfl,by rw[HR.out];exact HQ.out.1,HQ.out.2⟩
   ·have hrb2:br=true∧bh=true:=by simpa using hrb
    obtain⟨rfl,rfl⟩:=hrb2
    have H3:Hid (r=if(h.alone key||(allI h.kd&& !more h.ks i.toNat key 4))=true then((Hd.turn ⟨strike h.ks i.toNat key 4,h.kd,h.ho,h.tu⟩).take i k,true)else(Hd.turn ⟨strike h.ks i.toNat key 4,h.kd,h.ho,h.tu⟩,true)):=by rw[Hid,HE2.out,if_neg (by decide)]
    clear hrb HE2
    have k0:w2.cell? ⟨g,0,none⟩=some (.slice (some ⟨q,0,none⟩) 4 cap):=HP.out.1.cell 0 rfl
    have k1:w2.cell? ⟨g,1,none⟩=some (.int .i64 h.kd):=HP.out.1.cell 1 rfl
    have k2:w2.cell? ⟨g,2,none⟩=some (.int .i64 h.ho):=HP.out.1.cell 2 rfl
    have cf:=fun wx=>sall_any h.kd wx
    go_upto_region 8 with fail
    go_cut [11] (fun t wx=>t=.bool (h.alone key)∧Hid (∃n,wx=w2.drewN n))
    case first=>
     by_cases hk:h.kd=0
     ·have ea:Hid (h.alone key=false):=by simp[Hid,Hd.alone,hk]
      rw[hk]at k1
      clear cf HM H3 HB
      go_quiet (fail)
      all_goals (go_wp2_with fail;go_meet;exact⟨by rw[ea.out],⟨_,rfl⟩⟩)
     ·have hkb:(h.kd !=0)=true:=by simpa using hk
      cases hf:allI h.kd with
      |true=>
       have ea:Hid (h.alone key=false):=by simp[Hid,Hd.alone,hf]
       simp only[hf]at cf
       clear HM H3 HB hf
       go_quiet ((go_at_call 93;exact Calls.quiet_of_same (cf _)))
       all_goals (go_wp2_with fail;go_meet;exact⟨by rw[ea.out],⟨_,rfl⟩⟩)
      |false=>
       have hb:=HM.out hk hf
       have kq:=(HP.out.key h.ho.toNat (by omega) 0).2.1
       have ea:Hid (h.alone key=decide (h.ks.getD h.ho.toNat 0=key)):=by simp[Hid,Hd.alone,hk,hf]
       obtain⟨y,hy⟩:∃y,y=h.ks.getD h.ho.toNat 0:=⟨_,rfl⟩
       rw[←hy]at kq ea
       simp only[hf]at cf
       obtain⟨l1,l2⟩:=hb
       clear HM H3 HB hf hy
       go_quiet ((go_at_call 93;exact Calls.quiet_of_same (cf _)))
       all_goals (go_wp2_with fail;go_meet;exact⟨by rw[ea.out];by_cases e:y=key<;>simp[e],⟨_,rfl⟩⟩)
    case rest=>
     obtain⟨rfl,HN⟩:=hcut
     obtain⟨n,hn⟩:=HN.out
     have H5:Hid (PQ wc base g q cap ⟨strike h.ks i.toNat key 0,h.kd,h.ho,h.tu⟩∧Below base w wc):=by
      rw[hn]
      exact⟨HP.out.below (below_drewN (Below.refl _ _) n),below_drewN HB.out n⟩
     have HI:Hid (i.toNat<4∧(i.toNat:Int)=i):=⟨by omega,by omega⟩
     have HT:Hid ((0≤h.tu∧h.tu≤1000000000)∧h.ks.length=4):=⟨⟨t0,t1⟩,HP.out.2.2.2.2.2⟩
     obtain⟨ba,hba⟩:∃ba,ba=h.alone key:=⟨_,rfl⟩
     rw[←hba]at H3⊢
     clear hn HN HP HB HM hba cf k0 k1 k2 t0 t1
     go_wp2_with fail
     go_loopw [12,13] (fun m n wz=>∃j:Nat,(j:Int)≤4∧n=.int .i64 j∧m=.bool (more h.ks i.toNat key j)∧Hid (PQ wz base g q cap ⟨strike h.ks i.toNat key j,h.kd,h.ho,h.tu⟩∧Below base w wz)) (fun _ n _=>4-(intOf n).toNat)
     case atStart=>exact⟨0,by omega,rfl,rfl,H5⟩
     case round=>
      obtain⟨j,hj,rfl,rfl,HR⟩:=hrel
      by_cases hlt:(j:Int)<4
      ·have HM1:Hid (more h.ks i.toNat key (j+1)=(more h.ks i.toNat key j||(decide (j≠i.toNat)&&(decide (h.ks.getD j 0≠key)&&decide (h.ks.getD j 0≠0))))):=rfl
       have HS1:Hid (strike h.ks i.toNat key (j+1)=if j≠i.toNat∧h.ks.getD j 0=key then(strike h.ks i.toNat key j).set j 0 else strike h.ks i.toNat key j):=rfl
       have HA:Hid ((strike h.ks i.toNat key j).getD j 0=h.ks.getD j 0):=strike_at _ _ _ _ _ (Nat.le_refl _)
       obtain⟨s1,hs1⟩:∃s1,s1=strike h.ks i.toNat key (j+1):=⟨_,rfl⟩
       obtain⟨m1,hm1⟩:∃m1,m1=more h.ks i.toNat key (j+1):=⟨_,rfl⟩
       have HQ:Hid (s1=strike h.ks i.toNat key (j+1)∧m1=more h.ks i.toNat key (j+1)):=⟨hs1,hm1⟩
       rw[←hs1]at HS1
       rw[←hm1]at HM1
       clear hs1 hm1
       obtain⟨m0,hm0⟩:∃m0,m0=more h.ks i.toNat key j:=⟨_,rfl⟩
       rw[←hm0]at HM1⊢
       clear hm0
       by_cases hji:(j:Int)=i
       ·have e1:j=i.toNat:=by omega
        have HS2:Hid (s1=strike h.ks i.toNat key j):=by rw[Hid,HS1.out,if_neg (by simp[e1])]
        have HM2:Hid (m1=m0):=by rw[Hid,HM1.out];simp[e1]
        have hjb:((j:Int)==i)=true:=by simpa using hji
        clear HS1 HM1 HA hji e1
        go_wp2
        go_roundw
        case rel=>exact⟨j+1,by omega,by go_num,by rw[←HQ.out.2,HM2.out],by rw[←HQ.out.1,HS2.out];exact HR⟩
        case measure=>simp[intOf];omega
       ·have e1:j≠i.toNat:=by omega
        have hjb:((j:Int)==i)=false:=by simpa using hji
        obtain⟨ff,kj,PK⟩:=HR.out.1.key j (by omega) 0
        rw[HA.out]at kj
        have k0:wr.cell? ⟨g,0,none⟩=some (.slice (some ⟨q,0,none⟩) 4 cap):=HR.out.1.1.cell 0 rfl
        have hgq:g≠q:=HR.out.1.2.2.1
        obtain⟨y,hy⟩:∃y,y=h.ks.getD j 0:=⟨_,rfl⟩
        rw[←hy]at kj HS1 HM1
        clear hy HA
        by_cases hyk:y=key
        ·have HS2:Hid (s1=(strike h.ks i.toNat key j).set j 0):=by rw[Hid,HS1.out,if_pos ⟨e1,hyk⟩]
         have HM2:Hid (m1=m0):=by rw[Hid,HM1.out];simp[hyk]
         have HP2:Hid (PQ (wr.setCell ⟨q,j,none⟩ (.int .i64 0)) base g q cap ⟨s1,h.kd,h.ho,h.tu⟩∧Below base w (wr.setCell ⟨q,j,none⟩ (.int .i64 0))):=by
          rw[HS2.out];exact⟨PK.1,HR.out.2.trans PK.2⟩
         have l0:(wr.setCell ⟨q,j,none⟩ (.int .i64 0)).cell? ⟨g,0,none⟩=some (.slice (some ⟨q,0,none⟩) 4 cap):=PK.1.1.cell 0 rfl
         have lj:(wr.setCell ⟨q,j,none⟩ (.int .i64 0)).cell? ⟨q,j,none⟩=some (.int .i64 0):=World.cell?_setCell_same _ _ _ kj
         have hykb:(y==key)=true:=by simpa using hyk
         clear HS1 HM1 HS2 HR PK hyk
         cases m0 with
         |true=>
          go_wp2
          go_roundw
          case rel=>exact⟨j+1,by omega,by go_num,by rw[←HQ.out.2,HM2.out],by rw[←HQ.out.1];exact HP2⟩
          case measure=>simp[intOf];omega
         |false=>
          go_wp2
          go_roundw
          case rel=>exact⟨j+1,by omega,by go_num,by rw[←HQ.out.2,HM2.out],by rw[←HQ.out.1];exact HP2⟩
          case measure=>simp[intOf];omega
        ·have HS2:Hid (s1=strike h.ks i.toNat key j):=by rw[Hid,HS1.out,if_neg (fun e=>hyk e.2)]
         have HM2:Hid (m1=(m0||decide (y≠0))):=by rw[Hid,HM1.out];simp[hyk,e1]
         have HP2:Hid (PQ wr base g q cap ⟨s1,h.kd,h.ho,h.tu⟩∧Below base w wr):=by
          rw[HS2.out];exact HR.out
         have hykb:(y==key)=false:=by simpa using hyk
         clear HS1 HM1 HS2 HR PK hyk ff
         cases m0 with
         |true=>
          go_wp2
          go_roundw
          case rel=>exact⟨j+1,by omega,by go_num,by rw[←HQ.out.2,HM2.out];rfl,by rw[←HQ.out.1];exact HP2⟩
          case measure=>simp[intOf];omega
         |false=>
          by_cases hy0:y=0
          ·have hyb:(y !=0)=false:=by simp[hy0]
           go_wp2
           go_roundw
           case rel=>exact⟨j+1,by omega,by go_num,by rw[←HQ.out.2,HM2.out];simp[hy0],by rw[←HQ.out.1];exact HP2⟩
           case measure=>simp[intOf];omega
          ·have hyb:(y !=0)=true:=by simpa using hy0
           go_wp2
           go_roundw
           case rel=>exact⟨j+1,by omega,by go_num,by rw[←HQ.out.2,HM2.out];simp[hy0],by rw[←HQ.out.1];exact HP2⟩
           case measure=>simp[intOf];omega
      ·obtain rfl:j=4:=by omega
       obtain⟨h4,hh4⟩:∃h4:Hd,h4=⟨strike h.ks i.toNat key 4,h.kd,h.ho,h.tu⟩:=⟨_,rfl⟩
       obtain⟨m4,hm4⟩:∃m4,m4=more h.ks i.toNat key 4:=⟨_,rfl⟩
       rw[←hh4,←hm4]at H3
       rw[←hh4]at HR
       rw[←hm4]
       have HK:Hid (h4.kd=h.kd):=by rw[hh4];rfl
       have t2:0≤h4.tu∧h4.tu≤1000000000:=by rw[hh4];exact HT.out.1
       have ct:=s9turn_any base g h4 wr ⟨q,cap,HR.out.1⟩ t2.1 t2.2
       have HB2:Hid (Below base w wr):=HR.out.2
       clear HR hh4 hm4 t2 H5
       go_wp2_with fail
       refine ct.mono ?_
       rintro e w6 ⟨rfl,P6,B6⟩
       have HB6:Hid (Below base w w6):=HB2.out.trans B6
       have HP6:Hid (PB w6 base g h4.turn):=P6
       have k1:w6.cell? ⟨g,1,none⟩=some (.int .i64 h4.kd):=by obtain⟨q6,c6,d6⟩:=P6;exact d6.1.cell 1 rfl
       have cf:=fun wx=>sall_any h4.kd wx
       have HA4:Hid (allI h.kd=allI h4.kd):=by rw[Hid,HK.out]
       rw[HA4.out]at H3
       obtain⟨a4,ha4⟩:∃a4,a4=allI h4.kd:=⟨_,rfl⟩
       rw[←ha4]at H3
       simp only[←ha4]at cf
       clear P6 B6 ct HB2 ha4 HA4
       have take:∀wx,PB wx base g h4.turn→_:=fun wx d=>s9take_any base g h4.turn i k wx d
       cases ba with
       |true=>
        have HR:Hid (r=((h4.turn).take i k,true)):=by rw[Hid,H3.out];rfl
        clear H3 cf k1
        go_wp2_with fail
        refine(take _ HP6.out).mono ?_
        rintro e w7 ⟨rfl,P7,B7⟩
        have HQ:Hid (PB w7 base g ((h4.turn).take i k)∧Below base w w7):=⟨P7,HB6.out.trans B7⟩
        clear P7 B7 take
        go_wp2
        go_ret
        exact⟨by rw[HR.out];rfl,by rw[HR.out];exact HQ.out.1,HQ.out.2⟩
       |false=>
        cases a4 with
        |false=>
         have HR:Hid (r=(h4.turn,true)):=by rw[Hid,H3.out];rfl
         have HQ:Hid (PB w6 base g h4.turn∧Below base w w6):=⟨HP6.out,HB6.out⟩
         clear H3 take HB6 HP6
         go_wp2_with (first|(go_at_call 93;refine(cf _).mono ?_;rintro e w' ⟨rfl,hw'⟩;subst w'))
         go_ret
         exact⟨by rw[HR.out];rfl,by rw[HR.out];exact HQ.out.1,HQ.out.2⟩
        |true=>
         cases m4 with
         |true=>
          have HR:Hid (r=(h4.turn,true)):=by rw[Hid,H3.out];rfl
          have HQ:Hid (PB w6 base g h4.turn∧Below base w w6):=⟨HP6.out,HB6.out⟩
          clear H3 take HB6 HP6
          go_wp2_with (first|(go_at_call 93;refine(cf _).mono ?_;rintro e w' ⟨rfl,hw'⟩;subst w'))
          go_ret
          exact⟨by rw[HR.out];rfl,by rw[HR.out];exact HQ.out.1,HQ.out.2⟩
         |false=>
          have HR:Hid (r=((h4.turn).take i k,true)):=by rw[Hid,H3.out];rfl
          clear H3
          go_wp2_with fail
          refine(cf _).mono ?_
          rintro e w' ⟨rfl,hw'⟩;subst w'
          clear cf k1
          go_wp2_with fail
          refine(take _ HP6.out).mono ?_
          rintro e w7 ⟨rfl,P7,B7⟩
          have HQ:Hid (PB w7 base g ((h4.turn).take i k)∧Below base w w7):=⟨P7,HB6.out.trans B7⟩
          clear P7 B7 take
          go_wp2
          go_ret
          exact⟨by rw[HR.out];rfl,by rw[HR.out];exact HQ.out.1,HQ.out.2⟩
end Go.Proofs.YtpdggofaobmnlaaGreatDoor
