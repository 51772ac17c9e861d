/- A store in plain lists and numbers: a disk and a holding; what is done to it. -/
import Derived.Test.YtflbcjgkdokhiaaGreatDoorM3
import Derived.Test.YtflbcjgkdokhiaaGreatDoorM5
import Derived.Test.YtflbcjgkdokhiaaGreatDoorM6
import Derived.Test.YtflbcjgkdokhiaaGreatDoorM4
import Derived.Test.YtflbcjgkdokhiaaGreatDoorM2
import Derived.Test.YtflbcjgkdokhiaaGreatDoorRows
import Derived.Test.YtflbcjgkdokhiaaGreatDoorM1
import Derived.WalkKit
import Derived.ProofKit
import Derived.OpenShut
namespace Go.Proofs.YtflbcjgkdokhiaaGreatDoor
open Go.ChangeShapes Go.WideShapes Go.ChangeAt Go.RowKit
def srA (a b k:Value) (h:Hd):Array Value:=#[a,b,k,.int .i64 h.kd,.int .i64 h.ho,.int .i64 h.tu]
def SRV (a b k:Value) (h:Hd):Value:=.agg (srA a b k h)
structure Sr where
 xs:List Int
 ys:List Int
 h:Hd
def Sr.zero:Sr:=⟨[],[],Hd.zero⟩
def Sr.ok (s:Sr):Bool:=bothOk s.xs s.ys&&s.h.ok
def conf (r:Hd×Bool):Hd×An:=(r.1,if r.2 then⟨0,[]⟩else⟨3,[]⟩)
def Hd.act (h:Hd) (who:Int) (c:Cm):Hd×An:=
 if c.o=6 then(h.regd who c.a,⟨0,[]⟩)
 else if c.o=7 then conf (h.resd who c.k)
 else if c.o=8 then conf (h.reld who)
 else if c.o=9 then conf (h.clrd who)
 else if c.o=10 then(if c.a=0 then(h,⟨1,[]⟩)else conf (h.pred who c.a c.k))
 else if c.o=11 then(h,⟨0,h.keysT⟩)
 else(h,⟨0,h.holdT⟩)
def Sr.doing (s:Sr) (who:Int) (c:Cm):Sr×An:=
 if 5<c.o then(⟨s.xs,s.ys,(s.h.act who c).1⟩,(s.h.act who c).2)
 else if s.h.may who (decide (c.o≠1))then(⟨(didI s.xs s.ys c).1,(didI s.xs s.ys c).2.1,s.h⟩,(didI s.xs s.ys c).2.2)
 else(s,⟨3,[]⟩)
def Sr.did (s:Sr) (who:Int) (c:Cm):Sr×An:=
 if s.ok then(if inI who 0 3&&c.ok then s.doing who c else(s,⟨7,[]⟩))else(Sr.zero,⟨7,[]⟩)
def Hd.eqB (a b:Hd):Bool:=decide (a.ks=b.ks)&&decide (a.kd=b.kd)&&decide (a.ho=b.ho)&&decide (a.tu=b.tu)
end Go.Proofs.YtflbcjgkdokhiaaGreatDoor
namespace Go.Proofs.YtflbcjgkdokhiaaGreatDoor
open Go.RowKit
def cnt (p:Int→Bool):Nat→Nat
 |0=>0
 |j+1=>cnt p j+(if p j=true then 1 else 0)
theorem cnt_none (p:Int→Bool) (h:∀i,p i=false) (j:Nat):cnt p j=0:=by
 induction j with
 |zero=>rfl
 |succ j ih=>simp[cnt,ih,h]
theorem cnt_same (p q:Int→Bool) (h:∀i,p i=q i) (j:Nat):cnt p j=cnt q j:=by
 induction j with
 |zero=>rfl
 |succ j ih=>simp[cnt,ih,h]
theorem cnt_some (p:Int→Bool) (k:Nat) (h:p k=true) (j:Nat) (hj:k<j):0<cnt p j:=by
 induction j with
 |zero=>omega
 |succ j ih=>
  unfold cnt
  by_cases e:k=j
  ·subst e;rw[if_pos h];omega
  ·have:=ih (by omega);omega
theorem cnt_at (p:Int→Bool) (k:Nat) (h:∀i:Nat,p i=decide (i=k)) (j:Nat):cnt p j=if k<j then 1 else 0:=by
 induction j with
 |zero=>rfl
 |succ j ih=>
  unfold cnt
  rw[ih,h j]
  by_cases e:j=k
  ·subst e;simp
  ·simp[e];split<;>split<;>omega
theorem Hd.ok_parts {h:Hd} (e:h.ok=true):h.ks.length=4∧h.mid=true:=by
 unfold Hd.ok at e
 simp only[Bool.and_eq_true,decide_eq_true_eq]at e
 exact⟨e.1.1.1,e.2⟩
theorem Hd.hol_none {h:Hd} (e:h.kd=0) (i:Int):h.Hol i=false:=by
 simp[Hd.Hol,Hd.holds,e]
theorem Hd.hol_all {h:Hd} (ok:h.ok=true) (ha:allI h.kd=true) (i:Int):h.Hol i=h.Reg i:=by
 have hm:=(Hd.ok_parts ok).2
 have hk:h.kd≠0:=by intro e;rw[e]at ha;cases ha
 unfold Hd.mid at hm
 rw[if_neg hk,if_pos ha]at hm
 simp only[Bool.and_eq_true,decide_eq_true_eq]at hm
 unfold Hd.Hol Hd.Reg Hd.holds
 cases hi:inI i 0 3 with
 |false=>simp
 |true=>
  have:=(inI_iff i 0 3).1 hi
  have hne:¬h.ho=i:=by omega
  simp[hk,hne,ha]
theorem Hd.hol_one {h:Hd} (ok:h.ok=true) (hk:h.kd≠0) (ha:allI h.kd=false):∃k:Nat,k<4∧h.ho=k∧regI h.ks h.ho=true∧∀i:Int,inI i 0 3=true→h.Hol i=decide (i=k):=by
 have hm:=(Hd.ok_parts ok).2
 unfold Hd.mid at hm
 rw[if_neg hk,if_neg (by rw[ha];decide)]at hm
 simp only[Bool.and_eq_true]at hm
 have hr:=(inI_iff _ _ _).1 hm.1.2
 refine⟨h.ho.toNat,by omega,by omega,hm.2,fun i hi=>?_⟩
 have hi':=(inI_iff _ _ _).1 hi
 unfold Hd.Hol Hd.holds
 rw[ok,hi,ha]
 by_cases e:h.ho=i
 ·have e2:i=((h.ho.toNat:Nat):Int):=by omega
  simp[hk,e]
  omega
 ·have e2:¬i=((h.ho.toNat:Nat):Int):=by omega
  simp[e]
  omega
theorem Hd.count {h:Hd} (ok:h.ok=true):(h.kd=0→cnt h.Hol 4=0)∧(h.kd≠0→allI h.kd=true→cnt h.Hol 4=cnt h.Reg 4∧0<cnt h.Reg 4)∧(h.kd≠0→allI h.kd=false→cnt h.Hol 4=1):=by
 refine⟨fun e=>cnt_none _ (Hd.hol_none e) 4,fun hk ha=>⟨cnt_same _ _ (Hd.hol_all ok ha) 4,?_⟩,fun hk ha=>?_⟩
 ·have hm:=(Hd.ok_parts ok).2
  have hl:=(Hd.ok_parts ok).1
  unfold Hd.mid at hm
  rw[if_neg hk,if_pos ha]at hm
  simp only[Bool.and_eq_true]at hm
  have ha2:=hm.2
  unfold anyI at ha2
  rw[List.any_eq_true]at ha2
  obtain⟨x,hx,hx2⟩:=ha2
  obtain⟨k,hk4,rfl⟩:=List.mem_iff_getElem.1 hx
  refine cnt_some _ k ?_ 4 (by omega)
  unfold Hd.Reg regI
  have h3:inI (k:Int) 0 3=true:=(inI_iff _ _ _).2 (by omega)
  rw[ok,h3]
  simp[hk4]at hx2⊢
  exact hx2
 ·obtain⟨k,hk4,hho,hr,hall⟩:=Hd.hol_one ok hk ha
  have e:cnt h.Hol 4=cnt (fun i=>decide (i=(k:Int))) 4:=by
   have h0:=hall 0 (by decide)
   have h1:=hall 1 (by decide)
   have h2:=hall 2 (by decide)
   have h3:=hall 3 (by decide)
   simp[cnt,h0,h1,h2,h3]
  rw[e,cnt_at _ k (fun i=>by simp;omega) 4,if_pos hk4]
end Go.Proofs.YtflbcjgkdokhiaaGreatDoor
namespace Go.Proofs.YtflbcjgkdokhiaaGreatDoor
open Go.RowKit
theorem any_iff {ks:List Int}:anyI ks=true↔∃j,j<ks.length∧ks.getD j 0≠0:=by
 constructor
 ·intro h
  unfold anyI at h
  obtain⟨x,hx,h0⟩:=List.any_eq_true.1 h
  obtain⟨j,hj,rfl⟩:=List.getElem_of_mem hx
  exact⟨j,hj,by simpa[hj]using h0⟩
 ·rintro⟨j,hj,h⟩
  exact any_at ks j hj h
theorem keys_iff {ks:List Int}:keysI ks=true↔∀j,j<ks.length→0≤ks.getD j 0∧ks.getD j 0≤9999:=by
 constructor
 ·intro h j hj
  unfold keysI at h
  have:=List.all_eq_true.1 h ks[j] (List.getElem_mem hj)
  rw[inI_iff]at this
  simpa[hj]using this
 ·intro h
  unfold keysI
  rw[List.all_eq_true]
  intro x hx
  obtain⟨j,hj,rfl⟩:=List.getElem_of_mem hx
  have:=h j hj
  rw[inI_iff]
  simpa[hj]using this
theorem mid_iff {h:Hd}:h.mid=true↔(h.kd=0∧h.ho= -1)∨(h.kd≠0∧allI h.kd=true∧h.ho= -1∧anyI h.ks=true)∨(h.kd≠0∧allI h.kd=false∧kiI h.kd=true∧(0≤h.ho∧h.ho≤3)∧h.ks.getD h.ho.toNat 0≠0):=by
 unfold Hd.mid regI
 by_cases h0:h.kd=0
 ·simp[h0]
 ·cases ha:allI h.kd
  ·simp[h0,Bool.and_eq_true,inI_iff,and_assoc]
  ·simp[h0]
theorem ok_iff {h:Hd}:h.ok=true↔h.ks.length=4∧(0≤h.tu∧h.tu≤1000000000)∧keysI h.ks=true∧h.mid=true:=by
 unfold Hd.ok
 simp[Bool.and_eq_true,inI_iff,and_assoc]
theorem getD_setK {ks:List Int} {j m:Nat} {x:Int} (hj:j<ks.length):(ks.set j x).getD m 0=if m=j then x else ks.getD m 0:=by
 by_cases e:m=j
 ·subst e;simp[hj]
 ·rw[if_neg e]
  simp only[List.getD_eq_getElem?_getD]
  rw[List.getElem?_set_ne (Ne.symm e)]
theorem regd_ks (h:Hd) (i key:Int):(h.regd i key).ks=h.ks.set i.toNat key:=by
 unfold Hd.regd;split<;>rfl
theorem regd_tu (h:Hd) (i key:Int):(h.regd i key).tu=turnI h.tu:=by
 unfold Hd.regd;split<;>rfl
theorem regd_ok {h:Hd} (ok:h.ok=true) {i key:Int} (hi:0≤i∧i≤3) (hk:0≤key∧key≤9999):(h.regd i key).ok=true∧((h.regd i key).kd=h.kd∨key=0∧(h.regd i key).kd=0):=by
 obtain⟨hl,ht,hks,hm⟩:=ok_iff.1 ok
 have hi4:i.toNat<h.ks.length:=by omega
 have hany:key≠0→anyI (h.ks.set i.toNat key)=true:=fun hk0=>any_iff.2 ⟨i.toNat,by simpa using hi4,by rw[getD_setK hi4,if_pos rfl];exact hk0⟩
 have hkeys:keysI (h.ks.set i.toNat key)=true:=keys_iff.2 fun j hj=>by
  rw[getD_setK hi4]
  split
  ·exact hk
  ·exact keys_iff.1 hks j (by simpa using hj)
 have htu:=turnI_in h.tu ht.1 ht.2
 constructor
 ·rw[ok_iff,regd_ks,regd_tu]
  refine⟨by simpa using hl,htu,hkeys,?_⟩
  unfold Hd.regd
  split
  ·rw[mid_iff];exact .inl ⟨rfl,rfl⟩
  ·rename_i c
   rw[mid_iff]
   simp only[Hd.turn,Hd.key]
   rcases mid_iff.1 hm with m|m|m
   ·exact .inl m
   ·refine .inr (.inl ⟨m.1,m.2.1,m.2.2.1,?_⟩)
    by_cases hk0:key=0
    ·cases ha:anyI (h.ks.set i.toNat key)
     ·exact absurd ⟨hk0,.inr ha⟩ c
     ·rfl
    ·exact hany hk0
   ·refine .inr (.inr ⟨m.1,m.2.1,m.2.2.1,m.2.2.2.1,?_⟩)
    rw[getD_setK hi4]
    split
    ·rename_i e
     intro hk0
     exact c ⟨hk0,.inl (by have:=m.2.2.2.1;omega)⟩
    ·exact m.2.2.2.2
 ·unfold Hd.regd
  split
  ·rename_i c;exact .inr ⟨c.1,rfl⟩
  ·exact .inl rfl
end Go.Proofs.YtflbcjgkdokhiaaGreatDoor
namespace Go.Proofs.YtflbcjgkdokhiaaGreatDoor
open Go.RowKit
theorem ki_ne0 {k:Int} (h:kiI k=true):k≠0:=by intro e;subst e;exact absurd h (by decide)
theorem take_ok {h:Hd} (ok:h.ok=true) {i k:Int} (hi:0≤i∧i≤3) (hr:h.ks.getD i.toNat 0≠0) (hk:kiI k=true):(h.take i k).ok=true:=by
 obtain⟨hl,ht,hks,hm⟩:=ok_iff.1 ok
 rw[ok_iff]
 refine⟨hl,ht,hks,?_⟩
 rw[mid_iff]
 unfold Hd.take
 have h0:=ki_ne0 hk
 cases ha:allI k
 ·refine .inr (.inr ⟨h0,rfl,hk,?_,?_⟩)
  ·simpa using hi
  ·simpa using hr
 ·refine .inr (.inl ⟨h0,rfl,by simp,any_iff.2 ⟨i.toNat,by simp;omega,hr⟩⟩)
theorem take_hol {h:Hd} {i k:Int} (ok:(h.take i k).ok=true) (hi:inI i 0 3=true) (hr:regI h.ks i=true) (hk:kiI k=true):(h.take i k).Hol i=true:=by
 unfold Hd.Hol Hd.holds
 rw[ok,hi]
 have h0:=ki_ne0 hk
 cases ha:allI k
 ·simp[Hd.take,h0,ha]
 ·simp[Hd.take,h0,ha,hr]
theorem reg_of {h:Hd} {i:Int}:regI h.ks i=true↔h.ks.getD i.toNat 0≠0:=by simp[regI]
theorem strike_get (ks:List Int) (i:Nat) (key:Int) (n m:Nat) (hn:n≤ks.length) (hm:m<n):(strike ks i key n).getD m 0=if m≠i∧ks.getD m 0=key then 0 else ks.getD m 0:=by
 induction n with
 |zero=>omega
 |succ n ih=>
  by_cases e:m=n
  ·subst e
   unfold strike
   split
   ·rw[getD_setK (by rw[strike_len];omega),if_pos rfl]
   ·exact strike_at _ _ _ _ _ (Nat.le_refl _)
  ·have:=ih (by omega) (by omega)
   unfold strike
   split
   ·rw[getD_setK (by rw[strike_len];omega),if_neg e,this]
   ·exact this
theorem preempt_cases (h:Hd) (i key k:Int):h.preempt i key k=(Hd.zero,2)∨h.preempt i key k=(h,1)∨
  (∃x,h.preempt i key k=(x,0)∧x.ks.length=4∧h.ks.length=4∧(∀m,m<4→x.ks.getD m 0=if(m:Int)≠i∧h.ks.getD m 0=key then 0 else h.ks.getD m 0)∧
   (h.kd≠0→0≤h.ho→h.ho≤3∧(h.ks.getD h.ho.toNat 0=key→x.Hol i=true∧x.kd=k))∧(h.kd=0→x.kd=0)∧(h.kd≠0→x.kd≠0)∧x.ok=true∧x.Reg i=true):=by
 unfold Hd.preempt
 by_cases c:(h.ok&&inI i 0 3&&inI key 1 9999&&kiI k)=true
 ·rw[if_pos c]
  simp only[Bool.and_eq_true]at c
  obtain⟨⟨⟨ok,hin⟩,hkey⟩,hk⟩:=c
  have hi:=(inI_iff _ _ _).1 hin
  have hky:=(inI_iff _ _ _).1 hkey
  have hk0:=ki_ne0 hk
  obtain⟨hl,ht,hks,hm⟩:=ok_iff.1 ok
  by_cases hrf:(regI h.ks i&&has h.ks key 4)=false
  ·refine .inr (.inl ?_)
   unfold Hd.pred
   rw[if_pos hrf];rfl
  ·have hr:regI h.ks i=true:=by
    cases hx:regI h.ks i
    ·rw[hx]at hrf;exact absurd rfl hrf
    ·rfl
   have hri:=reg_of.1 hr
   obtain⟨h4,hh4⟩:∃h4:Hd,h4=Hd.turn ⟨strike h.ks i.toNat key 4,h.kd,h.ho,h.tu⟩:=⟨_,rfl⟩
   have h4ks:h4.ks=strike h.ks i.toNat key 4:=by rw[hh4];rfl
   have h4kd:h4.kd=h.kd:=by rw[hh4];rfl
   have h4ho:h4.ho=h.ho:=by rw[hh4];rfl
   have h4tu:h4.tu=turnI h.tu:=by rw[hh4];rfl
   have hg:∀m,m<4→h4.ks.getD m 0=if m≠i.toNat∧h.ks.getD m 0=key then 0 else h.ks.getD m 0:=fun m hm=>by
    rw[h4ks];exact strike_get _ _ _ _ _ (by omega) hm
   have hl4:h4.ks.length=4:=by rw[h4ks,strike_len];exact hl
   have hr4:h4.ks.getD i.toNat 0≠0:=by
    rw[hg i.toNat (by omega),if_neg (fun e=>e.1 rfl)];exact hri
   have hks4:keysI h4.ks=true:=keys_iff.2 fun j hj=>by
    rw[hg j (by omega)]
    split
    ·omega
    ·exact keys_iff.1 hks j (by omega)
   have htu4:=turnI_in h.tu ht.1 ht.2
   have hgi:∀m,m<4→h4.ks.getD m 0=if(m:Int)≠i∧h.ks.getD m 0=key then 0 else h.ks.getD m 0:=fun m hm=>by
    rw[hg m hm]
    have:m≠i.toNat↔(m:Int)≠i:=by omega
    simp only[this]
   have hany4:anyI h4.ks=true:=any_iff.2 ⟨i.toNat,by omega,hr4⟩
   have ho:h.kd≠0→0≤h.ho→allI h.kd=false∧h.ho≤3:=by
    intro e1 e2
    rcases mid_iff.1 hm with m|m|m
    ·exact absurd m.1 e1
    ·omega
    ·exact⟨m.2.1,m.2.2.2.1.2⟩
   by_cases ht':(h.alone key||(allI h.kd&& !more h.ks i.toNat key 4))=true
   ·have e:h.pred i key k=(h4.take i k,true):=by
     unfold Hd.pred
     rw[if_neg hrf,if_pos ht',hh4]
    rw[e]
    have hkd:h.kd≠0:=by
     intro e0
     rw[Hd.alone,e0]at ht'
     exact absurd ht' (by simp[show allI 0=false from rfl])
    have tok:(h4.take i k).ok=true:=by
     rw[ok_iff]
     refine⟨hl4,by rw[show(h4.take i k).tu=h4.tu from rfl,h4tu];exact htu4,hks4,?_⟩
     rw[mid_iff]
     unfold Hd.take
     cases ha:allI k
     ·exact .inr (.inr ⟨hk0,rfl,hk,by simpa using hi,by simpa using hr4⟩)
     ·exact .inr (.inl ⟨hk0,rfl,by simp,hany4⟩)
    have hr4':regI h4.ks i=true:=(reg_of (h:=h4)).2 hr4
    refine .inr (.inr ⟨h4.take i k,rfl,hl4,hl,hgi,fun e1 e2=>⟨(ho e1 e2).2,fun _=>⟨take_hol tok hin hr4' hk,rfl⟩⟩,fun e0=>absurd e0 hkd,fun _=>hk0,tok,?_⟩)
    unfold Hd.Reg
    rw[tok,hin]
    exact hr4'
   ·have e:h.pred i key k=(h4,true):=by
     unfold Hd.pred
     rw[if_neg hrf,if_neg ht',hh4]
    rw[e]
    have hal:h.alone key=false:=by
     cases hx:h.alone key
     ·rfl
     ·rw[hx]at ht';exact absurd rfl ht'
    have hok4:h4.ok=true:=by
     rw[ok_iff]
     refine⟨hl4,by rw[h4tu];exact htu4,hks4,?_⟩
     rw[mid_iff,h4kd,h4ho]
     rcases mid_iff.1 hm with m|m|m
     ·exact .inl m
     ·exact .inr (.inl ⟨m.1,m.2.1,m.2.2.1,hany4⟩)
     ·refine .inr (.inr ⟨m.1,m.2.1,m.2.2.1,m.2.2.2.1,?_⟩)
      rw[hg h.ho.toNat (by have:=m.2.2.2.1;omega)]
      have:h.ks.getD h.ho.toNat 0≠key:=by
       intro e1
       rw[Hd.alone,e1]at hal
       simp[m.1,m.2.1]at hal
      rw[if_neg (fun e=>this e.2)]
      exact m.2.2.2.2
    refine .inr (.inr ⟨h4,rfl,hl4,hl,hgi,fun e1 e2=>⟨(ho e1 e2).2,fun e3=>?_⟩,fun e0=>by rw[h4kd];exact e0,fun e0=>by rw[h4kd];exact e0,hok4,?_⟩)
    ·rw[Hd.alone,e3,(ho e1 e2).1]at hal
     simp[e1]at hal
    ·unfold Hd.Reg
     rw[hok4,hin]
     exact(reg_of (h:=h4)).2 hr4
 ·rw[if_neg c];exact .inl rfl
end Go.Proofs.YtflbcjgkdokhiaaGreatDoor
namespace Go.Proofs.YtflbcjgkdokhiaaGreatDoor
open Go.ChangeShapes Go.WideShapes Go.ChangeAt Go.RowKit
end Go.Proofs.YtflbcjgkdokhiaaGreatDoor
namespace Go.Proofs.YtflbcjgkdokhiaaGreatDoor
open Go.ChangeShapes Go.WideShapes Go.ChangeAt Go.RowKit
def seekF (p:Nat→Bool):Nat→Nat→Nat
 |0,k=>k
 |f+1,k=>if p k then k else seekF p f (k+1)
def seekI (p:Nat→Bool) (k:Nat):Nat:=seekF p (8-k) k
def hasP (s:Int):Nat→Bool:=fun j=>inB s j
def firstI (s:Int):Int:=if seekI (hasP s) 0=8 then-1 else seekI (hasP s) 0
end Go.Proofs.YtflbcjgkdokhiaaGreatDoor
namespace Go.Proofs.YtflbcjgkdokhiaaGreatDoor
open Go.RowKit
end Go.Proofs.YtflbcjgkdokhiaaGreatDoor
namespace Go.Proofs.YtflbcjgkdokhiaaGreatDoor
open Go.RowKit
end Go.Proofs.YtflbcjgkdokhiaaGreatDoor
namespace Go.Proofs.YtflbcjgkdokhiaaGreatDoor
open Go.ChangeShapes Go.WideShapes Go.ChangeAt Go.RowKit
theorem Boxes.kept {w wx wy:World} {u v:Value} {h:Nat} (H:Boxes w wx u v) (g:wx.grownBy wy (some h)) (hh:w.heap.size+2≤h):Boxes w wy u v:=
 ⟨H.1.kept g (by simp;omega),H.2.1.kept g (by simp;omega),H.2.2.1.grown g H.2.2.1.size (fun k e=>by cases e;omega),Nat.le_trans H.2.2.2 g.size⟩
theorem Boxes.alloc {w wx:World} {u v:Value} (H:Boxes w wx u v) (o:Obj):Boxes w (wx.alloc o) u v:=H.below (belowAlloc wx o)
end Go.Proofs.YtflbcjgkdokhiaaGreatDoor
namespace Go.Proofs.YtflbcjgkdokhiaaGreatDoor
open Go.ChangeShapes Go.WideShapes Go.ChangeAt Go.RowKit
theorem bothOk_same {xs ys:List Int} (h:bothOk xs ys=true):bothOk ys ys=true:=by
 have:=(bothOk_yes' h).2.1
 simp[bothOk,this]
theorem set_ok {xs ys:List Int} {i x:Int} (h:bothOk xs ys=true) (hp:placeOk ys i x=true):bothOk xs (ys.set i.toNat x)=true:=by
 obtain⟨h1,h2,h3⟩:=bothOk_yes' h
 have hv:valOk x=true:=by simp[placeOk]at hp;exact hp.2.2
 have hb:blocksOk (ys.set i.toNat x)=true:=by
  simp only[blocksOk,Bool.and_eq_true,List.all_eq_true,List.length_set]at h2⊢
  refine⟨fun z hz=>?_,h2.2⟩
  rcases List.mem_or_eq_of_mem_set hz with hz|rfl
  ·exact h2.1 z hz
  ·exact hv
 simp[bothOk,h1,hb,h3]
end Go.Proofs.YtflbcjgkdokhiaaGreatDoor
namespace Go.Proofs.YtflbcjgkdokhiaaGreatDoor
open Go.ChangeShapes Go.WideShapes Go.ChangeAt Go.RowKit
theorem did_other {xs ys:List Int} {c:Cm} (hb:bothOk xs ys=true) (h:(c.ok&&decide (c.o≤5))=false):didD xs ys c=(xs,ys,⟨7,[]⟩):=by
 unfold didD
 rw[hb,h]
 simp
theorem did_in {xs ys:List Int} {c:Cm} (hb:bothOk xs ys=true) (h:(c.ok&&decide (c.o≤5))=true):didD xs ys c=didI xs ys c:=by
 unfold didD
 rw[hb,h]
 simp
theorem did_cases {xs ys:List Int} (c:Cm) (hb:bothOk xs ys=true):
  (((didD xs ys c).2.2.st≠0∨c.rd=true)∧(didD xs ys c).1=xs∧(didD xs ys c).2.1=ys)∨
  ((didD xs ys c).2.2.st=0∧c.rd=false∧c.o=5∧(didD xs ys c).1=ys∧(didD xs ys c).2.1=ys)∨
  ((didD xs ys c).2.2.st=0∧c.rd=false∧c.o≠5∧∃(j:Nat) (z:Int),c.p=j∧j<ys.length∧valOk z=true∧(didD xs ys c).1=xs∧(didD xs ys c).2.1=ys.set j z∧(c.o=3→z=c.b∧ys.getD j 0=c.a)∧(c.o≠3→z=c.a)):=by
 cases h:(c.ok&&decide (c.o≤5))with
 |false=>
  left
  rw[did_other hb h]
  exact⟨.inl (by simp),rfl,rfl⟩
 |true=>
  rw[did_in hb h]
  obtain⟨hk,h5⟩:c.ok=true∧c.o≤5:=by simpa using h
  obtain⟨ho,hp⟩:=Cm.ok_vol hk h5
  obtain⟨o,p,x,y,k0⟩:=c
  dsimp only at ho hp h5⊢
  unfold didI
  dsimp only
  by_cases e5:o=5
  ·subst e5
   right;left
   rw[if_pos rfl]
   exact⟨rfl,by simp[Cm.rd],rfl,rfl,rfl⟩
  ·rw[if_neg e5]
   by_cases hr:rangeI ys ⟨o,p,x,y,k0⟩=true
   ·rw[if_pos hr]
    left
    exact⟨.inl (by simp),rfl,rfl⟩
   ·rw[if_neg hr]
    simp only[rangeI,Bool.or_eq_true,Bool.and_eq_true,decide_eq_true_eq,Bool.not_eq_true',not_or,not_and,Bool.not_eq_false]at hr
    obtain⟨⟨r1,r2⟩,r3⟩:=hr
    by_cases e1:o=1
    ·subst e1
     left
     rw[if_pos rfl]
     refine⟨.inr ?_,rfl,rfl⟩
     unfold Cm.rd
     rw[hk]
     rfl
    ·rw[if_neg e1]
     have hrd:(⟨o,p,x,y,k0⟩:Cm).rd=false:=by simp[Cm.rd,e1]
     have hj:p=(p.toNat:Int):=by omega
     have hjl:p.toNat<ys.length:=by omega
     by_cases e2:o=2
     ·subst e2
      right;right
      rw[if_pos rfl]
      exact⟨rfl,hrd,e5,p.toNat,x,hj,hjl,r2 rfl,rfl,rfl,by simp,by simp⟩
     ·rw[if_neg e2]
      by_cases e3:o=3
      ·subst e3
       rw[if_pos rfl]
       by_cases ha:atI ys ⟨3,p,x,y,k0⟩=x
       ·rw[if_pos ha]
        right;right
        exact⟨rfl,hrd,e5,p.toNat,y,hj,hjl,r3 rfl,rfl,rfl,fun _=>⟨rfl,ha⟩,by simp⟩
       ·rw[if_neg ha]
        left
        exact⟨.inl (by simp),rfl,rfl⟩
      ·rw[if_neg e3]
       right;right
       have hx:x=0:=by
        have hk':=hk
        unfold Cm.ok Cm.told at hk'
        dsimp only at hk'
        simp only[Bool.and_eq_true,Bool.or_eq_true,decide_eq_true_eq,inI_iff]at hk'
        omega
       refine⟨rfl,hrd,e5,p.toNat,0,hj,hjl,rfl,rfl,rfl,fun e=>absurd e e3,fun _=>hx.symm⟩
theorem put_ok {xs ys:List Int} {j:Nat} {z:Int} (hb:bothOk xs ys=true) (hj:j<ys.length) (hz:valOk z=true):bothOk xs (ys.set j z)=true:=by
 have hp:placeOk ys (j:Int) z=true:=by simp[placeOk,hz];omega
 have:=set_ok hb hp
 simpa using this
end Go.Proofs.YtflbcjgkdokhiaaGreatDoor
namespace Go.Proofs.YtflbcjgkdokhiaaGreatDoor
open Go.RowKit
theorem free_ok {h:Hd} (ok:h.ok=true):h.free.ok=true:=by
 obtain⟨hl,ht,hk, -⟩:=ok_iff.1 ok
 exact ok_iff.2 ⟨hl,ht,hk,mid_iff.2 (.inl ⟨rfl,rfl⟩)⟩
theorem clrd_ok {h:Hd} (ok:h.ok=true) (i:Int):(h.clrd i).1.ok=true:=by
 obtain⟨hl,ht,hk,hm⟩:=ok_iff.1 ok
 unfold Hd.clrd
 split
 ·exact ok
 ·refine ok_iff.2 ⟨rfl,?_,(show keysI [0,0,0,0]=true by decide),mid_iff.2 (.inl ⟨rfl,rfl⟩)⟩
  dsimp only
  unfold turnI
  split<;>omega
theorem resd_ok {h:Hd} (ok:h.ok=true) {i k:Int} (hi:0≤i∧i≤3) (hk:kiI k=true):(h.resd i k).1.ok=true:=by
 unfold Hd.resd
 split
 ·exact ok
 ·rename_i hr
  split
  ·exact take_ok ok hi (reg_of.1 (by simpa using hr)) hk
  ·exact ok
theorem reld_ok {h:Hd} (ok:h.ok=true) (i:Int):(h.reld i).1.ok=true:=by
 unfold Hd.reld
 split
 ·exact ok
 ·split
  ·exact free_ok ok
  ·exact ok
theorem pred_ok {h:Hd} (ok:h.ok=true) {i key k:Int} (hi:inI i 0 3=true) (hy:inI key 1 9999=true) (hk:kiI k=true):(h.pred i key k).1.ok=true:=by
 have e:h.preempt i key k=told (h.pred i key k):=by simp[Hd.preempt,ok,hi,hy,hk]
 have c:=preempt_cases h i key k
 rw[e]at c
 unfold told at c
 rcases c with c|c|⟨x,c, -, -, -, -, -, -,hx, -⟩
 ·have:=congrArg Prod.snd c
  dsimp only at this
  split at this<;>cases this
 ·have:=congrArg Prod.fst c
  dsimp only at this
  rw[this]
  exact ok
 ·have:=congrArg Prod.fst c
  dsimp only at this
  rw[this]
  exact hx
theorem act_ok {h:Hd} (ok:h.ok=true) {i:Int} {c:Cm} (hi:inI i 0 3=true) (hc:c.ok=true):(h.act i c).1.ok=true:=by
 have hi':=(inI_iff _ _ _).1 hi
 unfold Cm.ok Cm.fits at hc
 rw[Bool.and_eq_true]at hc
 have hf:=hc.2
 unfold Hd.act
 split
 ·rename_i h6
  rw[if_pos h6]at hf
  exact(regd_ok ok hi' ((inI_iff _ _ _).1 hf)).1
 ·rename_i h6
  rw[if_neg h6]at hf
  split
  ·rename_i h7
   rw[if_neg (by omega),if_pos h7]at hf
   exact resd_ok ok hi' hf
  ·split
   ·exact reld_ok ok i
   ·split
    ·exact clrd_ok ok i
    ·split
     ·rename_i h10
      rw[if_pos h10]at hf
      simp only[Bool.and_eq_true]at hf
      split
      ·exact ok
      ·rename_i ha
       have h1:=(inI_iff _ _ _).1 hf.1.1
       exact pred_ok ok hi ((inI_iff _ _ _).2 (by omega)) hf.2
     ·split
      ·exact ok
      ·exact ok
theorem didI_ok {xs ys:List Int} {c:Cm} (hb:bothOk xs ys=true) (hc:(c.ok&&decide (c.o≤5))=true):bothOk (didI xs ys c).1 (didI xs ys c).2.1=true:=by
 have d:=did_cases c hb
 rw[did_in hb hc]at d
 rcases d with⟨-,e1,e2⟩|⟨-, -, -,e1,e2⟩|⟨-, -, -,j,z, -,hj,hz,e1,e2, -⟩
 ·rw[e1,e2];exact hb
 ·rw[e1,e2];exact bothOk_same hb
 ·rw[e1,e2];exact put_ok hb hj hz
theorem did_ok {s:Sr} {i:Int} {c:Cm} (ok:s.ok=true):(s.did i c).1.ok=true:=by
 have o:=ok
 unfold Sr.ok at o
 rw[Bool.and_eq_true]at o
 unfold Sr.did
 rw[if_pos ok]
 split
 ·rename_i q
  rw[Bool.and_eq_true]at q
  unfold Sr.doing
  split
  ·unfold Sr.ok
   dsimp only
   rw[o.1,act_ok o.2 q.1 q.2]
   rfl
  ·rename_i h5
   split
   ·unfold Sr.ok
    dsimp only
    rw[didI_ok o.1 (by rw[q.2];simp;omega),o.2]
    rfl
   ·exact ok
 ·exact ok
end Go.Proofs.YtflbcjgkdokhiaaGreatDoor
set_option maxRecDepth 20000
set_option maxHeartbeats 1000000
namespace Go.Proofs.YtflbcjgkdokhiaaGreatDoor
open Go.ChangeShapes Go.WideShapes Go.ChangeAt Go.RowKit
def framed (l:Bs):Bs:=dec l.length++[32]++dec (chk l).toNat++[32]++l++[10]
def framedS (l:Bs):Bs:=if plainB l then framed l else[]
theorem decI_nat (n:Nat):decI n=dec n:=by simp[decI]
theorem chk_cast (l:Bs):((chk l).toNat:Int)=chk l:=by have:=(chk_bd l).1;omega
theorem app (a b:Bs):(({data:=a.toArray}:ByteArray)++{data:=b.toArray})={data:=(a++b).toArray}:=ByteArray.mk_append_mk a b
theorem sl4Framed_any (l:Bs) (w:World) (hl:l.length≤1099511627776):
  Calls Tryz.prog 78 #[S l] w fun e w'=>e=.returned (S (framed l))∧Below w.heap.size w w':=by
 have c1:∀w',_:=fun w'=>sint_any (l.length:Nat) w' (by omega) (by omega)
 have hb:=chk_bd l
 have c2:∀w',_:=fun w'=>scheck_any l w' hl
 have c3:∀w',_:=fun w'=>sint_any (chk l) w' (by omega) (by omega)
 have e3:decI (chk l)=dec (chk l).toNat:=by have h:=decI_nat (chk l).toNat;rwa[chk_cast]at h
 simp only[decI_nat]at c1
 simp only[e3]at c3
 have d1:=dec_len 13 l.length (by omega)
 have d2:=dec_len 5 (chk l).toNat (by omega)
 have HF:Hid (framed l=dec l.length++[32]++dec (chk l).toNat++[32]++l++[10]):=rfl
 obtain⟨x,hx⟩:∃x,x=chk l:=⟨_,rfl⟩
 obtain⟨p,hp⟩:∃p,p=dec l.length:=⟨_,rfl⟩
 obtain⟨q,hq⟩:∃q,q=dec (chk l).toNat:=⟨_,rfl⟩
 simp only[←hp]at c1 d1 HF
 simp only[←hq]at c3 d2 HF
 simp only[←hx]at c2 c3
 clear hp hq hx e3 hb
 unfold S at c1 c2 c3⊢
 go_enter Tryz.func78,Tryz.ntmps78
 go_wp2_with fail
 refine(c1 w).mono ?_
 rintro e w1 ⟨rfl,b1⟩
 have HB:Hid (Below w.heap.size w w1):=b1
 clear b1 c1
 go_wp2_with fail
 refine(c2 w1).mono ?_
 rintro e w' ⟨rfl,hw⟩;subst w'
 go_wp2_with fail
 refine(c3 w1).mono ?_
 rintro e w2 ⟨rfl,b2⟩
 have HC:Hid (Below w.heap.size w w2):=HB.out.trans (b2.mono HB.out.size)
 clear b2 c2 c3
 go_wp2_with fail
 go_ret
 refine⟨congrArg (fun x=>Ending.returned (Value.string x)) ?_,HC.out⟩
 rw[HF.out,app,app,app,app,app]
end Go.Proofs.YtflbcjgkdokhiaaGreatDoor
