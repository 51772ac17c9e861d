/- Whether a number lies between two others, by the model: l1In, l6Key, l6Word. -/
import Derived.Test.YthmnmaemnihkeaaDoorM1
import Derived.Below
import Derived.Test.YthmnmaemnihkeaaDoorM4
import Derived.Test.YthmnmaemnihkeaaDoorM5
import Derived.BigRegion
import Derived.Deep.RegionHeld3
import Derived.Test.YthmnmaemnihkeaaDoorM3
set_option maxRecDepth 20000
set_option maxHeartbeats 400000
namespace Go.Proofs.YthmnmaemnihkeaaDoor
open Go.ChangeShapes Go.WideShapes Go.ChangeAt Go.RowKit
theorem sin6_any (x lo hi:Int) (w:World):
  Calls Tryd.prog 21 #[.int .i64 x,.int .i64 lo,.int .i64 hi] w fun e w'=>e=.returned (.bool (inI x lo hi))∧w'=w:=by
 by_cases h0:lo≤x
 ·by_cases h1:x≤hi
  ·have he:inI x lo hi=true:=by simp[inI,h0,h1]
   rw[he]
   clear he
   go_enter Tryd.func21,Tryd.ntmps21
   go_wp2
   go_ret
   exact⟨ret_bool (by simp),rfl⟩
  ·have he:inI x lo hi=false:=by simp[inI,h1]
   rw[he]
   clear he
   go_enter Tryd.func21,Tryd.ntmps21
   go_wp2
   go_ret
   exact⟨ret_bool (by simp),rfl⟩
 ·have he:inI x lo hi=false:=by simp[inI,h0]
  rw[he]
  clear he
  go_enter Tryd.func21,Tryd.ntmps21
  go_wp2
  go_ret
  exact⟨ret_bool (by simp),rfl⟩
end Go.Proofs.YthmnmaemnihkeaaDoor
namespace Go.Proofs.YthmnmaemnihkeaaDoor
open Go.ChangeShapes Go.WideShapes Go.ChangeAt Go.RowKit
end Go.Proofs.YthmnmaemnihkeaaDoor
namespace Go.Proofs.YthmnmaemnihkeaaDoor
open Go.ChangeShapes Go.WideShapes Go.ChangeAt Go.RowKit
def hdA (v:Value) (h:Hd):Array Value:=#[v,.int .i64 h.kd,.int .i64 h.ho,.int .i64 h.tu]
def HV (v:Value) (h:Hd):Value:=.agg (hdA v h)
theorem Tryd.isH:IsS 36 4:=⟨⟨_,Tryd.underlying36⟩,by kernel_rfl⟩
def HdB (w:World) (g:Nat) (t:TypeId) (v:Value) (h:Hd):Prop:=StB w g t (hdA v h)∧Reads w v h.ks
theorem HdB.new {w:World} {v:Value} {h:Hd} (t:TypeId) (hr:Reads w v h.ks):HdB (w.alloc (.cells (hdA v h) t)) w.heap.size t v h:=
 ⟨StB.new w t _,hr.below ((Below.refl _ _).alloc (Nat.le_refl _) _) (Nat.le_refl _)⟩
theorem HdB.below {w w':World} {g:Nat} {t:TypeId} {v:Value} {h:Hd} (k:HdB w g t v h) (hb:Below w.heap.size w w'):HdB w' g t v h:=⟨k.1.below hb,k.2.below hb (Nat.le_refl _)⟩
theorem HdB.alloc {w:World} {g:Nat} {t:TypeId} {v:Value} {h:Hd} (k:HdB w g t v h) (o:Obj):HdB (w.alloc o) g t v h:=k.below ((Below.refl _ _).alloc (Nat.le_refl _) _)
end Go.Proofs.YthmnmaemnihkeaaDoor
namespace Go.Proofs.YthmnmaemnihkeaaDoor
open Go.ChangeShapes Go.WideShapes Go.ChangeAt Go.RowKit
def srA (a b k:Value) (h:Hd):Array Value:=#[a,b,k,.int .i64 h.kd,.int .i64 h.ho,.int .i64 h.tu]
def SRV (a b k:Value) (h:Hd):Value:=.agg (srA a b k h)
structure Sr where
 xs:List Int
 ys:List Int
 h:Hd
def Sr.zero:Sr:=⟨[],[],Hd.zero⟩
def Sr.ok (s:Sr):Bool:=bothOk s.xs s.ys&&s.h.ok
def newS (n:Int):Sr:=if decide (1≤n)&&decide (n≤8)then⟨zerosI n,zerosI n,Hd.new⟩else Sr.zero
def conf (r:Hd×Bool):Hd×An:=(r.1,if r.2 then⟨0,[]⟩else⟨3,[]⟩)
def Hd.act (h:Hd) (who:Int) (c:Cm):Hd×An:=
 if c.o=6 then(h.regd who c.a,⟨0,[]⟩)
 else if c.o=7 then conf (h.resd who c.k)
 else if c.o=8 then conf (h.reld who)
 else if c.o=9 then conf (h.clrd who)
 else if c.o=10 then(if c.a=0 then(h,⟨1,[]⟩)else conf (h.pred who c.a c.k))
 else if c.o=11 then(h,⟨0,h.keysT⟩)
 else(h,⟨0,h.holdT⟩)
def Sr.doing (s:Sr) (who:Int) (c:Cm):Sr×An:=
 if 5<c.o then(⟨s.xs,s.ys,(s.h.act who c).1⟩,(s.h.act who c).2)
 else if s.h.may who (decide (c.o≠1))then(⟨(didI s.xs s.ys c).1,(didI s.xs s.ys c).2.1,s.h⟩,(didI s.xs s.ys c).2.2)
 else(s,⟨3,[]⟩)
def Sr.did (s:Sr) (who:Int) (c:Cm):Sr×An:=
 if s.ok then(if inI who 0 3&&c.ok then s.doing who c else(s,⟨7,[]⟩))else(Sr.zero,⟨7,[]⟩)
end Go.Proofs.YthmnmaemnihkeaaDoor
namespace Go.Proofs.YthmnmaemnihkeaaDoor
open Go.RowKit
def cnt (p:Int→Bool):Nat→Nat
 |0=>0
 |j+1=>cnt p j+(if p j=true then 1 else 0)
theorem cnt_none (p:Int→Bool) (h:∀i,p i=false) (j:Nat):cnt p j=0:=by
 induction j with
 |zero=>rfl
 |succ j ih=>simp[cnt,ih,h]
theorem cnt_same (p q:Int→Bool) (h:∀i,p i=q i) (j:Nat):cnt p j=cnt q j:=by
 induction j with
 |zero=>rfl
 |succ j ih=>simp[cnt,ih,h]
theorem cnt_some (p:Int→Bool) (k:Nat) (h:p k=true) (j:Nat) (hj:k<j):0<cnt p j:=by
 induction j with
 |zero=>omega
 |succ j ih=>
  unfold cnt
  by_cases e:k=j
  ·subst e;rw[if_pos h];omega
  ·have:=ih (by omega);omega
theorem cnt_at (p:Int→Bool) (k:Nat) (h:∀i:Nat,p i=decide (i=k)) (j:Nat):cnt p j=if k<j then 1 else 0:=by
 induction j with
 |zero=>rfl
 |succ j ih=>
  unfold cnt
  rw[ih,h j]
  by_cases e:j=k
  ·subst e;simp
  ·simp[e];split<;>split<;>omega
theorem Hd.ok_parts {h:Hd} (e:h.ok=true):h.ks.length=4∧h.mid=true:=by
 unfold Hd.ok at e
 simp only[Bool.and_eq_true,decide_eq_true_eq]at e
 exact⟨e.1.1.1,e.2⟩
theorem Hd.hol_none {h:Hd} (e:h.kd=0) (i:Int):h.Hol i=false:=by
 simp[Hd.Hol,Hd.holds,e]
theorem Hd.hol_all {h:Hd} (ok:h.ok=true) (ha:allI h.kd=true) (i:Int):h.Hol i=h.Reg i:=by
 have hm:=(Hd.ok_parts ok).2
 have hk:h.kd≠0:=by intro e;rw[e]at ha;cases ha
 unfold Hd.mid at hm
 rw[if_neg hk,if_pos ha]at hm
 simp only[Bool.and_eq_true,decide_eq_true_eq]at hm
 unfold Hd.Hol Hd.Reg Hd.holds
 cases hi:inI i 0 3 with
 |false=>simp
 |true=>
  have:=(inI_iff i 0 3).1 hi
  have hne:¬h.ho=i:=by omega
  simp[hk,hne,ha]
theorem Hd.hol_one {h:Hd} (ok:h.ok=true) (hk:h.kd≠0) (ha:allI h.kd=false):∃k:Nat,k<4∧h.ho=k∧regI h.ks h.ho=true∧∀i:Int,inI i 0 3=true→h.Hol i=decide (i=k):=by
 have hm:=(Hd.ok_parts ok).2
 unfold Hd.mid at hm
 rw[if_neg hk,if_neg (by rw[ha];decide)]at hm
 simp only[Bool.and_eq_true]at hm
 have hr:=(inI_iff _ _ _).1 hm.1.2
 refine⟨h.ho.toNat,by omega,by omega,hm.2,fun i hi=>?_⟩
 have hi':=(inI_iff _ _ _).1 hi
 unfold Hd.Hol Hd.holds
 rw[ok,hi,ha]
 by_cases e:h.ho=i
 ·have e2:i=((h.ho.toNat:Nat):Int):=by omega
  simp[hk,e]
  omega
 ·have e2:¬i=((h.ho.toNat:Nat):Int):=by omega
  simp[e]
  omega
theorem Hd.count {h:Hd} (ok:h.ok=true):(h.kd=0→cnt h.Hol 4=0)∧(h.kd≠0→allI h.kd=true→cnt h.Hol 4=cnt h.Reg 4∧0<cnt h.Reg 4)∧(h.kd≠0→allI h.kd=false→cnt h.Hol 4=1):=by
 refine⟨fun e=>cnt_none _ (Hd.hol_none e) 4,fun hk ha=>⟨cnt_same _ _ (Hd.hol_all ok ha) 4,?_⟩,fun hk ha=>?_⟩
 ·have hm:=(Hd.ok_parts ok).2
  have hl:=(Hd.ok_parts ok).1
  unfold Hd.mid at hm
  rw[if_neg hk,if_pos ha]at hm
  simp only[Bool.and_eq_true]at hm
  have ha2:=hm.2
  unfold anyI at ha2
  rw[List.any_eq_true]at ha2
  obtain⟨x,hx,hx2⟩:=ha2
  obtain⟨k,hk4,rfl⟩:=List.mem_iff_getElem.1 hx
  refine cnt_some _ k ?_ 4 (by omega)
  unfold Hd.Reg regI
  have h3:inI (k:Int) 0 3=true:=(inI_iff _ _ _).2 (by omega)
  rw[ok,h3]
  simp[hk4]at hx2⊢
  exact hx2
 ·obtain⟨k,hk4,hho,hr,hall⟩:=Hd.hol_one ok hk ha
  have e:cnt h.Hol 4=cnt (fun i=>decide (i=(k:Int))) 4:=by
   have h0:=hall 0 (by decide)
   have h1:=hall 1 (by decide)
   have h2:=hall 2 (by decide)
   have h3:=hall 3 (by decide)
   simp[cnt,h0,h1,h2,h3]
  rw[e,cnt_at _ k (fun i=>by simp;omega) 4,if_pos hk4]
end Go.Proofs.YthmnmaemnihkeaaDoor
namespace Go.Proofs.YthmnmaemnihkeaaDoor
open Go.RowKit
theorem any_iff {ks:List Int}:anyI ks=true↔∃j,j<ks.length∧ks.getD j 0≠0:=by
 constructor
 ·intro h
  unfold anyI at h
  obtain⟨x,hx,h0⟩:=List.any_eq_true.1 h
  obtain⟨j,hj,rfl⟩:=List.getElem_of_mem hx
  exact⟨j,hj,by simpa[hj]using h0⟩
 ·rintro⟨j,hj,h⟩
  exact any_at ks j hj h
theorem keys_iff {ks:List Int}:keysI ks=true↔∀j,j<ks.length→0≤ks.getD j 0∧ks.getD j 0≤9999:=by
 constructor
 ·intro h j hj
  unfold keysI at h
  have:=List.all_eq_true.1 h ks[j] (List.getElem_mem hj)
  rw[inI_iff]at this
  simpa[hj]using this
 ·intro h
  unfold keysI
  rw[List.all_eq_true]
  intro x hx
  obtain⟨j,hj,rfl⟩:=List.getElem_of_mem hx
  have:=h j hj
  rw[inI_iff]
  simpa[hj]using this
theorem mid_iff {h:Hd}:h.mid=true↔(h.kd=0∧h.ho= -1)∨(h.kd≠0∧allI h.kd=true∧h.ho= -1∧anyI h.ks=true)∨(h.kd≠0∧allI h.kd=false∧kiI h.kd=true∧(0≤h.ho∧h.ho≤3)∧h.ks.getD h.ho.toNat 0≠0):=by
 unfold Hd.mid regI
 by_cases h0:h.kd=0
 ·simp[h0]
 ·cases ha:allI h.kd
  ·simp[h0,Bool.and_eq_true,inI_iff,and_assoc]
  ·simp[h0]
theorem ok_iff {h:Hd}:h.ok=true↔h.ks.length=4∧(0≤h.tu∧h.tu≤1000000000)∧keysI h.ks=true∧h.mid=true:=by
 unfold Hd.ok
 simp[Bool.and_eq_true,inI_iff,and_assoc]
theorem getD_setK {ks:List Int} {j m:Nat} {x:Int} (hj:j<ks.length):(ks.set j x).getD m 0=if m=j then x else ks.getD m 0:=by
 by_cases e:m=j
 ·subst e;simp[hj]
 ·rw[if_neg e]
  simp only[List.getD_eq_getElem?_getD]
  rw[List.getElem?_set_ne (Ne.symm e)]
theorem regd_ks (h:Hd) (i key:Int):(h.regd i key).ks=h.ks.set i.toNat key:=by
 unfold Hd.regd;split<;>rfl
theorem regd_tu (h:Hd) (i key:Int):(h.regd i key).tu=turnI h.tu:=by
 unfold Hd.regd;split<;>rfl
theorem regd_ok {h:Hd} (ok:h.ok=true) {i key:Int} (hi:0≤i∧i≤3) (hk:0≤key∧key≤9999):(h.regd i key).ok=true∧((h.regd i key).kd=h.kd∨key=0∧(h.regd i key).kd=0):=by
 obtain⟨hl,ht,hks,hm⟩:=ok_iff.1 ok
 have hi4:i.toNat<h.ks.length:=by omega
 have hany:key≠0→anyI (h.ks.set i.toNat key)=true:=fun hk0=>any_iff.2 ⟨i.toNat,by simpa using hi4,by rw[getD_setK hi4,if_pos rfl];exact hk0⟩
 have hkeys:keysI (h.ks.set i.toNat key)=true:=keys_iff.2 fun j hj=>by
  rw[getD_setK hi4]
  split
  ·exact hk
  ·exact keys_iff.1 hks j (by simpa using hj)
 have htu:=turnI_in h.tu ht.1 ht.2
 constructor
 ·rw[ok_iff,regd_ks,regd_tu]
  refine⟨by simpa using hl,htu,hkeys,?_⟩
  unfold Hd.regd
  split
  ·rw[mid_iff];exact .inl ⟨rfl,rfl⟩
  ·rename_i c
   rw[mid_iff]
   simp only[Hd.turn,Hd.key]
   rcases mid_iff.1 hm with m|m|m
   ·exact .inl m
   ·refine .inr (.inl ⟨m.1,m.2.1,m.2.2.1,?_⟩)
    by_cases hk0:key=0
    ·cases ha:anyI (h.ks.set i.toNat key)
     ·exact absurd ⟨hk0,.inr ha⟩ c
     ·rfl
    ·exact hany hk0
   ·refine .inr (.inr ⟨m.1,m.2.1,m.2.2.1,m.2.2.2.1,?_⟩)
    rw[getD_setK hi4]
    split
    ·rename_i e
     intro hk0
     exact c ⟨hk0,.inl (by have:=m.2.2.2.1;omega)⟩
    ·exact m.2.2.2.2
 ·unfold Hd.regd
  split
  ·rename_i c;exact .inr ⟨c.1,rfl⟩
  ·exact .inl rfl
end Go.Proofs.YthmnmaemnihkeaaDoor
