/- What the laws on actions say, of plain numbers, on: Reserve, Release, Preempt. -/
import Derived.Test.YthmnmaemnihkeaaDoorM6
import Derived.Test.YthmnmaemnihkeaaDoorMem
import Derived.Test.YthmnmaemnihkeaaDoorRows
import Derived.Test.YthmnmaemnihkeaaDoorM1
import Derived.Test.YthmnmaemnihkeaaDoorM4
import Derived.WalkKit
import Derived.ProofKit
import Derived.OpenShut
import Derived.Test.YthmnmaemnihkeaaDoorM2
import Derived.Test.YthmnmaemnihkeaaDoorM5
import Derived.Test.YthmnmaemnihkeaaDoorM3
namespace Go.Proofs.YthmnmaemnihkeaaDoor
open Go.RowKit
theorem ki_ne0 {k:Int} (h:kiI k=true):k≠0:=by intro e;subst e;exact absurd h (by decide)
theorem take_ok {h:Hd} (ok:h.ok=true) {i k:Int} (hi:0≤i∧i≤3) (hr:h.ks.getD i.toNat 0≠0) (hk:kiI k=true):(h.take i k).ok=true:=by
 obtain⟨hl,ht,hks,hm⟩:=ok_iff.1 ok
 rw[ok_iff]
 refine⟨hl,ht,hks,?_⟩
 rw[mid_iff]
 unfold Hd.take
 have h0:=ki_ne0 hk
 cases ha:allI k
 ·refine .inr (.inr ⟨h0,rfl,hk,?_,?_⟩)
  ·simpa using hi
  ·simpa using hr
 ·refine .inr (.inl ⟨h0,rfl,by simp,any_iff.2 ⟨i.toNat,by simp;omega,hr⟩⟩)
theorem take_hol {h:Hd} {i k:Int} (ok:(h.take i k).ok=true) (hi:inI i 0 3=true) (hr:regI h.ks i=true) (hk:kiI k=true):(h.take i k).Hol i=true:=by
 unfold Hd.Hol Hd.holds
 rw[ok,hi]
 have h0:=ki_ne0 hk
 cases ha:allI k
 ·simp[Hd.take,h0,ha]
 ·simp[Hd.take,h0,ha,hr]
theorem reg_of {h:Hd} {i:Int}:regI h.ks i=true↔h.ks.getD i.toNat 0≠0:=by simp[regI]
theorem strike_get (ks:List Int) (i:Nat) (key:Int) (n m:Nat) (hn:n≤ks.length) (hm:m<n):(strike ks i key n).getD m 0=if m≠i∧ks.getD m 0=key then 0 else ks.getD m 0:=by
 induction n with
 |zero=>omega
 |succ n ih=>
  by_cases e:m=n
  ·subst e
   unfold strike
   split
   ·rw[getD_setK (by rw[strike_len];omega),if_pos rfl]
   ·exact strike_at _ _ _ _ _ (Nat.le_refl _)
  ·have:=ih (by omega) (by omega)
   unfold strike
   split
   ·rw[getD_setK (by rw[strike_len];omega),if_neg e,this]
   ·exact this
theorem preempt_cases (h:Hd) (i key k:Int):h.preempt i key k=(Hd.zero,2)∨h.preempt i key k=(h,1)∨
  (∃x,h.preempt i key k=(x,0)∧x.ks.length=4∧h.ks.length=4∧(∀m,m<4→x.ks.getD m 0=if(m:Int)≠i∧h.ks.getD m 0=key then 0 else h.ks.getD m 0)∧
   (h.kd≠0→0≤h.ho→h.ho≤3∧(h.ks.getD h.ho.toNat 0=key→x.Hol i=true∧x.kd=k))∧(h.kd=0→x.kd=0)∧(h.kd≠0→x.kd≠0)∧x.ok=true∧x.Reg i=true):=by
 unfold Hd.preempt
 by_cases c:(h.ok&&inI i 0 3&&inI key 1 9999&&kiI k)=true
 ·rw[if_pos c]
  simp only[Bool.and_eq_true]at c
  obtain⟨⟨⟨ok,hin⟩,hkey⟩,hk⟩:=c
  have hi:=(inI_iff _ _ _).1 hin
  have hky:=(inI_iff _ _ _).1 hkey
  have hk0:=ki_ne0 hk
  obtain⟨hl,ht,hks,hm⟩:=ok_iff.1 ok
  by_cases hrf:(regI h.ks i&&has h.ks key 4)=false
  ·refine .inr (.inl ?_)
   unfold Hd.pred
   rw[if_pos hrf];rfl
  ·have hr:regI h.ks i=true:=by
    cases hx:regI h.ks i
    ·rw[hx]at hrf;exact absurd rfl hrf
    ·rfl
   have hri:=reg_of.1 hr
   obtain⟨h4,hh4⟩:∃h4:Hd,h4=Hd.turn ⟨strike h.ks i.toNat key 4,h.kd,h.ho,h.tu⟩:=⟨_,rfl⟩
   have h4ks:h4.ks=strike h.ks i.toNat key 4:=by rw[hh4];rfl
   have h4kd:h4.kd=h.kd:=by rw[hh4];rfl
   have h4ho:h4.ho=h.ho:=by rw[hh4];rfl
   have h4tu:h4.tu=turnI h.tu:=by rw[hh4];rfl
   have hg:∀m,m<4→h4.ks.getD m 0=if m≠i.toNat∧h.ks.getD m 0=key then 0 else h.ks.getD m 0:=fun m hm=>by
    rw[h4ks];exact strike_get _ _ _ _ _ (by omega) hm
   have hl4:h4.ks.length=4:=by rw[h4ks,strike_len];exact hl
   have hr4:h4.ks.getD i.toNat 0≠0:=by
    rw[hg i.toNat (by omega),if_neg (fun e=>e.1 rfl)];exact hri
   have hks4:keysI h4.ks=true:=keys_iff.2 fun j hj=>by
    rw[hg j (by omega)]
    split
    ·omega
    ·exact keys_iff.1 hks j (by omega)
   have htu4:=turnI_in h.tu ht.1 ht.2
   have hgi:∀m,m<4→h4.ks.getD m 0=if(m:Int)≠i∧h.ks.getD m 0=key then 0 else h.ks.getD m 0:=fun m hm=>by
    rw[hg m hm]
    have:m≠i.toNat↔(m:Int)≠i:=by omega
    simp only[this]
   have hany4:anyI h4.ks=true:=any_iff.2 ⟨i.toNat,by omega,hr4⟩
   have ho:h.kd≠0→0≤h.ho→allI h.kd=false∧h.ho≤3:=by
    intro e1 e2
    rcases mid_iff.1 hm with m|m|m
    ·exact absurd m.1 e1
    ·omega
    ·exact⟨m.2.1,m.2.2.2.1.2⟩
   by_cases ht':(h.alone key||(allI h.kd&& !more h.ks i.toNat key 4))=true
   ·have e:h.pred i key k=(h4.take i k,true):=by
     unfold Hd.pred
     rw[if_neg hrf,if_pos ht',hh4]
    rw[e]
    have hkd:h.kd≠0:=by
     intro e0
     rw[Hd.alone,e0]at ht'
     exact absurd ht' (by simp[show allI 0=false from rfl])
    have tok:(h4.take i k).ok=true:=by
     rw[ok_iff]
     refine⟨hl4,by rw[show(h4.take i k).tu=h4.tu from rfl,h4tu];exact htu4,hks4,?_⟩
     rw[mid_iff]
     unfold Hd.take
     cases ha:allI k
     ·exact .inr (.inr ⟨hk0,rfl,hk,by simpa using hi,by simpa using hr4⟩)
     ·exact .inr (.inl ⟨hk0,rfl,by simp,hany4⟩)
    have hr4':regI h4.ks i=true:=(reg_of (h:=h4)).2 hr4
    refine .inr (.inr ⟨h4.take i k,rfl,hl4,hl,hgi,fun e1 e2=>⟨(ho e1 e2).2,fun _=>⟨take_hol tok hin hr4' hk,rfl⟩⟩,fun e0=>absurd e0 hkd,fun _=>hk0,tok,?_⟩)
    unfold Hd.Reg
    rw[tok,hin]
    exact hr4'
   ·have e:h.pred i key k=(h4,true):=by
     unfold Hd.pred
     rw[if_neg hrf,if_neg ht',hh4]
    rw[e]
    have hal:h.alone key=false:=by
     cases hx:h.alone key
     ·rfl
     ·rw[hx]at ht';exact absurd rfl ht'
    have hok4:h4.ok=true:=by
     rw[ok_iff]
     refine⟨hl4,by rw[h4tu];exact htu4,hks4,?_⟩
     rw[mid_iff,h4kd,h4ho]
     rcases mid_iff.1 hm with m|m|m
     ·exact .inl m
     ·exact .inr (.inl ⟨m.1,m.2.1,m.2.2.1,hany4⟩)
     ·refine .inr (.inr ⟨m.1,m.2.1,m.2.2.1,m.2.2.2.1,?_⟩)
      rw[hg h.ho.toNat (by have:=m.2.2.2.1;omega)]
      have:h.ks.getD h.ho.toNat 0≠key:=by
       intro e1
       rw[Hd.alone,e1]at hal
       simp[m.1,m.2.1]at hal
      rw[if_neg (fun e=>this e.2)]
      exact m.2.2.2.2
    refine .inr (.inr ⟨h4,rfl,hl4,hl,hgi,fun e1 e2=>⟨(ho e1 e2).2,fun e3=>?_⟩,fun e0=>by rw[h4kd];exact e0,fun e0=>by rw[h4kd];exact e0,hok4,?_⟩)
    ·rw[Hd.alone,e3,(ho e1 e2).1]at hal
     simp[e1]at hal
    ·unfold Hd.Reg
     rw[hok4,hin]
     exact(reg_of (h:=h4)).2 hr4
 ·rw[if_neg c];exact .inl rfl
end Go.Proofs.YthmnmaemnihkeaaDoor
namespace Go.Proofs.YthmnmaemnihkeaaDoor
open Go.ChangeShapes Go.WideShapes Go.ChangeAt Go.RowKit
end Go.Proofs.YthmnmaemnihkeaaDoor
namespace Go.Proofs.YthmnmaemnihkeaaDoor
open Go.ChangeShapes Go.WideShapes Go.ChangeAt Go.RowKit
def seekF (p:Nat→Bool):Nat→Nat→Nat
 |0,k=>k
 |f+1,k=>if p k then k else seekF p f (k+1)
def seekI (p:Nat→Bool) (k:Nat):Nat:=seekF p (8-k) k
def hasP (s:Int):Nat→Bool:=fun j=>inB s j
def firstI (s:Int):Int:=if seekI (hasP s) 0=8 then-1 else seekI (hasP s) 0
end Go.Proofs.YthmnmaemnihkeaaDoor
namespace Go.Proofs.YthmnmaemnihkeaaDoor
open Go.RowKit
end Go.Proofs.YthmnmaemnihkeaaDoor
namespace Go.Proofs.YthmnmaemnihkeaaDoor
open Go.RowKit
end Go.Proofs.YthmnmaemnihkeaaDoor
namespace Go.Proofs.YthmnmaemnihkeaaDoor
open Go.ChangeShapes Go.WideShapes Go.ChangeAt Go.RowKit
theorem ownNil2 (w:World) (base:Nat):OwnD w base (.slice none 0 0) (.slice none 0 0) [] []:=⟨Own.nil w base,Own.nil w base,.inl rfl,.inl rfl⟩
theorem Boxes.kept {w wx wy:World} {u v:Value} {h:Nat} (H:Boxes w wx u v) (g:wx.grownBy wy (some h)) (hh:w.heap.size+2≤h):Boxes w wy u v:=
 ⟨H.1.kept g (by simp;omega),H.2.1.kept g (by simp;omega),H.2.2.1.grown g H.2.2.1.size (fun k e=>by cases e;omega),Nat.le_trans H.2.2.2 g.size⟩
theorem Boxes.alloc {w wx:World} {u v:Value} (H:Boxes w wx u v) (o:Obj):Boxes w (wx.alloc o) u v:=H.below (belowAlloc wx o)
end Go.Proofs.YthmnmaemnihkeaaDoor
namespace Go.Proofs.YthmnmaemnihkeaaDoor
open Go.ChangeShapes Go.WideShapes Go.ChangeAt Go.RowKit
theorem bothOk_same {xs ys:List Int} (h:bothOk xs ys=true):bothOk ys ys=true:=by
 have:=(bothOk_yes' h).2.1
 simp[bothOk,this]
theorem set_ok {xs ys:List Int} {i x:Int} (h:bothOk xs ys=true) (hp:placeOk ys i x=true):bothOk xs (ys.set i.toNat x)=true:=by
 obtain⟨h1,h2,h3⟩:=bothOk_yes' h
 have hv:valOk x=true:=by simp[placeOk]at hp;exact hp.2.2
 have hb:blocksOk (ys.set i.toNat x)=true:=by
  simp only[blocksOk,Bool.and_eq_true,List.all_eq_true,List.length_set]at h2⊢
  refine⟨fun z hz=>?_,h2.2⟩
  rcases List.mem_or_eq_of_mem_set hz with hz|rfl
  ·exact h2.1 z hz
  ·exact hv
 simp[bothOk,h1,hb,h3]
end Go.Proofs.YthmnmaemnihkeaaDoor
namespace Go.Proofs.YthmnmaemnihkeaaDoor
open Go.ChangeShapes Go.WideShapes Go.ChangeAt Go.RowKit
theorem did_other {xs ys:List Int} {c:Cm} (hb:bothOk xs ys=true) (h:(c.ok&&decide (c.o≤5))=false):didD xs ys c=(xs,ys,⟨7,[]⟩):=by
 unfold didD
 rw[hb,h]
 simp
theorem did_in {xs ys:List Int} {c:Cm} (hb:bothOk xs ys=true) (h:(c.ok&&decide (c.o≤5))=true):didD xs ys c=didI xs ys c:=by
 unfold didD
 rw[hb,h]
 simp
theorem did_cases {xs ys:List Int} (c:Cm) (hb:bothOk xs ys=true):
  (((didD xs ys c).2.2.st≠0∨c.rd=true)∧(didD xs ys c).1=xs∧(didD xs ys c).2.1=ys)∨
  ((didD xs ys c).2.2.st=0∧c.rd=false∧c.o=5∧(didD xs ys c).1=ys∧(didD xs ys c).2.1=ys)∨
  ((didD xs ys c).2.2.st=0∧c.rd=false∧c.o≠5∧∃(j:Nat) (z:Int),c.p=j∧j<ys.length∧valOk z=true∧(didD xs ys c).1=xs∧(didD xs ys c).2.1=ys.set j z∧(c.o=3→z=c.b∧ys.getD j 0=c.a)∧(c.o≠3→z=c.a)):=by
 cases h:(c.ok&&decide (c.o≤5))with
 |false=>
  left
  rw[did_other hb h]
  exact⟨.inl (by simp),rfl,rfl⟩
 |true=>
  rw[did_in hb h]
  obtain⟨hk,h5⟩:c.ok=true∧c.o≤5:=by simpa using h
  obtain⟨ho,hp⟩:=Cm.ok_vol hk h5
  obtain⟨o,p,x,y,k0⟩:=c
  dsimp only at ho hp h5⊢
  unfold didI
  dsimp only
  by_cases e5:o=5
  ·subst e5
   right;left
   rw[if_pos rfl]
   exact⟨rfl,by simp[Cm.rd],rfl,rfl,rfl⟩
  ·rw[if_neg e5]
   by_cases hr:rangeI ys ⟨o,p,x,y,k0⟩=true
   ·rw[if_pos hr]
    left
    exact⟨.inl (by simp),rfl,rfl⟩
   ·rw[if_neg hr]
    simp only[rangeI,Bool.or_eq_true,Bool.and_eq_true,decide_eq_true_eq,Bool.not_eq_true',not_or,not_and,Bool.not_eq_false]at hr
    obtain⟨⟨r1,r2⟩,r3⟩:=hr
    by_cases e1:o=1
    ·subst e1
     left
     rw[if_pos rfl]
     refine⟨.inr ?_,rfl,rfl⟩
     unfold Cm.rd
     rw[hk]
     rfl
    ·rw[if_neg e1]
     have hrd:(⟨o,p,x,y,k0⟩:Cm).rd=false:=by simp[Cm.rd,e1]
     have hj:p=(p.toNat:Int):=by omega
     have hjl:p.toNat<ys.length:=by omega
     by_cases e2:o=2
     ·subst e2
      right;right
      rw[if_pos rfl]
      exact⟨rfl,hrd,e5,p.toNat,x,hj,hjl,r2 rfl,rfl,rfl,by simp,by simp⟩
     ·rw[if_neg e2]
      by_cases e3:o=3
      ·subst e3
       rw[if_pos rfl]
       by_cases ha:atI ys ⟨3,p,x,y,k0⟩=x
       ·rw[if_pos ha]
        right;right
        exact⟨rfl,hrd,e5,p.toNat,y,hj,hjl,r3 rfl,rfl,rfl,fun _=>⟨rfl,ha⟩,by simp⟩
       ·rw[if_neg ha]
        left
        exact⟨.inl (by simp),rfl,rfl⟩
      ·rw[if_neg e3]
       right;right
       have hx:x=0:=by
        have hk':=hk
        unfold Cm.ok Cm.told at hk'
        dsimp only at hk'
        simp only[Bool.and_eq_true,Bool.or_eq_true,decide_eq_true_eq,inI_iff]at hk'
        omega
       refine⟨rfl,hrd,e5,p.toNat,0,hj,hjl,rfl,rfl,rfl,fun e=>absurd e e3,fun _=>hx.symm⟩
theorem put_ok {xs ys:List Int} {j:Nat} {z:Int} (hb:bothOk xs ys=true) (hj:j<ys.length) (hz:valOk z=true):bothOk xs (ys.set j z)=true:=by
 have hp:placeOk ys (j:Int) z=true:=by simp[placeOk,hz];omega
 have:=set_ok hb hp
 simpa using this
end Go.Proofs.YthmnmaemnihkeaaDoor
namespace Go.Proofs.YthmnmaemnihkeaaDoor
open Go.RowKit
theorem free_ok {h:Hd} (ok:h.ok=true):h.free.ok=true:=by
 obtain⟨hl,ht,hk, -⟩:=ok_iff.1 ok
 exact ok_iff.2 ⟨hl,ht,hk,mid_iff.2 (.inl ⟨rfl,rfl⟩)⟩
theorem clrd_ok {h:Hd} (ok:h.ok=true) (i:Int):(h.clrd i).1.ok=true:=by
 obtain⟨hl,ht,hk,hm⟩:=ok_iff.1 ok
 unfold Hd.clrd
 split
 ·exact ok
 ·refine ok_iff.2 ⟨rfl,?_,(show keysI [0,0,0,0]=true by decide),mid_iff.2 (.inl ⟨rfl,rfl⟩)⟩
  dsimp only
  unfold turnI
  split<;>omega
theorem resd_ok {h:Hd} (ok:h.ok=true) {i k:Int} (hi:0≤i∧i≤3) (hk:kiI k=true):(h.resd i k).1.ok=true:=by
 unfold Hd.resd
 split
 ·exact ok
 ·rename_i hr
  split
  ·exact take_ok ok hi (reg_of.1 (by simpa using hr)) hk
  ·exact ok
theorem reld_ok {h:Hd} (ok:h.ok=true) (i:Int):(h.reld i).1.ok=true:=by
 unfold Hd.reld
 split
 ·exact ok
 ·split
  ·exact free_ok ok
  ·exact ok
theorem pred_ok {h:Hd} (ok:h.ok=true) {i key k:Int} (hi:inI i 0 3=true) (hy:inI key 1 9999=true) (hk:kiI k=true):(h.pred i key k).1.ok=true:=by
 have e:h.preempt i key k=told (h.pred i key k):=by simp[Hd.preempt,ok,hi,hy,hk]
 have c:=preempt_cases h i key k
 rw[e]at c
 unfold told at c
 rcases c with c|c|⟨x,c, -, -, -, -, -, -,hx, -⟩
 ·have:=congrArg Prod.snd c
  dsimp only at this
  split at this<;>cases this
 ·have:=congrArg Prod.fst c
  dsimp only at this
  rw[this]
  exact ok
 ·have:=congrArg Prod.fst c
  dsimp only at this
  rw[this]
  exact hx
theorem act_ok {h:Hd} (ok:h.ok=true) {i:Int} {c:Cm} (hi:inI i 0 3=true) (hc:c.ok=true):(h.act i c).1.ok=true:=by
 have hi':=(inI_iff _ _ _).1 hi
 unfold Cm.ok Cm.fits at hc
 rw[Bool.and_eq_true]at hc
 have hf:=hc.2
 unfold Hd.act
 split
 ·rename_i h6
  rw[if_pos h6]at hf
  exact(regd_ok ok hi' ((inI_iff _ _ _).1 hf)).1
 ·rename_i h6
  rw[if_neg h6]at hf
  split
  ·rename_i h7
   rw[if_neg (by omega),if_pos h7]at hf
   exact resd_ok ok hi' hf
  ·split
   ·exact reld_ok ok i
   ·split
    ·exact clrd_ok ok i
    ·split
     ·rename_i h10
      rw[if_pos h10]at hf
      simp only[Bool.and_eq_true]at hf
      split
      ·exact ok
      ·rename_i ha
       have h1:=(inI_iff _ _ _).1 hf.1.1
       exact pred_ok ok hi ((inI_iff _ _ _).2 (by omega)) hf.2
     ·split
      ·exact ok
      ·exact ok
theorem didI_ok {xs ys:List Int} {c:Cm} (hb:bothOk xs ys=true) (hc:(c.ok&&decide (c.o≤5))=true):bothOk (didI xs ys c).1 (didI xs ys c).2.1=true:=by
 have d:=did_cases c hb
 rw[did_in hb hc]at d
 rcases d with⟨-,e1,e2⟩|⟨-, -, -,e1,e2⟩|⟨-, -, -,j,z, -,hj,hz,e1,e2, -⟩
 ·rw[e1,e2];exact hb
 ·rw[e1,e2];exact bothOk_same hb
 ·rw[e1,e2];exact put_ok hb hj hz
theorem did_ok {s:Sr} {i:Int} {c:Cm} (ok:s.ok=true):(s.did i c).1.ok=true:=by
 have o:=ok
 unfold Sr.ok at o
 rw[Bool.and_eq_true]at o
 unfold Sr.did
 rw[if_pos ok]
 split
 ·rename_i q
  rw[Bool.and_eq_true]at q
  unfold Sr.doing
  split
  ·unfold Sr.ok
   dsimp only
   rw[o.1,act_ok o.2 q.1 q.2]
   rfl
  ·rename_i h5
   split
   ·unfold Sr.ok
    dsimp only
    rw[didI_ok o.1 (by rw[q.2];simp;omega),o.2]
    rfl
   ·exact ok
 ·exact ok
end Go.Proofs.YthmnmaemnihkeaaDoor
