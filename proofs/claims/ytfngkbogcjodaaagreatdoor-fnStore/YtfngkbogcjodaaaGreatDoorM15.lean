/- What the laws on actions say, of plain numbers, on: Reserve, Release, Preempt. -/
import Derived.Test.YtfngkbogcjodaaaGreatDoorM14
import Derived.Test.YtfngkbogcjodaaaGreatDoorM1
import Derived.Test.YtfngkbogcjodaaaGreatDoorRows
import Derived.Test.YtfngkbogcjodaaaGreatDoorM2
import Derived.WalkKit
import Derived.ProofKit
import Derived.OpenShut
namespace Go.Proofs.YtfngkbogcjodaaaGreatDoor
open Go.RowKit
theorem ki_ne0 {k:Int} (h:kiI k=true):k≠0:=by intro e;subst e;exact absurd h (by decide)
theorem take_ok {h:Hd} (ok:h.ok=true) {i k:Int} (hi:0≤i∧i≤3) (hr:h.ks.getD i.toNat 0≠0) (hk:kiI k=true):(h.take i k).ok=true:=by
 obtain⟨hl,ht,hks,hm⟩:=ok_iff.1 ok
 rw[ok_iff]
 refine⟨hl,ht,hks,?_⟩
 rw[mid_iff]
 unfold Hd.take
 have h0:=ki_ne0 hk
 cases ha:allI k
 ·refine .inr (.inr ⟨h0,rfl,hk,?_,?_⟩)
  ·simpa using hi
  ·simpa using hr
 ·refine .inr (.inl ⟨h0,rfl,by simp,any_iff.2 ⟨i.toNat,by simp;omega,hr⟩⟩)
theorem take_hol {h:Hd} {i k:Int} (ok:(h.take i k).ok=true) (hi:inI i 0 3=true) (hr:regI h.ks i=true) (hk:kiI k=true):(h.take i k).Hol i=true:=by
 unfold Hd.Hol Hd.holds
 rw[ok,hi]
 have h0:=ki_ne0 hk
 cases ha:allI k
 ·simp[Hd.take,h0,ha]
 ·simp[Hd.take,h0,ha,hr]
theorem reg_of {h:Hd} {i:Int}:regI h.ks i=true↔h.ks.getD i.toNat 0≠0:=by simp[regI]
theorem reserve_cases (h:Hd) (i k:Int):h.reserve i k=(Hd.zero,2)∨
  (h.reserve i k=(h,1)∧(h.Reg i=false∨(h.kd≠0∧(h.kd≠k∨h.Hol i=false))))∨
  (∃x,h.reserve i k=(x,0)∧x.Hol i=true∧x.kd=k∧(h.kd=0∨x=h)∧x.reserve i k=(x,0)∧x.ks.length=4):=by
 unfold Hd.reserve
 by_cases c:(h.ok&&inI i 0 3&&kiI k)=true
 ·rw[if_pos c]
  simp only[Bool.and_eq_true]at c
  obtain⟨⟨ok,hin⟩,hk⟩:=c
  have hi:=(inI_iff _ _ _).1 hin
  have hk0:=ki_ne0 hk
  have hl:=(ok_iff.1 ok).1
  cases hr:regI h.ks i
  ·refine .inr (.inl ⟨?_,.inl ?_⟩)
   ·simp[Hd.resd,hr,told]
   ·simp[Hd.Reg,hr]
  ·by_cases h0:h.kd=0
   ·have e:h.resd i k=(h.take i k,true):=by simp[Hd.resd,hr,h0]
    have tok:=take_ok ok hi (reg_of.1 hr) hk
    refine .inr (.inr ⟨h.take i k,by rw[e];rfl,take_hol tok hin hr hk,rfl,.inl h0,?_,hl⟩)
    have e2:(h.take i k).resd i k=(h.take i k,true):=by
     unfold Hd.resd
     rw[if_neg (by rw[show(h.take i k).ks=h.ks from rfl,hr];decide),if_neg (show(h.take i k).kd≠0 from hk0)]
     cases ha:allI k<;>simp[Hd.take,ha]
    rw[tok,hin,hk,e2];rfl
   ·have e:h.resd i k=(h,decide (h.kd=k)&&(allI k||decide (h.ho=i))):=by simp[Hd.resd,hr,h0]
    by_cases hh:(decide (h.kd=k)&&(allI k||decide (h.ho=i)))=true
    ·rw[hh]at e
     simp only[Bool.and_eq_true,Bool.or_eq_true,decide_eq_true_eq]at hh
     refine .inr (.inr ⟨h,by rw[e];rfl,?_,hh.1,.inr rfl,by rw[ok,hin,hk,e];rfl,hl⟩)
     unfold Hd.Hol Hd.holds
     rw[ok,hin]
     rcases hh with⟨hkk,ha|ho⟩
     ·simp[hkk,ha,hr,hk0]
     ·simp[h0,ho]
    ·have hh':(decide (h.kd=k)&&(allI k||decide (h.ho=i)))=false:=by simpa using hh
     rw[hh']at e
     refine .inr (.inl ⟨by rw[e];rfl,.inr ⟨h0,?_⟩⟩)
     by_cases hkk:h.kd=k
     ·right
      subst hkk
      simp at hh'
      simp[Hd.Hol,Hd.holds,hh'.1,hh'.2]
     ·exact .inl hkk
 ·rw[if_neg c];exact .inl rfl
theorem release_cases (a:Hd) (b:Int):(∃y,a.release b=(y,0)∧y.Hol b=false∧y.ks=a.ks∧y.tu=a.tu∧(a.Hol b=true∨y=a))∨a.release b=(a,1)∨a.release b=(Hd.zero,2):=by
 unfold Hd.release
 by_cases c:(a.ok&&inI b 0 3)=true
 ·rw[if_pos c]
  simp only[Bool.and_eq_true]at c
  unfold Hd.reld
  cases hr:regI a.ks b
  ·rw[if_pos rfl];exact .inr (.inl rfl)
  ·rw[if_neg (by decide)]
   cases hh:a.holds b
   ·rw[if_neg (by decide)]
    exact .inl ⟨a,rfl,by simp[Hd.Hol,hh],rfl,rfl,.inr rfl⟩
   ·rw[if_pos rfl]
    exact .inl ⟨a.free,rfl,Hd.hol_none rfl b,rfl,rfl,.inl (by simp[Hd.Hol,c.1,c.2,hh])⟩
 ·rw[if_neg c];exact .inr (.inr rfl)
theorem strike_get (ks:List Int) (i:Nat) (key:Int) (n m:Nat) (hn:n≤ks.length) (hm:m<n):(strike ks i key n).getD m 0=if m≠i∧ks.getD m 0=key then 0 else ks.getD m 0:=by
 induction n with
 |zero=>omega
 |succ n ih=>
  by_cases e:m=n
  ·subst e
   unfold strike
   split
   ·rw[getD_setK (by rw[strike_len];omega),if_pos rfl]
   ·exact strike_at _ _ _ _ _ (Nat.le_refl _)
  ·have:=ih (by omega) (by omega)
   unfold strike
   split
   ·rw[getD_setK (by rw[strike_len];omega),if_neg e,this]
   ·exact this
theorem preempt_cases (h:Hd) (i key k:Int):h.preempt i key k=(Hd.zero,2)∨h.preempt i key k=(h,1)∨
  (∃x,h.preempt i key k=(x,0)∧x.ks.length=4∧h.ks.length=4∧(∀m,m<4→x.ks.getD m 0=if(m:Int)≠i∧h.ks.getD m 0=key then 0 else h.ks.getD m 0)∧
   (h.kd≠0→0≤h.ho→h.ho≤3∧(h.ks.getD h.ho.toNat 0=key→x.Hol i=true∧x.kd=k))∧(h.kd=0→x.kd=0)∧(h.kd≠0→x.kd≠0)∧x.ok=true∧x.Reg i=true):=by
 unfold Hd.preempt
 by_cases c:(h.ok&&inI i 0 3&&inI key 1 9999&&kiI k)=true
 ·rw[if_pos c]
  simp only[Bool.and_eq_true]at c
  obtain⟨⟨⟨ok,hin⟩,hkey⟩,hk⟩:=c
  have hi:=(inI_iff _ _ _).1 hin
  have hky:=(inI_iff _ _ _).1 hkey
  have hk0:=ki_ne0 hk
  obtain⟨hl,ht,hks,hm⟩:=ok_iff.1 ok
  by_cases hrf:(regI h.ks i&&has h.ks key 4)=false
  ·refine .inr (.inl ?_)
   unfold Hd.pred
   rw[if_pos hrf];rfl
  ·have hr:regI h.ks i=true:=by
    cases hx:regI h.ks i
    ·rw[hx]at hrf;exact absurd rfl hrf
    ·rfl
   have hri:=reg_of.1 hr
   obtain⟨h4,hh4⟩:∃h4:Hd,h4=Hd.turn ⟨strike h.ks i.toNat key 4,h.kd,h.ho,h.tu⟩:=⟨_,rfl⟩
   have h4ks:h4.ks=strike h.ks i.toNat key 4:=by rw[hh4];rfl
   have h4kd:h4.kd=h.kd:=by rw[hh4];rfl
   have h4ho:h4.ho=h.ho:=by rw[hh4];rfl
   have h4tu:h4.tu=turnI h.tu:=by rw[hh4];rfl
   have hg:∀m,m<4→h4.ks.getD m 0=if m≠i.toNat∧h.ks.getD m 0=key then 0 else h.ks.getD m 0:=fun m hm=>by
    rw[h4ks];exact strike_get _ _ _ _ _ (by omega) hm
   have hl4:h4.ks.length=4:=by rw[h4ks,strike_len];exact hl
   have hr4:h4.ks.getD i.toNat 0≠0:=by
    rw[hg i.toNat (by omega),if_neg (fun e=>e.1 rfl)];exact hri
   have hks4:keysI h4.ks=true:=keys_iff.2 fun j hj=>by
    rw[hg j (by omega)]
    split
    ·omega
    ·exact keys_iff.1 hks j (by omega)
   have htu4:=turnI_in h.tu ht.1 ht.2
   have hgi:∀m,m<4→h4.ks.getD m 0=if(m:Int)≠i∧h.ks.getD m 0=key then 0 else h.ks.getD m 0:=fun m hm=>by
    rw[hg m hm]
    have:m≠i.toNat↔(m:Int)≠i:=by omega
    simp only[this]
   have hany4:anyI h4.ks=true:=any_iff.2 ⟨i.toNat,by omega,hr4⟩
   have ho:h.kd≠0→0≤h.ho→allI h.kd=false∧h.ho≤3:=by
    intro e1 e2
    rcases mid_iff.1 hm with m|m|m
    ·exact absurd m.1 e1
    ·omega
    ·exact⟨m.2.1,m.2.2.2.1.2⟩
   by_cases ht':(h.alone key||(allI h.kd&& !more h.ks i.toNat key 4))=true
   ·have e:h.pred i key k=(h4.take i k,true):=by
     unfold Hd.pred
     rw[if_neg hrf,if_pos ht',hh4]
    rw[e]
    have hkd:h.kd≠0:=by
     intro e0
     rw[Hd.alone,e0]at ht'
     exact absurd ht' (by simp[show allI 0=false from rfl])
    have tok:(h4.take i k).ok=true:=by
     rw[ok_iff]
     refine⟨hl4,by rw[show(h4.take i k).tu=h4.tu from rfl,h4tu];exact htu4,hks4,?_⟩
     rw[mid_iff]
     unfold Hd.take
     cases ha:allI k
     ·exact .inr (.inr ⟨hk0,rfl,hk,by simpa using hi,by simpa using hr4⟩)
     ·exact .inr (.inl ⟨hk0,rfl,by simp,hany4⟩)
    have hr4':regI h4.ks i=true:=(reg_of (h:=h4)).2 hr4
    refine .inr (.inr ⟨h4.take i k,rfl,hl4,hl,hgi,fun e1 e2=>⟨(ho e1 e2).2,fun _=>⟨take_hol tok hin hr4' hk,rfl⟩⟩,fun e0=>absurd e0 hkd,fun _=>hk0,tok,?_⟩)
    unfold Hd.Reg
    rw[tok,hin]
    exact hr4'
   ·have e:h.pred i key k=(h4,true):=by
     unfold Hd.pred
     rw[if_neg hrf,if_neg ht',hh4]
    rw[e]
    have hal:h.alone key=false:=by
     cases hx:h.alone key
     ·rfl
     ·rw[hx]at ht';exact absurd rfl ht'
    have hok4:h4.ok=true:=by
     rw[ok_iff]
     refine⟨hl4,by rw[h4tu];exact htu4,hks4,?_⟩
     rw[mid_iff,h4kd,h4ho]
     rcases mid_iff.1 hm with m|m|m
     ·exact .inl m
     ·exact .inr (.inl ⟨m.1,m.2.1,m.2.2.1,hany4⟩)
     ·refine .inr (.inr ⟨m.1,m.2.1,m.2.2.1,m.2.2.2.1,?_⟩)
      rw[hg h.ho.toNat (by have:=m.2.2.2.1;omega)]
      have:h.ks.getD h.ho.toNat 0≠key:=by
       intro e1
       rw[Hd.alone,e1]at hal
       simp[m.1,m.2.1]at hal
      rw[if_neg (fun e=>this e.2)]
      exact m.2.2.2.2
    refine .inr (.inr ⟨h4,rfl,hl4,hl,hgi,fun e1 e2=>⟨(ho e1 e2).2,fun e3=>?_⟩,fun e0=>by rw[h4kd];exact e0,fun e0=>by rw[h4kd];exact e0,hok4,?_⟩)
    ·rw[Hd.alone,e3,(ho e1 e2).1]at hal
     simp[e1]at hal
    ·unfold Hd.Reg
     rw[hok4,hin]
     exact(reg_of (h:=h4)).2 hr4
 ·rw[if_neg c];exact .inl rfl
end Go.Proofs.YtfngkbogcjodaaaGreatDoor
set_option maxRecDepth 20000
set_option maxHeartbeats 400000
namespace Go.Proofs.YtfngkbogcjodaaaGreatDoor
open Go.ChangeShapes Go.WideShapes Go.ChangeAt Go.RowKit
theorem like_any (va vb:Value) (xs ys:List Int) (w:World) (ha:Reads w va xs) (hb:Reads w vb ys) (hbig:xs.length≤1099511627776):
  Calls Tryz.prog 42 #[va,vb] w fun e w'=>e=.returned (.bool (decide (xs=ys)))∧∃n,w'=w.drewN n:=by
 obtain⟨ao,ca,rfl,hla,⟨hma, -⟩,hca⟩:=ha
 obtain⟨bo,cb,rfl,hlb,⟨hmb, -⟩,hcb⟩:=hb
 by_cases hlen:xs.length=ys.length
 ·obtain⟨n,hn⟩:∃n,n=xs.length:=⟨_,rfl⟩
  rw[←hlen]at hlb hcb⊢
  rw[←hn]at hla hlb hca hcb hbig⊢
  have HN:Hid (n=xs.length∧n=ys.length):=⟨hn,hn.trans hlen⟩
  clear hn hlen hma hmb
  have hcell:∀j,j<n→∃b off b' off',ao=some ⟨b,off,none⟩∧bo=some ⟨b',off',none⟩∧w.cell? ⟨b,off+j,none⟩=some (.int .i64 (xs.getD j 0))∧w.cell? ⟨b',off'+j,none⟩=some (.int .i64 (ys.getD j 0)):=by
   intro j hj
   rcases hca with e|⟨b,off,e,h4⟩
   ·have:=HN.out.1;rw[e]at this;simp at this;omega
   ·rcases hcb with e'|⟨b',off',e',h4'⟩
    ·have:=HN.out.2;rw[e']at this;simp at this;omega
    ·exact⟨b,off,b',off',e,e',h4 j hj,h4' j hj⟩
  clear hca hcb
  go_enter Tryz.func42,Tryz.ntmps42
  go_wp2
  go_loopw [5] (fun i wr=>∃j q:Nat,j≤n∧i=.int .i64 j∧Hid (xs.take j=ys.take j)∧wr=w.drewN q) (fun i _=>n-(intOf i).toNat)
  case atStart=>exact⟨0,0,Nat.zero_le _,rfl,by simp[Hid],rfl⟩
  case round=>
   obtain⟨j,q,hj,rfl,ht,rfl⟩:=hrel
   by_cases hlt:(j:Int)<(n:Int)
   ·obtain⟨b,off,b',off',rfl,rfl,hc1,hc2⟩:=hcell j (by omega)
    clear hcell
    obtain⟨x,hx⟩:∃x,x=xs.getD j 0:=⟨_,rfl⟩
    obtain⟨y,hy⟩:∃y,y=ys.getD j 0:=⟨_,rfl⟩
    rw[←hx]at hc1
    rw[←hy]at hc2
    have HX:Hid (x=xs.getD j 0∧y=ys.getD j 0):=⟨hx,hy⟩
    clear hx hy
    by_cases hxy:(x !=y)=true
    ·go_wp2
     go_quiet (fail)
     go_wp2
     go_ret
     exact⟨ret_bool (by
      have h1:x≠y:=by simpa using hxy
      have h2:xs≠ys:=ne_of_getD (j:=j) (by rw[←HX.out.1,←HX.out.2];exact h1)
      simp[h2]),⟨_,World.drewN_drewN ..⟩⟩
    ·go_wp2
     go_quiet (fail)
     go_wp2
     go_roundw
     case rel=>
      have h1:x=y:=by simpa using hxy
      exact⟨j+1,_,by omega,by go_num,take_step ht (by have:=HN.out.1;omega) (by have:=HN.out.2;omega) (by rw[←HX.out.1,←HX.out.2];exact h1),rfl⟩
     case measure=>simp[intOf];omega
   ·go_wp2
    go_ret
    exact⟨ret_bool (by
     have h1:xs=ys:=by
      have h2:=ht.out
      rw[List.take_of_length_le (by have:=HN.out.1;omega),List.take_of_length_le (by have:=HN.out.2;omega)]at h2
      exact h2
     simp[h1]),⟨_,rfl⟩⟩
 ·have hne:((xs.length:Int) !=(ys.length:Int))=true:=by simp;omega
  have he:decide (xs=ys)=false:=by
   have:xs≠ys:=fun h=>hlen (by rw[h])
   simp[this]
  rw[he]
  clear he hlen hca hcb
  go_enter Tryz.func42,Tryz.ntmps42
  go_wp2
  go_ret
  exact⟨rfl,0,rfl⟩
end Go.Proofs.YtfngkbogcjodaaaGreatDoor
namespace Go.Proofs.YtfngkbogcjodaaaGreatDoor
open Go.ChangeShapes Go.WideShapes Go.ChangeAt Go.RowKit
def seekF (p:Nat→Bool):Nat→Nat→Nat
 |0,k=>k
 |f+1,k=>if p k then k else seekF p f (k+1)
def seekI (p:Nat→Bool) (k:Nat):Nat:=seekF p (8-k) k
theorem seekI_yes {p:Nat→Bool} {k:Nat} (h:k<8) (hp:p k=true):seekI p k=k:=by
 unfold seekI
 obtain⟨f,hf⟩:∃f,8-k=f+1:=⟨7-k,by omega⟩
 rw[hf];simp[seekF,hp]
theorem seekI_no {p:Nat→Bool} {k:Nat} (h:k<8) (hp:p k=false):seekI p k=seekI p (k+1):=by
 unfold seekI
 obtain⟨f,hf⟩:∃f,8-k=f+1:=⟨7-k,by omega⟩
 rw[hf];simp[seekF,hp]
 rw[show 7-k=f by omega]
theorem seekI_end {p:Nat→Bool} {k:Nat} (h:8≤k):seekI p k=k:=by
 unfold seekI
 rw[show 8-k=0 by omega];rfl
theorem seekI_bd (p:Nat→Bool) (k:Nat) (h:k≤8):k≤seekI p k∧seekI p k≤8:=by
 obtain⟨m,hm⟩:∃m,m=8-k:=⟨_,rfl⟩
 induction m generalizing k with
 |zero=>
  obtain rfl:k=8:=by omega
  rw[seekI_end (Nat.le_refl _)];omega
 |succ m ih=>
  by_cases hp:p k=true
  ·rw[seekI_yes (by omega) hp];omega
  ·have:=ih (k+1) (by omega) (by omega)
   rw[seekI_no (by omega) (by simpa using hp)];omega
theorem seekI_at (p:Nat→Bool) (k:Nat) (h:k≤8) (h8:seekI p k<8):p (seekI p k)=true:=by
 obtain⟨m,hm⟩:∃m,m=8-k:=⟨_,rfl⟩
 induction m generalizing k with
 |zero=>
  obtain rfl:k=8:=by omega
  rw[seekI_end (Nat.le_refl _)]at h8;omega
 |succ m ih=>
  by_cases hp:p k=true
  ·rw[seekI_yes (by omega) hp];exact hp
  ·have hn:=seekI_no (p:=p) (k:=k) (by omega) (by simpa using hp)
   rw[hn]at h8⊢
   exact ih (k+1) (by omega) h8 (by omega)
theorem seekI_before (p:Nat→Bool) (k:Nat) (h:k≤8) (j:Nat) (h1:k≤j) (h2:j<seekI p k):p j=false:=by
 obtain⟨m,hm⟩:∃m,m=8-k:=⟨_,rfl⟩
 induction m generalizing k with
 |zero=>
  obtain rfl:k=8:=by omega
  rw[seekI_end (Nat.le_refl _)]at h2;omega
 |succ m ih=>
  by_cases hp:p k=true
  ·rw[seekI_yes (by omega) hp]at h2;omega
  ·have hn:=seekI_no (p:=p) (k:=k) (by omega) (by simpa using hp)
   rw[hn]at h2
   by_cases ej:j=k
   ·subst ej;simpa using hp
   ·exact ih (k+1) (by omega) (by omega) h2 (by omega)
theorem seekI_none (p:Nat→Bool) (k:Nat) (h:k≤8) (hp:∀j,p j=false):seekI p k=8:=by
 have b:=seekI_bd p k h
 by_cases e:seekI p k<8
 ·have:=seekI_at p k h e;rw[hp]at this;cases this
 ·omega
def hasP (s:Int):Nat→Bool:=fun j=>inB s j
def lackP (s:Int):Nat→Bool:=fun j=> !inB s j
def firstI (s:Int):Int:=if seekI (hasP s) 0=8 then-1 else seekI (hasP s) 0
theorem firstI_noset {s:Int} (h:s<0∨256≤s):firstI s= -1:=by
 unfold firstI
 rw[if_pos (seekI_none _ _ (by omega) (fun j=>by simp[hasP,inB_noset h]))]
end Go.Proofs.YtfngkbogcjodaaaGreatDoor
