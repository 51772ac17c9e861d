/- What a house that does something leaves, plainly. -/
import Derived.Test.YthmnmaemnihkeaaDoorM12
namespace Go.Proofs.YthmnmaemnihkeaaDoor
open Go.RowKit
structure TellR (n:Nd) (p:Nd×List Mg×Bool):Prop where
 ok:NdR p.1
 ep:p.1.r.e=n.r.e
 sn:p.1.r.n=n.r.n
 td:n.r.t≤p.1.r.t
 id:p.1.id=n.id
 one:p.2.1.length≤1
 msg:∀m∈p.2.1,m.dst=1-n.id∧m.tr=p.1.r.t∧p.1.up=true∧(m.kd=3→m.va=n.ys.getD m.pl.toNat 0∧m.tn=p.1.c.ts.getD m.pl.toNat 0∧0≤m.pl∧m.pl<(n.ys.length:Int)∧n.ys.length=p.1.c.ts.length)
 st:p.1.r.s≠n.r.s→p.1.r.s=2∧n.r.s=1∧n.c.clean=true∧p.1.xs=p.1.ys
 fr:(framesB p.1.log).1.length≤(framesB n.log).1.length+1
 len:p.1.ys.length=n.ys.length
 no:p.2.2=false→p=(n,[],false)
theorem TellR.same {n:Nd} (h:NdR n):TellR n (n,[],false):=
 ⟨h,rfl,rfl,Int.le_refl _,rfl,by simp,by simp,fun e=>absurd rfl e,by simp,rfl,fun _=>rfl⟩
theorem TellR.say {n:Nd} (h:NdR n) (hu:n.up=true) (m:Mg) (h1:m.dst=1-n.id) (h2:m.tr=n.r.t) (h3:m.kd≠3):TellR n (n,[m],true):=
 ⟨h,rfl,rfl,Int.le_refl _,rfl,by simp,by
  intro x hx
  simp only[List.mem_singleton]at hx
  subst hx
  exact⟨h1,h2,hu,fun e=>absurd e h3⟩,fun e=>absurd rfl e,by simp,rfl,fun e=>by cases e⟩
theorem next_to' (c:Cp):c.next.tr=c.tr∧c.next.ts.length=c.ts.length:=by unfold Cp.next;split<;>simp
theorem NdR.copy {n:Nd} (h:NdR n) (hu:n.up=true) (hc:n.c.tr≠0):TellR n n.copy:=by
 unfold Nd.copy
 split
 ·exact TellR.same h
 ·rename_i hx
  have hcp:=h.cp hc
  have hg:n.c.goes=true:=by
   cases e:n.c.goes with
   |true=>rfl
   |false=>unfold Cp.nx at hx;rw[e]at hx;simp at hx
  have hnx:n.c.nx=firstI n.c.di:=by unfold Cp.nx;rw[if_pos hg]
  have hft:=(Cp.fit h.c).first
  have hnt:=next_to' n.c
  refine⟨⟨h.id,h.dk,h.h,h.r,h.ll,Cp.next_ok h.c,h.s,h.lg,fun x=>?_,fun _=>⟨hcp.1,?_,?_⟩,h.sk⟩,rfl,rfl,Int.le_refl _,rfl,by simp,?_,fun x=>absurd rfl x,by simp,rfl,fun x=>by cases x⟩
  ·rw[hu]at x;cases x
  ·show n.c.next.tr=n.r.t
   rw[hnt.1];exact hcp.2.1
  ·show n.c.next.ts.length=n.ys.length
   rw[hnt.2];exact hcp.2.2
  ·intro m hm
   simp only[List.mem_singleton]at hm
   subst hm
   refine⟨rfl,rfl,hu,fun _=>⟨rfl,rfl,?_,?_,?_⟩⟩
   ·show 0≤n.c.nx
    omega
   ·show n.c.nx<(n.ys.length:Int)
    rw[hnx,←hcp.2.2];exact hft
   ·show n.ys.length=n.c.next.ts.length
    rw[hnt.2,hcp.2.2]
end Go.Proofs.YthmnmaemnihkeaaDoor
namespace Go.Proofs.YthmnmaemnihkeaaDoor
open Go.RowKit
structure HearR (n:Nd) (m:Mg) (p:Nd×List Mg×Bool):Prop where
 ok:NdR p.1
 ep:n.r.e≤p.1.r.e
 sn:n.r.n≤p.1.r.n
 td:p.1.r.t=n.r.t
 id:p.1.id=n.id
 one:p.2.1.length≤1
 msg:∀x∈p.2.1,x.dst=1-n.id∧x.tr=m.tr∧p.1.up=true
 st:p.1.r.s≠n.r.s→(p.1.r.s=1∧n.r.s=3∧m.kd=5∧n.s.tr=m.tr∧p.1.r.e=m.ep+1∧p.1.xs=p.1.ys∧p.1.h=m.h)∨(p.1.r.s=1∧n.r.s=2∧m.kd=8∧m.tr=n.r.t)∨(p.1.r.s=3∧n.r.s=2∧m.kd=6∧m.tr=n.r.t)
 fr:(framesB p.1.log).1.length≤(framesB n.log).1.length+1
 len:p.1.ys.length=n.ys.length
 no:p.2.2=false→p=(n,[],false)
theorem HearR.same {n:Nd} (h:NdR n) (m:Mg):HearR n m (n,[],false):=
 ⟨h,Int.le_refl _,Int.le_refl _,rfl,rfl,by simp,by simp,fun e=>absurd rfl e,by simp,rfl,fun _=>rfl⟩
theorem HearR.turned {n q:Nd} (m:Mg) (l:List Mg) (hq:NdR q) (hr:q.r=n.r) (hl:q.log=n.log) (hi:q.id=n.id) (hy:q.ys.length=n.ys.length) (h1:l.length≤1) (hm:∀x∈l,x.dst=1-n.id∧x.tr=m.tr∧q.up=true):HearR n m (q,l,true):=
 ⟨hq,by rw[hr];exact Int.le_refl _,by rw[hr];exact Int.le_refl _,by rw[hr],hi,h1,hm,fun e=>absurd (by rw[hr]) e,by simp only[hl];omega,hy,fun e=>by cases e⟩
theorem HearR.fell {n q:Nd} (m:Mg) (hq:NdR q) (hr:q.r=n.r) (hf:(framesB q.log).1.length=(framesB n.log).1.length) (hi:q.id=n.id) (hy:q.ys.length=n.ys.length):HearR n m (q,[],true):=
 ⟨hq,by rw[hr];exact Int.le_refl _,by rw[hr];exact Int.le_refl _,by rw[hr],hi,by simp,by simp,fun e=>absurd (by rw[hr]) e,by simp only;omega,hy,fun e=>by cases e⟩
theorem back_all {n q:Nd} (m:Mg) (k:Int) (hu:q.up=true):∀x∈[n.back m k],x.dst=1-n.id∧x.tr=m.tr∧q.up=true:=by
 intro x hx
 simp only[List.mem_singleton]at hx
 subst hx
 exact⟨rfl,rfl,hu⟩
theorem epI_iff (n:Int):epI n=true↔0≤n∧n≤100000:=by simp[epI]
theorem Mg.parts {m:Mg} (h:m.ok=true):(0≤m.tr∧m.tr≤100000)∧(0≤m.pl∧m.pl<8)∧(0≤m.tn∧m.tn≤1000000000)∧valOk m.va=true∧(0≤m.ep∧m.ep≤100000)∧(1≤m.kd∧m.kd≤8):=by
 unfold Mg.ok at h
 simp only[Bool.and_eq_true,inI_iff,epI_iff]at h
 obtain⟨⟨⟨⟨⟨⟨⟨h1,h2⟩,h3⟩,h4⟩,h5⟩,h6⟩,h7⟩, -⟩:=h
 simp[itemOk]at h4
 exact⟨h3,h4,h5,h6,h7,h2⟩
theorem NdR.blocks {n:Nd} (h:NdR n):1≤(n.ys.length:Int)∧(n.ys.length:Int)≤8:=by
 have hb:=h.dk
 unfold bothOk blocksOk lenOk at hb
 simp only[Bool.and_eq_true,decide_eq_true_eq]at hb
 omega
theorem Cp.open_ok {c:Cp} (h:c.ok=true) (h0:c.tr≠0):({c with op:=true}:Cp).ok=true:=by
 unfold Cp.ok at*
 rw[if_neg h0]at h
 rw[if_neg (by simpa using h0)]
 exact h
theorem NdR.opened {n:Nd} (h:NdR n) (hu:n.up=true) (m:Mg):HearR n m (n.opened m):=by
 unfold Nd.opened
 split
 ·exact HearR.same h m
 ·rename_i e
  have h0:n.c.tr≠0:=fun x=>e (.inl x)
  refine HearR.turned m [] ⟨h.id,h.dk,h.h,h.r,h.ll,Cp.open_ok h.c h0,h.s,h.lg,fun x=>?_,fun _=>h.cp h0,h.sk⟩ rfl rfl rfl rfl (by simp) (by simp)
  rw[hu]at x;cases x
theorem Sn.got_tr (s:Sn) (t i n:Int):(s.got t i n).tr=s.tr∧(s.got t i n).ts.length=s.ts.length:=by unfold Sn.got;split<;>simp
theorem NdR.copied {n:Nd} (h:NdR n) (hu:n.up=true) {m:Mg} (hm:m.ok=true):HearR n m (n.copied m):=by
 have hp:=Mg.parts hm
 obtain⟨is,his⟩:∃is,is=n.s.takes m.tr m.pl m.tn:=⟨_,rfl⟩
 obtain⟨q,hq⟩:∃q:Nd,q=(if is then{n with s:=n.s.got m.tr m.pl m.tn,ys:=n.ys.set m.pl.toNat m.va}else n):=⟨_,rfl⟩
 have hN:NdR q∧q.r=n.r∧q.log=n.log∧q.id=n.id∧q.ys.length=n.ys.length∧q.up=true∧(is=false→q=n):=by
  rw[hq]
  cases e:is with
  |false=>exact⟨h,rfl,rfl,rfl,rfl,hu,fun _=>rfl⟩
  |true=>
   have ht:=(Sn.takes_iff n.s m.tr m.pl m.tn).1 (by rw[←his,e])
   have hs0:n.s.tr≠0:=by omega
   have hsk:=h.sk hs0
   have hj:m.pl.toNat<n.ys.length:=by omega
   refine⟨⟨h.id,put_ok h.dk hj hp.2.2.2.1,h.h,h.r,h.ll,h.c,Sn.got_ok h.s _ _ _,h.lg,fun x=>?_,fun x=>?_,fun _=>⟨hsk.1,?_,?_⟩⟩,rfl,rfl,rfl,by simp,hu,fun x=>by cases x⟩
   ·rw[hu]at x;cases x
   ·exact absurd hsk.1 (h.cp x).1
   ·show(n.s.got _ _ _).tr=n.r.n
    rw[(Sn.got_tr _ _ _ _).1];exact hsk.2.1
   ·show(n.s.got _ _ _).ts.length=(n.ys.set _ _).length
    rw[(Sn.got_tr _ _ _ _).2,List.length_set];exact hsk.2.2
 unfold Nd.copied
 simp only[←his,←hq]
 obtain⟨h1,h2,h3,h4,h5,h6,h7⟩:=hN
 split
 ·cases e:is with
  |false=>rw[h7 e];exact HearR.same h m
  |true=>exact HearR.turned m [] h1 h2 h3 h4 h5 (by simp) (by simp)
 ·refine HearR.turned m _ h1 h2 h3 h4 h5 (by simp) ?_
  intro x hx
  simp only[List.mem_singleton]at hx
  subst hx
  exact⟨rfl,rfl,h6⟩
theorem NdR.gone {n:Nd} (h:NdR n) (hu:n.up=true) {m:Mg} (hm:m.ok=true) (hk:m.kd=6) (torn:Int) (hf:(framesB n.log).1.length<2000):HearR n m (n.gone m torn):=by
 have hr:=(Rc.ok_iff n.r).1 h.r
 have hp:=Mg.parts hm
 unfold Nd.gone
 split
 ·rename_i hmi
  have hmi':=hmi.1
  unfold Nd.mine at hmi'
  simp only[Bool.and_eq_true,decide_eq_true_eq]at hmi'
  have hs0:n.s.tr=0:=by
   by_cases e:n.s.tr=0
   ·exact e
   ·have:=(h.sk e).1;omega
  have hq:(({n.r with e:=m.ep,s:=3}:Rc)).ok=true:=(Rc.ok_iff _).2 ⟨hp.2.2.2.2.1,by simp,hr.2.2.1,hr.2.2.2⟩
  obtain⟨p,hpp⟩:∃p,p=n.note {n.r with e:=m.ep,s:=3} torn:=⟨_,rfl⟩
  simp only[←hpp]
  rcases h.note hu hq hf p hpp with⟨e,hN,e1,e2,e3,e4,e5,e6,e7,e8⟩|⟨e,e1,e2,e3,e4⟩
  ·rw[e]
   simp only[Bool.false_eq_true,if_false]
   exact HearR.fell m hN e2 e8 e4 e5
  ·rw[e]
   simp only[if_true]
   rw[e1]at e2 e3 e4⊢
   refine⟨⟨h.id,h.dk,h.h,hq,e3,Cp.zero_ok,h.s,?_,fun x=>?_,fun x=>absurd rfl x,fun x=>absurd hs0 x⟩,?_,Int.le_refl _,rfl,rfl,by simp,by simp,fun _=>.inr (.inr ⟨rfl,hmi'.1,hk,hmi'.2.symm⟩),?_,rfl,fun x=>by cases x⟩
   ·show LogR _ _ n.up
    rw[hu];exact e2
   ·rw[hu]at x;cases x
   ·show n.r.e≤m.ep
    have:=hmi.2
    omega
   ·show(framesB (n.log++_)).1.length≤_
    exact Nat.le_of_eq e4
 ·exact HearR.same h m
theorem NdR.kept {n:Nd} (h:NdR n) (hu:n.up=true) {m:Mg} (hk:m.kd=8) (torn:Int) (hf:(framesB n.log).1.length<2000):HearR n m (n.kept m torn):=by
 have hr:=(Rc.ok_iff n.r).1 h.r
 unfold Nd.kept
 split
 ·rename_i hmi
  have hmi':=hmi
  unfold Nd.mine at hmi'
  simp only[Bool.and_eq_true,decide_eq_true_eq]at hmi'
  have hs0:n.s.tr=0:=by
   by_cases e:n.s.tr=0
   ·exact e
   ·have:=(h.sk e).1;omega
  have hq:(({n.r with s:=1}:Rc)).ok=true:=(Rc.ok_iff _).2 ⟨hr.1,by simp,hr.2.2.1,hr.2.2.2⟩
  obtain⟨p,hpp⟩:∃p,p=n.note {n.r with s:=1} torn:=⟨_,rfl⟩
  simp only[←hpp]
  rcases h.note hu hq hf p hpp with⟨e,hN,e1,e2,e3,e4,e5,e6,e7,e8⟩|⟨e,e1,e2,e3,e4⟩
  ·rw[e]
   simp only[Bool.false_eq_true,if_false]
   exact HearR.fell m hN e2 e8 e4 e5
  ·rw[e]
   simp only[if_true]
   rw[e1]at e2 e3 e4⊢
   refine⟨⟨h.id,h.dk,h.h,hq,e3,Cp.zero_ok,h.s,?_,fun x=>?_,fun x=>absurd rfl x,fun x=>absurd hs0 x⟩,Int.le_refl _,Int.le_refl _,rfl,rfl,by simp,by simp,fun _=>.inr (.inl ⟨rfl,hmi'.1,hk,hmi'.2.symm⟩),?_,rfl,fun x=>by cases x⟩
   ·show LogR _ _ n.up
    rw[hu];exact e2
   ·rw[hu]at x;cases x
   ·show(framesB (n.log++_)).1.length≤_
    exact Nat.le_of_eq e4
 ·exact HearR.same h m
end Go.Proofs.YthmnmaemnihkeaaDoor
