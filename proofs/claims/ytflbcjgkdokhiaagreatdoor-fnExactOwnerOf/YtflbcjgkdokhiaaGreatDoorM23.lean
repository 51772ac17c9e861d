/- What a house that does something leaves, plainly. -/
import Derived.Test.YtflbcjgkdokhiaaGreatDoorM11
namespace Go.Proofs.YtflbcjgkdokhiaaGreatDoor
open Go.RowKit
structure TellR (n:Nd) (p:Nd×List Mg×Bool):Prop where
 ok:NdR p.1
 ep:p.1.r.e=n.r.e
 sn:p.1.r.n=n.r.n
 td:n.r.t≤p.1.r.t
 id:p.1.id=n.id
 one:p.2.1.length≤1
 msg:∀m∈p.2.1,m.dst=1-n.id∧m.tr=p.1.r.t∧p.1.up=true∧(m.kd=3→m.va=n.ys.getD m.pl.toNat 0∧m.tn=p.1.c.ts.getD m.pl.toNat 0∧0≤m.pl∧m.pl<(n.ys.length:Int)∧n.ys.length=p.1.c.ts.length)
 st:p.1.r.s≠n.r.s→p.1.r.s=2∧n.r.s=1∧n.c.clean=true∧p.1.xs=p.1.ys
 fr:(framesB p.1.log).1.length≤(framesB n.log).1.length+1
 len:p.1.ys.length=n.ys.length
 no:p.2.2=false→p=(n,[],false)
theorem TellR.same {n:Nd} (h:NdR n):TellR n (n,[],false):=
 ⟨h,rfl,rfl,Int.le_refl _,rfl,by simp,by simp,fun e=>absurd rfl e,by simp,rfl,fun _=>rfl⟩
theorem TellR.say {n:Nd} (h:NdR n) (hu:n.up=true) (m:Mg) (h1:m.dst=1-n.id) (h2:m.tr=n.r.t) (h3:m.kd≠3):TellR n (n,[m],true):=
 ⟨h,rfl,rfl,Int.le_refl _,rfl,by simp,by
  intro x hx
  simp only[List.mem_singleton]at hx
  subst hx
  exact⟨h1,h2,hu,fun e=>absurd e h3⟩,fun e=>absurd rfl e,by simp,rfl,fun e=>by cases e⟩
theorem next_to' (c:Cp):c.next.tr=c.tr∧c.next.ts.length=c.ts.length:=by unfold Cp.next;split<;>simp
theorem NdR.copy {n:Nd} (h:NdR n) (hu:n.up=true) (hc:n.c.tr≠0):TellR n n.copy:=by
 unfold Nd.copy
 split
 ·exact TellR.same h
 ·rename_i hx
  have hcp:=h.cp hc
  have hg:n.c.goes=true:=by
   cases e:n.c.goes with
   |true=>rfl
   |false=>unfold Cp.nx at hx;rw[e]at hx;simp at hx
  have hnx:n.c.nx=firstI n.c.di:=by unfold Cp.nx;rw[if_pos hg]
  have hft:=(Cp.fit h.c).first
  have hnt:=next_to' n.c
  refine⟨⟨h.id,h.dk,h.h,h.r,h.ll,Cp.next_ok h.c,h.s,h.lg,fun x=>?_,fun _=>⟨hcp.1,?_,?_⟩,h.sk⟩,rfl,rfl,Int.le_refl _,rfl,by simp,?_,fun x=>absurd rfl x,by simp,rfl,fun x=>by cases x⟩
  ·rw[hu]at x;cases x
  ·show n.c.next.tr=n.r.t
   rw[hnt.1];exact hcp.2.1
  ·show n.c.next.ts.length=n.ys.length
   rw[hnt.2];exact hcp.2.2
  ·intro m hm
   simp only[List.mem_singleton]at hm
   subst hm
   refine⟨rfl,rfl,hu,fun _=>⟨rfl,rfl,?_,?_,?_⟩⟩
   ·show 0≤n.c.nx
    omega
   ·show n.c.nx<(n.ys.length:Int)
    rw[hnx,←hcp.2.2];exact hft
   ·show n.ys.length=n.c.next.ts.length
    rw[hnt.2,hcp.2.2]
end Go.Proofs.YtflbcjgkdokhiaaGreatDoor
namespace Go.Proofs.YtflbcjgkdokhiaaGreatDoor
open Go.RowKit
structure HearR (n:Nd) (m:Mg) (p:Nd×List Mg×Bool):Prop where
 ok:NdR p.1
 ep:n.r.e≤p.1.r.e
 sn:n.r.n≤p.1.r.n
 td:p.1.r.t=n.r.t
 id:p.1.id=n.id
 one:p.2.1.length≤1
 msg:∀x∈p.2.1,x.dst=1-n.id∧x.tr=m.tr∧p.1.up=true
 st:p.1.r.s≠n.r.s→(p.1.r.s=1∧n.r.s=3∧m.kd=5∧n.s.tr=m.tr∧p.1.r.e=m.ep+1∧p.1.xs=p.1.ys∧p.1.h=m.h)∨(p.1.r.s=1∧n.r.s=2∧m.kd=8∧m.tr=n.r.t)∨(p.1.r.s=3∧n.r.s=2∧m.kd=6∧m.tr=n.r.t)
 fr:(framesB p.1.log).1.length≤(framesB n.log).1.length+1
 len:p.1.ys.length=n.ys.length
 no:p.2.2=false→p=(n,[],false)
theorem HearR.same {n:Nd} (h:NdR n) (m:Mg):HearR n m (n,[],false):=
 ⟨h,Int.le_refl _,Int.le_refl _,rfl,rfl,by simp,by simp,fun e=>absurd rfl e,by simp,rfl,fun _=>rfl⟩
theorem HearR.turned {n q:Nd} (m:Mg) (l:List Mg) (hq:NdR q) (hr:q.r=n.r) (hl:q.log=n.log) (hi:q.id=n.id) (hy:q.ys.length=n.ys.length) (h1:l.length≤1) (hm:∀x∈l,x.dst=1-n.id∧x.tr=m.tr∧q.up=true):HearR n m (q,l,true):=
 ⟨hq,by rw[hr];exact Int.le_refl _,by rw[hr];exact Int.le_refl _,by rw[hr],hi,h1,hm,fun e=>absurd (by rw[hr]) e,by simp only[hl];omega,hy,fun e=>by cases e⟩
theorem HearR.fell {n q:Nd} (m:Mg) (hq:NdR q) (hr:q.r=n.r) (hf:(framesB q.log).1.length=(framesB n.log).1.length) (hi:q.id=n.id) (hy:q.ys.length=n.ys.length):HearR n m (q,[],true):=
 ⟨hq,by rw[hr];exact Int.le_refl _,by rw[hr];exact Int.le_refl _,by rw[hr],hi,by simp,by simp,fun e=>absurd (by rw[hr]) e,by simp only;omega,hy,fun e=>by cases e⟩
theorem back_all {n q:Nd} (m:Mg) (k:Int) (hu:q.up=true):∀x∈[n.back m k],x.dst=1-n.id∧x.tr=m.tr∧q.up=true:=by
 intro x hx
 simp only[List.mem_singleton]at hx
 subst hx
 exact⟨rfl,rfl,hu⟩
theorem epI_iff (n:Int):epI n=true↔0≤n∧n≤100000:=by simp[epI]
theorem Mg.parts {m:Mg} (h:m.ok=true):(0≤m.tr∧m.tr≤100000)∧(0≤m.pl∧m.pl<8)∧(0≤m.tn∧m.tn≤1000000000)∧valOk m.va=true∧(0≤m.ep∧m.ep≤100000)∧(1≤m.kd∧m.kd≤8):=by
 unfold Mg.ok at h
 simp only[Bool.and_eq_true,inI_iff,epI_iff]at h
 obtain⟨⟨⟨⟨⟨⟨⟨h1,h2⟩,h3⟩,h4⟩,h5⟩,h6⟩,h7⟩, -⟩:=h
 simp[itemOk]at h4
 exact⟨h3,h4,h5,h6,h7,h2⟩
theorem NdR.blocks {n:Nd} (h:NdR n):1≤(n.ys.length:Int)∧(n.ys.length:Int)≤8:=by
 have hb:=h.dk
 unfold bothOk blocksOk lenOk at hb
 simp only[Bool.and_eq_true,decide_eq_true_eq]at hb
 omega
theorem Cp.open_ok {c:Cp} (h:c.ok=true) (h0:c.tr≠0):({c with op:=true}:Cp).ok=true:=by
 unfold Cp.ok at*
 rw[if_neg h0]at h
 rw[if_neg (by simpa using h0)]
 exact h
theorem NdR.opened {n:Nd} (h:NdR n) (hu:n.up=true) (m:Mg):HearR n m (n.opened m):=by
 unfold Nd.opened
 split
 ·exact HearR.same h m
 ·rename_i e
  have h0:n.c.tr≠0:=fun x=>e (.inl x)
  refine HearR.turned m [] ⟨h.id,h.dk,h.h,h.r,h.ll,Cp.open_ok h.c h0,h.s,h.lg,fun x=>?_,fun _=>h.cp h0,h.sk⟩ rfl rfl rfl rfl (by simp) (by simp)
  rw[hu]at x;cases x
theorem Sn.got_tr (s:Sn) (t i n:Int):(s.got t i n).tr=s.tr∧(s.got t i n).ts.length=s.ts.length:=by unfold Sn.got;split<;>simp
theorem NdR.copied {n:Nd} (h:NdR n) (hu:n.up=true) {m:Mg} (hm:m.ok=true):HearR n m (n.copied m):=by
 have hp:=Mg.parts hm
 obtain⟨is,his⟩:∃is,is=n.s.takes m.tr m.pl m.tn:=⟨_,rfl⟩
 obtain⟨q,hq⟩:∃q:Nd,q=(if is then{n with s:=n.s.got m.tr m.pl m.tn,ys:=n.ys.set m.pl.toNat m.va}else n):=⟨_,rfl⟩
 have hN:NdR q∧q.r=n.r∧q.log=n.log∧q.id=n.id∧q.ys.length=n.ys.length∧q.up=true∧(is=false→q=n):=by
  rw[hq]
  cases e:is with
  |false=>exact⟨h,rfl,rfl,rfl,rfl,hu,fun _=>rfl⟩
  |true=>
   have ht:=(Sn.takes_iff n.s m.tr m.pl m.tn).1 (by rw[←his,e])
   have hs0:n.s.tr≠0:=by omega
   have hsk:=h.sk hs0
   have hj:m.pl.toNat<n.ys.length:=by omega
   refine⟨⟨h.id,put_ok h.dk hj hp.2.2.2.1,h.h,h.r,h.ll,h.c,Sn.got_ok h.s _ _ _,h.lg,fun x=>?_,fun x=>?_,fun _=>⟨hsk.1,?_,?_⟩⟩,rfl,rfl,rfl,by simp,hu,fun x=>by cases x⟩
   ·rw[hu]at x;cases x
   ·exact absurd hsk.1 (h.cp x).1
   ·show(n.s.got _ _ _).tr=n.r.n
    rw[(Sn.got_tr _ _ _ _).1];exact hsk.2.1
   ·show(n.s.got _ _ _).ts.length=(n.ys.set _ _).length
    rw[(Sn.got_tr _ _ _ _).2,List.length_set];exact hsk.2.2
 unfold Nd.copied
 simp only[←his,←hq]
 obtain⟨h1,h2,h3,h4,h5,h6,h7⟩:=hN
 split
 ·cases e:is with
  |false=>rw[h7 e];exact HearR.same h m
  |true=>exact HearR.turned m [] h1 h2 h3 h4 h5 (by simp) (by simp)
 ·refine HearR.turned m _ h1 h2 h3 h4 h5 (by simp) ?_
  intro x hx
  simp only[List.mem_singleton]at hx
  subst hx
  exact⟨rfl,rfl,h6⟩
theorem NdR.gone {n:Nd} (h:NdR n) (hu:n.up=true) {m:Mg} (hm:m.ok=true) (hk:m.kd=6) (torn:Int) (hf:(framesB n.log).1.length<2000):HearR n m (n.gone m torn):=by
 have hr:=(Rc.ok_iff n.r).1 h.r
 have hp:=Mg.parts hm
 unfold Nd.gone
 split
 ·rename_i hmi
  have hmi':=hmi.1
  unfold Nd.mine at hmi'
  simp only[Bool.and_eq_true,decide_eq_true_eq]at hmi'
  have hs0:n.s.tr=0:=by
   by_cases e:n.s.tr=0
   ·exact e
   ·have:=(h.sk e).1;omega
  have hq:(({n.r with e:=m.ep,s:=3}:Rc)).ok=true:=(Rc.ok_iff _).2 ⟨hp.2.2.2.2.1,by simp,hr.2.2.1,hr.2.2.2⟩
  obtain⟨p,hpp⟩:∃p,p=n.note {n.r with e:=m.ep,s:=3} torn:=⟨_,rfl⟩
  simp only[←hpp]
  rcases h.note hu hq hf p hpp with⟨e,hN,e1,e2,e3,e4,e5,e6,e7,e8⟩|⟨e,e1,e2,e3,e4⟩
  ·rw[e]
   simp only[Bool.false_eq_true,if_false]
   exact HearR.fell m hN e2 e8 e4 e5
  ·rw[e]
   simp only[if_true]
   rw[e1]at e2 e3 e4⊢
   refine⟨⟨h.id,h.dk,h.h,hq,e3,Cp.zero_ok,h.s,?_,fun x=>?_,fun x=>absurd rfl x,fun x=>absurd hs0 x⟩,?_,Int.le_refl _,rfl,rfl,by simp,by simp,fun _=>.inr (.inr ⟨rfl,hmi'.1,hk,hmi'.2.symm⟩),?_,rfl,fun x=>by cases x⟩
   ·show LogR _ _ n.up
    rw[hu];exact e2
   ·rw[hu]at x;cases x
   ·show n.r.e≤m.ep
    have:=hmi.2
    omega
   ·show(framesB (n.log++_)).1.length≤_
    exact Nat.le_of_eq e4
 ·exact HearR.same h m
theorem NdR.kept {n:Nd} (h:NdR n) (hu:n.up=true) {m:Mg} (hk:m.kd=8) (torn:Int) (hf:(framesB n.log).1.length<2000):HearR n m (n.kept m torn):=by
 have hr:=(Rc.ok_iff n.r).1 h.r
 unfold Nd.kept
 split
 ·rename_i hmi
  have hmi':=hmi
  unfold Nd.mine at hmi'
  simp only[Bool.and_eq_true,decide_eq_true_eq]at hmi'
  have hs0:n.s.tr=0:=by
   by_cases e:n.s.tr=0
   ·exact e
   ·have:=(h.sk e).1;omega
  have hq:(({n.r with s:=1}:Rc)).ok=true:=(Rc.ok_iff _).2 ⟨hr.1,by simp,hr.2.2.1,hr.2.2.2⟩
  obtain⟨p,hpp⟩:∃p,p=n.note {n.r with s:=1} torn:=⟨_,rfl⟩
  simp only[←hpp]
  rcases h.note hu hq hf p hpp with⟨e,hN,e1,e2,e3,e4,e5,e6,e7,e8⟩|⟨e,e1,e2,e3,e4⟩
  ·rw[e]
   simp only[Bool.false_eq_true,if_false]
   exact HearR.fell m hN e2 e8 e4 e5
  ·rw[e]
   simp only[if_true]
   rw[e1]at e2 e3 e4⊢
   refine⟨⟨h.id,h.dk,h.h,hq,e3,Cp.zero_ok,h.s,?_,fun x=>?_,fun x=>absurd rfl x,fun x=>absurd hs0 x⟩,Int.le_refl _,Int.le_refl _,rfl,rfl,by simp,by simp,fun _=>.inr (.inl ⟨rfl,hmi'.1,hk,hmi'.2.symm⟩),?_,rfl,fun x=>by cases x⟩
   ·show LogR _ _ n.up
    rw[hu];exact e2
   ·rw[hu]at x;cases x
   ·show(framesB (n.log++_)).1.length≤_
    exact Nat.le_of_eq e4
 ·exact HearR.same h m
end Go.Proofs.YtflbcjgkdokhiaaGreatDoor
namespace Go.Proofs.YtflbcjgkdokhiaaGreatDoor
open Go.RowKit
structure Dir (X Y:Nd) (P:List Mg):Prop where
 seen:Y.r.n≤X.r.t
 fwd:∀m∈P,m.dst=Y.id→(m.kd=1∨m.kd=3∨m.kd=5∨m.kd=7)→m.tr≤X.r.t
 bwd:∀m∈P,m.dst=X.id→(m.kd=2∨m.kd=4∨m.kd=6∨m.kd=8)→m.tr≤X.r.t
 cur:(X.r.s=2∨X.r.s=1∧X.c.tr≠0)→∀m∈P,m.dst=Y.id→(m.kd=5∨m.kd=7)→m.tr=X.r.t→m.ep=X.r.e
 tak:(X.r.s=2∨X.r.s=1∧X.c.tr≠0)→∀m∈P,m.dst=X.id→m.kd=6→m.tr=X.r.t→m.ep=X.r.e+1∧X.r.e<Y.r.e
 can:∀m∈P,m.dst=Y.id→m.kd=5→(Y.r.n<m.tr∨Y.s.tr≠0∧Y.s.tr=m.tr)→Y.r.e≤m.ep→X.r.s=2∧X.r.t=m.tr
 nos:∀m∈P,m.dst=X.id→m.kd=8→m.tr≤Y.r.n∧(Y.s.tr=0∨Y.s.tr≠m.tr)
 noo:X.r.s=2→Y.r.s=1→∀m∈P,m.dst=X.id→m.kd=8→m.tr≠X.r.t
 rdo:X.r.s=2→Y.r.s=1→Y.c.op=false
 rdy:X.r.s=2→Y.r.s=1→∀m∈P,m.dst=Y.id→m.kd=2→Y.c.tr=0∨m.tr≠Y.c.tr
 st:(X.r.s=1∧Y.r.s=3∧Y.r.e≤X.r.e)∨(X.r.s=2∧Y.r.s=3∧Y.r.e≤X.r.e)∨(X.r.s=2∧Y.r.s=1∧X.r.e<Y.r.e)∨(X.r.s=1∧Y.r.s=2∧Y.r.e<X.r.e)∨(X.r.s=3∧Y.r.s=1∧X.r.e≤Y.r.e)∨(X.r.s=3∧Y.r.s=2∧X.r.e≤Y.r.e)
structure Two (X Y:Nd) (P:List Mg):Prop where
 x:NdR X
 y:NdR Y
 ne:X.id≠Y.id
 f:Dir X Y P
 b:Dir Y X P
theorem Dir.sub {X Y:Nd} {P Q:List Mg} (h:Dir X Y P) (hs:∀m∈Q,m∈P):Dir X Y Q:=
 ⟨h.seen,fun m hm=>h.fwd m (hs m hm),fun m hm=>h.bwd m (hs m hm),fun a m hm=>h.cur a m (hs m hm),fun a m hm=>h.tak a m (hs m hm),fun m hm=>h.can m (hs m hm),fun m hm=>h.nos m (hs m hm),fun a b m hm=>h.noo a b m (hs m hm),h.rdo,fun a b m hm=>h.rdy a b m (hs m hm),h.st⟩
theorem Two.sub {X Y:Nd} {P Q:List Mg} (h:Two X Y P) (hs:∀m∈Q,m∈P):Two X Y Q:=⟨h.x,h.y,h.ne,h.f.sub hs,h.b.sub hs⟩
structure Less (N' N:Nd):Prop where
 r:N'.r=N.r
 id:N'.id=N.id
 c:N'.c.tr=0∨N'.c.tr=N.c.tr
 s:N'.s.tr=0∨N'.s.tr=N.s.tr
 op:N.c.op=false→N'.c.op=false
theorem Dir.lessX {X X' Y:Nd} {P:List Mg} (h:Dir X Y P) (l:Less X' X):Dir X' Y P:=by
 obtain⟨lr,lid,lc,ls,lo⟩:=l
 refine⟨?_,?_,?_,?_,?_,?_,?_,?_,?_,?_,?_⟩
 all_goals (try rw[lr]);(try rw[lid])
 ·exact h.seen
 ·exact h.fwd
 ·exact h.bwd
 ·intro a;exact h.cur (by omega)
 ·intro a;exact h.tak (by omega)
 ·exact h.can
 ·exact h.nos
 ·exact h.noo
 ·exact h.rdo
 ·exact h.rdy
 ·exact h.st
theorem Dir.lessY {X Y Y':Nd} {P:List Mg} (h:Dir X Y P) (l:Less Y' Y):Dir X Y' P:=by
 obtain⟨lr,lid,lc,ls,lo⟩:=l
 refine⟨?_,?_,?_,?_,?_,?_,?_,?_,?_,?_,?_⟩
 all_goals (try rw[lr]);(try rw[lid])
 ·exact h.seen
 ·exact h.fwd
 ·exact h.bwd
 ·exact h.cur
 ·exact h.tak
 ·intro m hm h1 h2 h3;exact h.can m hm h1 h2 (by omega)
 ·intro m hm h1 h2
  have:=h.nos m hm h1 h2
  omega
 ·exact h.noo
 ·intro a b;exact lo (h.rdo a b)
 ·intro a b m hm h1 h2
  have:=h.rdy a b m hm h1 h2
  omega
 ·exact h.st
theorem Two.less {X X' Y:Nd} {P:List Mg} (h:Two X Y P) (hx:NdR X') (l:Less X' X):Two X' Y P:=⟨hx,h.y,by rw[l.id];exact h.ne,h.f.lessX l,h.b.lessY l⟩
theorem Two.say {X Y:Nd} {P:List Mg} (h:Two X Y P) (m:Mg) (hd:m.dst=Y.id) (h1:(m.kd=1∨m.kd=3∨m.kd=5∨m.kd=7)→m.tr≤X.r.t) (h2:(m.kd=5∨m.kd=7)→m.tr=X.r.t→m.ep=X.r.e)
  (h3:m.kd=5→X.r.s=2∧X.r.t=m.tr) (h4:m.kd=2→X.r.s=3) (h5:(m.kd=2∨m.kd=4∨m.kd=6∨m.kd=8)→m.tr≤Y.r.t)
  (h6:m.kd=6→(Y.r.s=2∨Y.r.s=1∧Y.c.tr≠0)→m.tr=Y.r.t→m.ep=Y.r.e+1∧Y.r.e<X.r.e) (h7:m.kd=8→m.tr≤X.r.n∧(X.s.tr=0∨X.s.tr≠m.tr)∧X.r.s=3):Two X Y (P++[m]):=by
 have hn:=h.ne
 have hm:∀x∈P++[m],x∈P∨x=m:=by
  intro x hx
  simpa using hx
 obtain⟨hx,hy, -,f,b⟩:=h
 refine⟨hx,hy,hn,⟨f.seen,?_,?_,?_,?_,?_,?_,?_,f.rdo,?_,f.st⟩,⟨b.seen,?_,?_,?_,?_,?_,?_,?_,b.rdo,?_,b.st⟩⟩
 ·intro x h0 e1 e2;rcases hm x h0 with h0|rfl
  ·exact f.fwd x h0 e1 e2
  ·exact h1 e2
 ·intro x h0 e1 e2;rcases hm x h0 with h0|rfl
  ·exact f.bwd x h0 e1 e2
  ·exact absurd (e1.symm.trans hd) hn
 ·intro a x h0 e1 e2 e3;rcases hm x h0 with h0|rfl
  ·exact f.cur a x h0 e1 e2 e3
  ·exact h2 e2 e3
 ·intro a x h0 e1 e2 e3;rcases hm x h0 with h0|rfl
  ·exact f.tak a x h0 e1 e2 e3
  ·exact absurd (e1.symm.trans hd) hn
 ·intro x h0 e1 e2 e3 e4;rcases hm x h0 with h0|rfl
  ·exact f.can x h0 e1 e2 e3 e4
  ·exact h3 e2
 ·intro x h0 e1 e2;rcases hm x h0 with h0|rfl
  ·exact f.nos x h0 e1 e2
  ·exact absurd (e1.symm.trans hd) hn
 ·intro a1 a2 x h0 e1 e2;rcases hm x h0 with h0|rfl
  ·exact f.noo a1 a2 x h0 e1 e2
  ·exact absurd (e1.symm.trans hd) hn
 ·intro a1 a2 x h0 e1 e2;rcases hm x h0 with h0|rfl
  ·exact f.rdy a1 a2 x h0 e1 e2
  ·exact absurd (h4 e2) (by rw[a1];decide)
 ·intro x h0 e1 e2;rcases hm x h0 with h0|rfl
  ·exact b.fwd x h0 e1 e2
  ·exact absurd (e1.symm.trans hd) hn
 ·intro x h0 e1 e2;rcases hm x h0 with h0|rfl
  ·exact b.bwd x h0 e1 e2
  ·exact h5 e2
 ·intro a x h0 e1 e2 e3;rcases hm x h0 with h0|rfl
  ·exact b.cur a x h0 e1 e2 e3
  ·exact absurd (e1.symm.trans hd) hn
 ·intro a x h0 e1 e2 e3;rcases hm x h0 with h0|rfl
  ·exact b.tak a x h0 e1 e2 e3
  ·exact h6 e2 a e3
 ·intro x h0 e1 e2 e3 e4;rcases hm x h0 with h0|rfl
  ·exact b.can x h0 e1 e2 e3 e4
  ·exact absurd (e1.symm.trans hd) hn
 ·intro x h0 e1 e2;rcases hm x h0 with h0|rfl
  ·exact b.nos x h0 e1 e2
  ·exact⟨(h7 e2).1,(h7 e2).2.1⟩
 ·intro a1 a2 x h0 e1 e2;rcases hm x h0 with h0|rfl
  ·exact b.noo a1 a2 x h0 e1 e2
  ·exact absurd (h7 e2).2.2 (by rw[a2];decide)
 ·intro a1 a2 x h0 e1 e2;rcases hm x h0 with h0|rfl
  ·exact b.rdy a1 a2 x h0 e1 e2
  ·exact absurd (e1.symm.trans hd) hn
theorem Two.moved {X X' Y:Nd} {P:List Mg} (h:Two X Y P) (hx:NdR X') (id:X'.id=X.id) (hs:X.r.s=1) (e:X'.r.e=X.r.e) (s':X'.r.s=1) (t:X'.r.t=X.r.t+1) (n:X'.r.n=X.r.n) (c:X'.c.tr=X.r.t+1) (hop:X'.c.op=false) (k:X'.s.tr=X.s.tr):Two X' Y P:=by
 obtain⟨-,hy,hn,f,b⟩:=h
 have fs:=f.st
 have bs:=b.st
 have fe:=f.seen
 have be:=b.seen
 refine⟨hx,hy,by rw[id];exact hn,⟨?_,?_,?_,?_,?_,?_,?_,?_,?_,?_,?_⟩,⟨?_,?_,?_,?_,?_,?_,?_,?_,?_,?_,?_⟩⟩
 ·omega
 ·intro x h0 e1 e2;have t1:=f.fwd x h0;omega
 ·intro x h0 e1 e2;rw[id]at e1;have t1:=f.bwd x h0;omega
 ·intro a x h0 e1 e2 e3;have t1:=fun a=>f.cur a x h0;have t2:=f.fwd x h0;omega
 ·intro a x h0 e1 e2 e3;rw[id]at e1;have t1:=fun a=>f.tak a x h0;have t2:=f.bwd x h0;omega
 ·intro x h0 e1 e2 e3 e4;have t1:=f.can x h0;have t2:=fun a=>f.cur a x h0;omega
 ·intro x h0 e1 e2;rw[id]at e1;have t1:=f.nos x h0;omega
 ·intro a1 a2 x h0 e1 e2;rw[id]at e1;have t1:=fun a b=>f.noo a b x h0;have t2:=f.bwd x h0;have t3:=f.nos x h0;omega
 ·intro a1 a2;first|(exfalso;omega)|exact f.rdo (by omega) (by omega)
 ·intro a1 a2 x h0 e1 e2;have t1:=fun a b=>f.rdy a b x h0;have t2:=b.bwd x h0;omega
 ·omega
 ·omega
 ·intro x h0 e1 e2;rw[id]at e1;have t1:=b.fwd x h0;omega
 ·intro x h0 e1 e2;have t1:=b.bwd x h0;omega
 ·intro a x h0 e1 e2 e3;rw[id]at e1;have t1:=fun a=>b.cur a x h0;omega
 ·intro a x h0 e1 e2 e3;have t1:=fun a=>b.tak a x h0;omega
 ·intro x h0 e1 e2 e3 e4;rw[id]at e1;have t1:=b.can x h0;omega
 ·intro x h0 e1 e2;have t1:=b.nos x h0;omega
 ·intro a1 a2 x h0 e1 e2;have t1:=fun a b'=>b.noo a b' x h0;have t2:=b.nos x h0;omega
 ·intro a1 a2;first|(exfalso;omega)|exact hop|exact hop (b.rdo (by omega) (by omega))
 ·intro a1 a2 x h0 e1 e2;rw[id]at e1;have t1:=fun a b'=>b.rdy a b' x h0;have t2:=f.bwd x h0;omega
 ·omega
end Go.Proofs.YtflbcjgkdokhiaaGreatDoor
namespace Go.Proofs.YtflbcjgkdokhiaaGreatDoor
open Go.RowKit
theorem Less.fell {X X' N:Nd} (hr:X'.r=X.r) (hi:X'.id=X.id) (hc:X'.c=Cp.zero) (hs:X'.s=Sn.zero) (e1:X.r=N.r) (e2:X.id=N.id):Less X' N:=
 ⟨hr.trans e1,hi.trans e2,.inl (by rw[hc];rfl),.inl (by rw[hs];rfl),fun _=>by rw[hc];rfl⟩
theorem Less.refl (N:Nd):Less N N:=⟨rfl,rfl,.inr rfl,.inr rfl,fun h=>h⟩
theorem Less.down (N:Nd) (set:Int):Less (N.down set) N:=⟨rfl,rfl,.inl rfl,.inl rfl,fun _=>rfl⟩
theorem Less.rise (N:Nd):Less N.rise.1 N:=by
 unfold Nd.rise
 split
 ·exact Less.refl N
 ·exact⟨rfl,rfl,.inr rfl,.inr rfl,fun h=>h⟩
theorem mark_op (c:Cp) (i:Int):(c.mark i).op=c.op:=by unfold Cp.mark;split<;>rfl
theorem Less.ask (N:Nd) (who:Int) (b:Bs):Less (N.ask who b).1 N:=by
 unfold Nd.ask
 split
 ·exact Less.refl N
 ·split
  ·exact Less.refl N
  ·split
   ·exact Less.refl N
   ·split
    ·exact Less.refl N
    ·refine⟨rfl,rfl,?_,.inr rfl,?_⟩
     ·simp only
      split
      ·exact .inr (mark_tr _ _).1
      ·exact .inr rfl
     ·simp only
      split
      ·rw[mark_op];exact fun h=>h
      ·exact fun h=>h
theorem Two.none {X Y:Nd} {P:List Mg} (h:Two X Y P):Two X Y (P++[]):=by rwa[List.append_nil]
end Go.Proofs.YtflbcjgkdokhiaaGreatDoor
namespace Go.Proofs.YtflbcjgkdokhiaaGreatDoor
open Go.RowKit
structure Ev where
 kd:Int
 who:Int
 bs:Bs
 an:An
 set:Int
structure Ac where
 kd:Int
 nd:Int
 n:Int
 who:Int
 bs:Bs
 torn:Int
structure P2 where
 a:Nd
 b:Nd
 post:List Mg
 evs:List Ev
def An.none:An:=⟨7,[]⟩
def Ev.loss (set:Int):Ev:=⟨2,0,[],⟨0,[]⟩,set⟩
def Ev.keep:Ev:=⟨3,0,[],⟨0,[]⟩,0⟩
def Ev.ok (e:Ev):Bool:=
 if e.kd=1 then inI e.who 0 3&&decide (e.bs.length≤20)&&decide (e.set=0)&&inI e.an.st 0 7
 else if e.kd=2 then setOk e.set&&decide (e.who=0)&&decide (e.bs=[])&&decide (e.an.st=0)&&decide (e.an.tx=[])
 else decide (e.kd=3)&&decide (e.who=0)&&decide (e.bs=[])&&decide (e.an.st=0)&&decide (e.an.tx=[])&&decide (e.set=0)
def P2.at (p:P2) (i:Int):Nd:=if i=0 then p.a else p.b
def P2.put (p:P2) (i:Int) (n:Nd):P2:=if i=0 then{p with a:=n}else{p with b:=n}
def P2.fin (p out:P2) (l:List Mg) (more:List Ev) (told:An) (is:Bool):P2×An×Bool:=
 if is=false∨40<out.post.length+l.length∨300<out.evs.length+more.length then(p,An.none,false)
 else({out with post:=out.post++l,evs:=out.evs++more},told,true)
def P2.letter (p:P2) (i:Int):Bool:=decide (0≤i)&&decide (i<(p.post.length:Int))
def P2.heard (p:P2) (i torn:Int):P2×An×Bool:=
 let m:=p.post.getD i.toNat Mg.zero
 let n:=p.at m.dst
 let q:=n.hear m torn
 p.fin {p.put m.dst q.1 with post:=p.post.eraseIdx i.toNat} q.2.1 (if decide (n.r.s=1)&&n.up&& !q.1.up then[Ev.loss 0]else[]) An.none true
def P2.asked (p:P2) (i who:Int) (b:Bs):P2×An×Bool:=
 let q:=(p.at i).ask who b
 if 20<b.length then(p,An.none,false)
 else p.fin (p.put i q.1) [] (if q.2.st<5 then[⟨1,who,b,q.2,0⟩]else[]) q.2 (decide (q.2.st≠7))
def P2.told (p:P2) (i k torn:Int):P2×An×Bool:=
 let n:=p.at i
 let q:=n.tell k torn
 p.fin (p.put i q.1) q.2.1 ((if q.2.2&&decide (k=4)then[Ev.keep]else[])++(if q.2.2&&decide (n.r.s=1)&& !q.1.up then[Ev.loss 0]else[])) An.none q.2.2
def P2.fell (p:P2) (i set:Int):P2×An×Bool:=
 let n:=p.at i
 if n.up&&setOk set then p.fin (p.put i (n.down set)) [] (if n.r.s=1 then[Ev.loss set]else[]) An.none true else(p,An.none,false)
def P2.act (p:P2) (c:Ac):P2×An×Bool:=
 if c.torn<0 then(p,An.none,false)
 else if c.kd=3∨c.kd=4∨c.kd=5 then
  if p.letter c.n=false then(p,An.none,false)
  else if c.kd=3 then p.heard c.n c.torn
  else if c.kd=4 then p.fin {p with post:=p.post.eraseIdx c.n.toNat} [] [] An.none true
  else p.fin p [p.post.getD c.n.toNat Mg.zero] [] An.none true
 else if inI c.nd 0 1=false then(p,An.none,false)
 else if c.kd=1 then p.asked c.nd c.who c.bs
 else if c.kd=2 then p.told c.nd c.n c.torn
 else if c.kd=6 then p.fell c.nd c.n
 else if c.kd=7 then p.fin (p.put c.nd (p.at c.nd).rise.1) [] [] An.none (p.at c.nd).rise.2
 else(p,An.none,false)
def P2.new (blocks:Int):P2:=⟨Nd.new 0 blocks true,Nd.new 1 blocks false,[],[]⟩
end Go.Proofs.YtflbcjgkdokhiaaGreatDoor
