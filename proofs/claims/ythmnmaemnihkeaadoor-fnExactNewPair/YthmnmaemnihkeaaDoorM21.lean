/- One owner, plainly: what stands between two houses and the letters on the way, whatever they do. -/
import Derived.Test.YthmnmaemnihkeaaDoorM20
namespace Go.Proofs.YthmnmaemnihkeaaDoor
open Go.RowKit
structure Dir (X Y:Nd) (P:List Mg):Prop where
 seen:Y.r.n≤X.r.t
 fwd:∀m∈P,m.dst=Y.id→(m.kd=1∨m.kd=3∨m.kd=5∨m.kd=7)→m.tr≤X.r.t
 bwd:∀m∈P,m.dst=X.id→(m.kd=2∨m.kd=4∨m.kd=6∨m.kd=8)→m.tr≤X.r.t
 cur:(X.r.s=2∨X.r.s=1∧X.c.tr≠0)→∀m∈P,m.dst=Y.id→(m.kd=5∨m.kd=7)→m.tr=X.r.t→m.ep=X.r.e
 tak:(X.r.s=2∨X.r.s=1∧X.c.tr≠0)→∀m∈P,m.dst=X.id→m.kd=6→m.tr=X.r.t→m.ep=X.r.e+1∧X.r.e<Y.r.e
 can:∀m∈P,m.dst=Y.id→m.kd=5→(Y.r.n<m.tr∨Y.s.tr≠0∧Y.s.tr=m.tr)→Y.r.e≤m.ep→X.r.s=2∧X.r.t=m.tr
 nos:∀m∈P,m.dst=X.id→m.kd=8→m.tr≤Y.r.n∧(Y.s.tr=0∨Y.s.tr≠m.tr)
 noo:X.r.s=2→Y.r.s=1→∀m∈P,m.dst=X.id→m.kd=8→m.tr≠X.r.t
 rdo:X.r.s=2→Y.r.s=1→Y.c.op=false
 rdy:X.r.s=2→Y.r.s=1→∀m∈P,m.dst=Y.id→m.kd=2→Y.c.tr=0∨m.tr≠Y.c.tr
 st:(X.r.s=1∧Y.r.s=3∧Y.r.e≤X.r.e)∨(X.r.s=2∧Y.r.s=3∧Y.r.e≤X.r.e)∨(X.r.s=2∧Y.r.s=1∧X.r.e<Y.r.e)∨(X.r.s=1∧Y.r.s=2∧Y.r.e<X.r.e)∨(X.r.s=3∧Y.r.s=1∧X.r.e≤Y.r.e)∨(X.r.s=3∧Y.r.s=2∧X.r.e≤Y.r.e)
structure Two (X Y:Nd) (P:List Mg):Prop where
 x:NdR X
 y:NdR Y
 ne:X.id≠Y.id
 f:Dir X Y P
 b:Dir Y X P
theorem Dir.sub {X Y:Nd} {P Q:List Mg} (h:Dir X Y P) (hs:∀m∈Q,m∈P):Dir X Y Q:=
 ⟨h.seen,fun m hm=>h.fwd m (hs m hm),fun m hm=>h.bwd m (hs m hm),fun a m hm=>h.cur a m (hs m hm),fun a m hm=>h.tak a m (hs m hm),fun m hm=>h.can m (hs m hm),fun m hm=>h.nos m (hs m hm),fun a b m hm=>h.noo a b m (hs m hm),h.rdo,fun a b m hm=>h.rdy a b m (hs m hm),h.st⟩
theorem Two.sub {X Y:Nd} {P Q:List Mg} (h:Two X Y P) (hs:∀m∈Q,m∈P):Two X Y Q:=⟨h.x,h.y,h.ne,h.f.sub hs,h.b.sub hs⟩
structure Less (N' N:Nd):Prop where
 r:N'.r=N.r
 id:N'.id=N.id
 c:N'.c.tr=0∨N'.c.tr=N.c.tr
 s:N'.s.tr=0∨N'.s.tr=N.s.tr
 op:N.c.op=false→N'.c.op=false
theorem Dir.lessX {X X' Y:Nd} {P:List Mg} (h:Dir X Y P) (l:Less X' X):Dir X' Y P:=by
 obtain⟨lr,lid,lc,ls,lo⟩:=l
 refine⟨?_,?_,?_,?_,?_,?_,?_,?_,?_,?_,?_⟩
 all_goals (try rw[lr]);(try rw[lid])
 ·exact h.seen
 ·exact h.fwd
 ·exact h.bwd
 ·intro a;exact h.cur (by omega)
 ·intro a;exact h.tak (by omega)
 ·exact h.can
 ·exact h.nos
 ·exact h.noo
 ·exact h.rdo
 ·exact h.rdy
 ·exact h.st
theorem Dir.lessY {X Y Y':Nd} {P:List Mg} (h:Dir X Y P) (l:Less Y' Y):Dir X Y' P:=by
 obtain⟨lr,lid,lc,ls,lo⟩:=l
 refine⟨?_,?_,?_,?_,?_,?_,?_,?_,?_,?_,?_⟩
 all_goals (try rw[lr]);(try rw[lid])
 ·exact h.seen
 ·exact h.fwd
 ·exact h.bwd
 ·exact h.cur
 ·exact h.tak
 ·intro m hm h1 h2 h3;exact h.can m hm h1 h2 (by omega)
 ·intro m hm h1 h2
  have:=h.nos m hm h1 h2
  omega
 ·exact h.noo
 ·intro a b;exact lo (h.rdo a b)
 ·intro a b m hm h1 h2
  have:=h.rdy a b m hm h1 h2
  omega
 ·exact h.st
theorem Two.less {X X' Y:Nd} {P:List Mg} (h:Two X Y P) (hx:NdR X') (l:Less X' X):Two X' Y P:=⟨hx,h.y,by rw[l.id];exact h.ne,h.f.lessX l,h.b.lessY l⟩
theorem Two.say {X Y:Nd} {P:List Mg} (h:Two X Y P) (m:Mg) (hd:m.dst=Y.id) (h1:(m.kd=1∨m.kd=3∨m.kd=5∨m.kd=7)→m.tr≤X.r.t) (h2:(m.kd=5∨m.kd=7)→m.tr=X.r.t→m.ep=X.r.e)
  (h3:m.kd=5→X.r.s=2∧X.r.t=m.tr) (h4:m.kd=2→X.r.s=3) (h5:(m.kd=2∨m.kd=4∨m.kd=6∨m.kd=8)→m.tr≤Y.r.t)
  (h6:m.kd=6→(Y.r.s=2∨Y.r.s=1∧Y.c.tr≠0)→m.tr=Y.r.t→m.ep=Y.r.e+1∧Y.r.e<X.r.e) (h7:m.kd=8→m.tr≤X.r.n∧(X.s.tr=0∨X.s.tr≠m.tr)∧X.r.s=3):Two X Y (P++[m]):=by
 have hn:=h.ne
 have hm:∀x∈P++[m],x∈P∨x=m:=by
  intro x hx
  simpa using hx
 obtain⟨hx,hy, -,f,b⟩:=h
 refine⟨hx,hy,hn,⟨f.seen,?_,?_,?_,?_,?_,?_,?_,f.rdo,?_,f.st⟩,⟨b.seen,?_,?_,?_,?_,?_,?_,?_,b.rdo,?_,b.st⟩⟩
 ·intro x h0 e1 e2;rcases hm x h0 with h0|rfl
  ·exact f.fwd x h0 e1 e2
  ·exact h1 e2
 ·intro x h0 e1 e2;rcases hm x h0 with h0|rfl
  ·exact f.bwd x h0 e1 e2
  ·exact absurd (e1.symm.trans hd) hn
 ·intro a x h0 e1 e2 e3;rcases hm x h0 with h0|rfl
  ·exact f.cur a x h0 e1 e2 e3
  ·exact h2 e2 e3
 ·intro a x h0 e1 e2 e3;rcases hm x h0 with h0|rfl
  ·exact f.tak a x h0 e1 e2 e3
  ·exact absurd (e1.symm.trans hd) hn
 ·intro x h0 e1 e2 e3 e4;rcases hm x h0 with h0|rfl
  ·exact f.can x h0 e1 e2 e3 e4
  ·exact h3 e2
 ·intro x h0 e1 e2;rcases hm x h0 with h0|rfl
  ·exact f.nos x h0 e1 e2
  ·exact absurd (e1.symm.trans hd) hn
 ·intro a1 a2 x h0 e1 e2;rcases hm x h0 with h0|rfl
  ·exact f.noo a1 a2 x h0 e1 e2
  ·exact absurd (e1.symm.trans hd) hn
 ·intro a1 a2 x h0 e1 e2;rcases hm x h0 with h0|rfl
  ·exact f.rdy a1 a2 x h0 e1 e2
  ·exact absurd (h4 e2) (by rw[a1];decide)
 ·intro x h0 e1 e2;rcases hm x h0 with h0|rfl
  ·exact b.fwd x h0 e1 e2
  ·exact absurd (e1.symm.trans hd) hn
 ·intro x h0 e1 e2;rcases hm x h0 with h0|rfl
  ·exact b.bwd x h0 e1 e2
  ·exact h5 e2
 ·intro a x h0 e1 e2 e3;rcases hm x h0 with h0|rfl
  ·exact b.cur a x h0 e1 e2 e3
  ·exact absurd (e1.symm.trans hd) hn
 ·intro a x h0 e1 e2 e3;rcases hm x h0 with h0|rfl
  ·exact b.tak a x h0 e1 e2 e3
  ·exact h6 e2 a e3
 ·intro x h0 e1 e2 e3 e4;rcases hm x h0 with h0|rfl
  ·exact b.can x h0 e1 e2 e3 e4
  ·exact absurd (e1.symm.trans hd) hn
 ·intro x h0 e1 e2;rcases hm x h0 with h0|rfl
  ·exact b.nos x h0 e1 e2
  ·exact⟨(h7 e2).1,(h7 e2).2.1⟩
 ·intro a1 a2 x h0 e1 e2;rcases hm x h0 with h0|rfl
  ·exact b.noo a1 a2 x h0 e1 e2
  ·exact absurd (h7 e2).2.2 (by rw[a2];decide)
 ·intro a1 a2 x h0 e1 e2;rcases hm x h0 with h0|rfl
  ·exact b.rdy a1 a2 x h0 e1 e2
  ·exact absurd (e1.symm.trans hd) hn
theorem Two.moved {X X' Y:Nd} {P:List Mg} (h:Two X Y P) (hx:NdR X') (id:X'.id=X.id) (hs:X.r.s=1) (e:X'.r.e=X.r.e) (s':X'.r.s=1) (t:X'.r.t=X.r.t+1) (n:X'.r.n=X.r.n) (c:X'.c.tr=X.r.t+1) (hop:X'.c.op=false) (k:X'.s.tr=X.s.tr):Two X' Y P:=by
 obtain⟨-,hy,hn,f,b⟩:=h
 have fs:=f.st
 have bs:=b.st
 have fe:=f.seen
 have be:=b.seen
 refine⟨hx,hy,by rw[id];exact hn,⟨?_,?_,?_,?_,?_,?_,?_,?_,?_,?_,?_⟩,⟨?_,?_,?_,?_,?_,?_,?_,?_,?_,?_,?_⟩⟩
 ·omega
 ·intro x h0 e1 e2;have t1:=f.fwd x h0;omega
 ·intro x h0 e1 e2;rw[id]at e1;have t1:=f.bwd x h0;omega
 ·intro a x h0 e1 e2 e3;have t1:=fun a=>f.cur a x h0;have t2:=f.fwd x h0;omega
 ·intro a x h0 e1 e2 e3;rw[id]at e1;have t1:=fun a=>f.tak a x h0;have t2:=f.bwd x h0;omega
 ·intro x h0 e1 e2 e3 e4;have t1:=f.can x h0;have t2:=fun a=>f.cur a x h0;omega
 ·intro x h0 e1 e2;rw[id]at e1;have t1:=f.nos x h0;omega
 ·intro a1 a2 x h0 e1 e2;rw[id]at e1;have t1:=fun a b=>f.noo a b x h0;have t2:=f.bwd x h0;have t3:=f.nos x h0;omega
 ·intro a1 a2;first|(exfalso;omega)|exact f.rdo (by omega) (by omega)
 ·intro a1 a2 x h0 e1 e2;have t1:=fun a b=>f.rdy a b x h0;have t2:=b.bwd x h0;omega
 ·omega
 ·omega
 ·intro x h0 e1 e2;rw[id]at e1;have t1:=b.fwd x h0;omega
 ·intro x h0 e1 e2;have t1:=b.bwd x h0;omega
 ·intro a x h0 e1 e2 e3;rw[id]at e1;have t1:=fun a=>b.cur a x h0;omega
 ·intro a x h0 e1 e2 e3;have t1:=fun a=>b.tak a x h0;omega
 ·intro x h0 e1 e2 e3 e4;rw[id]at e1;have t1:=b.can x h0;omega
 ·intro x h0 e1 e2;have t1:=b.nos x h0;omega
 ·intro a1 a2 x h0 e1 e2;have t1:=fun a b'=>b.noo a b' x h0;have t2:=b.nos x h0;omega
 ·intro a1 a2;first|(exfalso;omega)|exact hop|exact hop (b.rdo (by omega) (by omega))
 ·intro a1 a2 x h0 e1 e2;rw[id]at e1;have t1:=fun a b'=>b.rdy a b' x h0;have t2:=f.bwd x h0;omega
 ·omega
end Go.Proofs.YthmnmaemnihkeaaDoor
namespace Go.Proofs.YthmnmaemnihkeaaDoor
open Go.RowKit
theorem Less.fell {X X' N:Nd} (hr:X'.r=X.r) (hi:X'.id=X.id) (hc:X'.c=Cp.zero) (hs:X'.s=Sn.zero) (e1:X.r=N.r) (e2:X.id=N.id):Less X' N:=
 ⟨hr.trans e1,hi.trans e2,.inl (by rw[hc];rfl),.inl (by rw[hs];rfl),fun _=>by rw[hc];rfl⟩
theorem Less.refl (N:Nd):Less N N:=⟨rfl,rfl,.inr rfl,.inr rfl,fun h=>h⟩
theorem Less.down (N:Nd) (set:Int):Less (N.down set) N:=⟨rfl,rfl,.inl rfl,.inl rfl,fun _=>rfl⟩
theorem Less.rise (N:Nd):Less N.rise.1 N:=by
 unfold Nd.rise
 split
 ·exact Less.refl N
 ·exact⟨rfl,rfl,.inr rfl,.inr rfl,fun h=>h⟩
theorem mark_op (c:Cp) (i:Int):(c.mark i).op=c.op:=by unfold Cp.mark;split<;>rfl
theorem Less.ask (N:Nd) (who:Int) (b:Bs):Less (N.ask who b).1 N:=by
 unfold Nd.ask
 split
 ·exact Less.refl N
 ·split
  ·exact Less.refl N
  ·split
   ·exact Less.refl N
   ·split
    ·exact Less.refl N
    ·refine⟨rfl,rfl,?_,.inr rfl,?_⟩
     ·simp only
      split
      ·exact .inr (mark_tr _ _).1
      ·exact .inr rfl
     ·simp only
      split
      ·rw[mark_op];exact fun h=>h
      ·exact fun h=>h
theorem Two.none {X Y:Nd} {P:List Mg} (h:Two X Y P):Two X Y (P++[]):=by rwa[List.append_nil]
end Go.Proofs.YthmnmaemnihkeaaDoor
namespace Go.Proofs.YthmnmaemnihkeaaDoor
open Go.RowKit
structure Ev where
 kd:Int
 who:Int
 bs:Bs
 an:An
 set:Int
structure Ac where
 kd:Int
 nd:Int
 n:Int
 who:Int
 bs:Bs
 torn:Int
structure P2 where
 a:Nd
 b:Nd
 post:List Mg
 evs:List Ev
def An.none:An:=⟨7,[]⟩
def Ev.loss (set:Int):Ev:=⟨2,0,[],⟨0,[]⟩,set⟩
def Ev.keep:Ev:=⟨3,0,[],⟨0,[]⟩,0⟩
def Ev.ok (e:Ev):Bool:=
 if e.kd=1 then inI e.who 0 3&&decide (e.bs.length≤20)&&decide (e.set=0)&&inI e.an.st 0 7
 else if e.kd=2 then setOk e.set&&decide (e.who=0)&&decide (e.bs=[])&&decide (e.an.st=0)&&decide (e.an.tx=[])
 else decide (e.kd=3)&&decide (e.who=0)&&decide (e.bs=[])&&decide (e.an.st=0)&&decide (e.an.tx=[])&&decide (e.set=0)
def P2.at (p:P2) (i:Int):Nd:=if i=0 then p.a else p.b
def P2.put (p:P2) (i:Int) (n:Nd):P2:=if i=0 then{p with a:=n}else{p with b:=n}
def P2.fin (p out:P2) (l:List Mg) (more:List Ev) (told:An) (is:Bool):P2×An×Bool:=
 if is=false∨40<out.post.length+l.length∨300<out.evs.length+more.length then(p,An.none,false)
 else({out with post:=out.post++l,evs:=out.evs++more},told,true)
def P2.letter (p:P2) (i:Int):Bool:=decide (0≤i)&&decide (i<(p.post.length:Int))
def P2.heard (p:P2) (i torn:Int):P2×An×Bool:=
 let m:=p.post.getD i.toNat Mg.zero
 let n:=p.at m.dst
 let q:=n.hear m torn
 p.fin {p.put m.dst q.1 with post:=p.post.eraseIdx i.toNat} q.2.1 (if decide (n.r.s=1)&&n.up&& !q.1.up then[Ev.loss 0]else[]) An.none true
def P2.asked (p:P2) (i who:Int) (b:Bs):P2×An×Bool:=
 let q:=(p.at i).ask who b
 if 20<b.length then(p,An.none,false)
 else p.fin (p.put i q.1) [] (if q.2.st<5 then[⟨1,who,b,q.2,0⟩]else[]) q.2 (decide (q.2.st≠7))
def P2.told (p:P2) (i k torn:Int):P2×An×Bool:=
 let n:=p.at i
 let q:=n.tell k torn
 p.fin (p.put i q.1) q.2.1 ((if q.2.2&&decide (k=4)then[Ev.keep]else[])++(if q.2.2&&decide (n.r.s=1)&& !q.1.up then[Ev.loss 0]else[])) An.none q.2.2
def P2.fell (p:P2) (i set:Int):P2×An×Bool:=
 let n:=p.at i
 if n.up&&setOk set then p.fin (p.put i (n.down set)) [] (if n.r.s=1 then[Ev.loss set]else[]) An.none true else(p,An.none,false)
def P2.act (p:P2) (c:Ac):P2×An×Bool:=
 if c.torn<0 then(p,An.none,false)
 else if c.kd=3∨c.kd=4∨c.kd=5 then
  if p.letter c.n=false then(p,An.none,false)
  else if c.kd=3 then p.heard c.n c.torn
  else if c.kd=4 then p.fin {p with post:=p.post.eraseIdx c.n.toNat} [] [] An.none true
  else p.fin p [p.post.getD c.n.toNat Mg.zero] [] An.none true
 else if inI c.nd 0 1=false then(p,An.none,false)
 else if c.kd=1 then p.asked c.nd c.who c.bs
 else if c.kd=2 then p.told c.nd c.n c.torn
 else if c.kd=6 then p.fell c.nd c.n
 else if c.kd=7 then p.fin (p.put c.nd (p.at c.nd).rise.1) [] [] An.none (p.at c.nd).rise.2
 else(p,An.none,false)
def P2.new (blocks:Int):P2:=⟨Nd.new 0 blocks true,Nd.new 1 blocks false,[],[]⟩
end Go.Proofs.YthmnmaemnihkeaaDoor
