/- What a law is given, opened: a list of numbers, and a struct of two of them, as the form of claims has them. -/
import Derived.Test.YthldeiojlllkdaaGreatDoorM9
import Derived.ShutString
import Derived.ChangeOld
import Derived.ChangeSame
import Derived.ArgAppend
set_option maxRecDepth 20000
set_option maxHeartbeats 2000000
namespace Go.Proofs.YthldeiojlllkdaaGreatDoor
open Go.ChangeShapes Go.WideShapes Go.ChangeAt Go.RowKit
theorem Gl:Tryz.prog.cellsOf 2=1:=by kernel_rfl
theorem Gn:Tryz.prog.cellsOf 22=1:=by kernel_rfl
theorem iz {H:Type} {enc:TypeId×Value->H} {w:World} {base:Nat} {held:Bool} {fuel:Nat} {c:Value} {x:DataW H×List MemPlace}
  (h:DataW.trod enc Tryz.prog w base (fun _=>true) held fuel 22 [c]=some x):∃xs,ag w c xs:=by
 rcases open_ints Tryz.underlying22 Tryz.underlying2 Fi h with⟨hcs,_⟩|⟨x,l,c',zs,hcs,_,hl,hm,hz,_,hcell,hwz⟩
 ·simp at hcs
  subst hcs;exact⟨[],none,0,rfl,Nat.le_refl _,⟨Nat.zero_le _,fun _=>rfl⟩,.inl rfl⟩
 ·simp at hcs
  subst hcs;obtain⟨xs,hl,hr⟩:=zC (w:=w) (a:=some x) (len:=l) (cap:=c') (zs:=zs) (.inr ⟨x,rfl,hl,hm,by simpa using hz,hcell,hwz⟩);exact⟨xs,hr⟩
theorem Gi:Tryz.prog.cellsOf 24=2:=by kernel_rfl
theorem Gk:Tryz.prog.cellsOf 26=4:=by kernel_rfl
theorem Gh:Tryz.prog.cellsOf 30=5:=by kernel_rfl
theorem Gg:Tryz.prog.cellsOf 4=1:=by kernel_rfl
theorem fe {H:Type} {enc:TypeId×Value->H} {w:World} {base:Nat} {held:Bool} {fuel:Nat} {c:Value} {x:DataW H×List MemPlace}
  (h:DataW.trod enc Tryz.prog w base (fun _=>true) held fuel 2 [c]=some x):∃n:Int,c=.int .i64 n:=by
 obtain⟨n,he,_,_⟩:=DataW.trod_int Tryz.underlying2 h;simp at he;exact⟨n,he⟩
theorem oP {H:Type} {enc:TypeId×Value->H} {w:World} {base:Nat} {held:Bool} {fuel:Nat} {c:Value} {x:DataW H×List MemPlace}
  (h:DataW.trod enc Tryz.prog w base (fun _=>true) held fuel 4 [c]=some x):∃b:Bool,c=.bool b:=by
 obtain⟨b,he,_⟩:=DataW.trod_bool Tryz.underlying4 h;simp at he;exact⟨b,he⟩
theorem Gr:Tryz.prog.cellsOf 32=2:=by kernel_rfl
theorem Gq:Tryz.prog.cellsOf 28=4:=by kernel_rfl
theorem ly {H:Type} {enc:TypeId×Value->H} {w:World} {base:Nat} {held:Bool} {fuel:Nat} {c:Value} {x:DataW H×List MemPlace}
  (h:DataW.trod enc Tryz.prog w base (fun _=>true) held fuel 2 [c]=some x):∃n:Int,c=.int .i64 n/\-9223372036854775808<=n/\n<=9223372036854775807:=by
 obtain⟨n,he,_,hw⟩:=DataW.trod_int Tryz.underlying2 h;simp at he;exact⟨n,he,by simpa[Lit.wf,IntKind.min,IntKind.max,IntKind.signed,IntKind.bits]using hw⟩
theorem Gp:Tryz.prog.cellsOf 34=20:=by kernel_rfl
theorem Gs:Tryz.prog.cellsOf 9=1:=by kernel_rfl
theorem uH {l:List Value} (h:l.length=20):∃a0 a1 a2 a3 a4 a5 a6 a7 a8 a9 b0 b1 b2 b3 b4 b5 b6 b7 b8 b9,l=[a0,a1,a2,a3,a4,a5,a6,a7,a8,a9,b0,b1,b2,b3,b4,b5,b6,b7,b8,b9]:=by
 match l,h with
 |[a0,a1,a2,a3,a4,a5,a6,a7,a8,a9,b0,b1,b2,b3,b4,b5,b6,b7,b8,b9],_=>exact⟨a0,a1,a2,a3,a4,a5,a6,a7,a8,a9,b0,b1,b2,b3,b4,b5,b6,b7,b8,b9,rfl⟩
theorem Bq {H:Type} {enc:TypeId×Value->H} {w:World} {base:Nat} {held:Bool} {fuel:Nat} {c:Value} {x:DataW H×List MemPlace}
  (h:DataW.trod enc Tryz.prog w base (fun _=>true) held fuel 9 [c]=some x):∃s:Bs,c=S s/\s.length<=maxLen:=by
 obtain⟨s,he,_,hl⟩:=DataW.trod_string Tryz.underlying9 h;simp at he;obtain⟨⟨l⟩⟩:=s;exact⟨l,he,hl⟩
theorem zK {H:Type} {enc:TypeId×Value->H} {w:World} {base b':Nat} {held:Bool} {v:Value} {d:DataW H} {p:List MemPlace}
  (hv:Value.okWide Tryz.prog w .any base 34 v) (h:DataW.Trod enc Tryz.prog w b' (fun _=>true) held 34 v d p):
  ∃(n:Nd) (a b k q z:Value),v=NdV a b k q z n/\RdN w a b k q z n/\n.r.Fit/\n.log.length<=maxLen:=by
 obtain⟨cs,rfl,hsz⟩:=okWide_struct Tryz.underlying34 hv;rw[Gp]at hsz;obtain⟨l⟩:=cs;obtain⟨a0,a1,a2,a3,a4,a5,a6,a7,a8,a9,b0,b1,b2,b3,b4,b5,b6,b7,b8,b9,rfl⟩:=uH (l:=l) (by simpa using hsz);obtain⟨fuel,hf⟩:=h;obtain⟨xs,n,_,_,hl,hlen,hf⟩:=DataW.trod_struct Tryz.underlying34 hf
 match xs,hlen with
 |[y0,y1,y2,y3,y4,y5,y6,y7],_=>
  have h0:=hf 0 _ rfl;have h1:=hf 1 _ rfl;have h2:=hf 2 _ rfl;have h3:=hf 3 _ rfl;have h4:=hf 4 _ rfl;have h5:=hf 5 _ rfl;have h6:=hf 6 _ rfl;have h7:=hf 7 _ rfl;simp[Value.cells,Gl,Gg,Gs,Gi,Gk,Gq,Gh,Gr]at h0 h1 h2 h3 h4 h5 h6 h7;obtain⟨id,rfl⟩:=fe h0;obtain⟨up,rfl⟩:=oP h1;obtain⟨log,rfl,hlog⟩:=Bq h4;obtain⟨zs,_,_,_,_,zlen,hz⟩:=DataW.trod_struct Tryz.underlying24 h2;obtain⟨ts,_,_,_,_,tlen,ht⟩:=DataW.trod_struct Tryz.underlying26 h3;obtain⟨rs,_,_,_,_,rlen,hr⟩:=DataW.trod_struct Tryz.underlying28 h5;obtain⟨ks,_,_,_,_,klen,hk⟩:=DataW.trod_struct Tryz.underlying30 h6;obtain⟨ss,_,_,_,_,slen,hs⟩:=DataW.trod_struct Tryz.underlying32 h7
  match zs,zlen,ts,tlen with
  |[z0,z1],_,[t0,t1,t2,t3],_=>
   match rs,rlen,ks,klen with
   |[r0,r1,r2,r3],_,[k0,k1,k2,k3,k4],_=>
    match ss,slen with
    |[s0,s1],_=>
     have u0:=hz 0 _ rfl;have u1:=hz 1 _ rfl;have v0:=ht 0 _ rfl;have v1:=ht 1 _ rfl;have v2:=ht 2 _ rfl;have v3:=ht 3 _ rfl;have c0:=hr 0 _ rfl;have c1:=hr 1 _ rfl;have c2:=hr 2 _ rfl;have c3:=hr 3 _ rfl;have d0:=hk 0 _ rfl;have d1:=hk 1 _ rfl;have d2:=hk 2 _ rfl;have d3:=hk 3 _ rfl;have d4:=hk 4 _ rfl;have e0:=hs 0 _ rfl;have e1:=hs 1 _ rfl;simp[Gl,Gn,Gg]at u0 u1 v0 v1 v2 v3 c0 c1 c2 c3 d0 d1 d2 d3 d4 e0 e1;obtain⟨xs,hxs⟩:=iz u0;obtain⟨ys,hys⟩:=iz u1;obtain⟨kk,hkk⟩:=iz v0;obtain⟨n1,rfl⟩:=fe v1;obtain⟨n2,rfl⟩:=fe v2;obtain⟨n3,rfl⟩:=fe v3;obtain⟨m0,rfl,f0⟩:=ly c0;obtain⟨m1,rfl,f1⟩:=ly c1;obtain⟨m2,rfl,f2⟩:=ly c2;obtain⟨m3,rfl,f3⟩:=ly c3;obtain⟨o0,rfl⟩:=fe d0;obtain⟨o1,rfl⟩:=oP d1;obtain⟨o2,rfl⟩:=fe d2;obtain⟨o3,rfl⟩:=fe d3;obtain⟨cts,hcts⟩:=iz d4;obtain⟨q0,rfl⟩:=fe e0;obtain⟨sts,hsts⟩:=iz e1;exact⟨⟨id,up,xs,ys,⟨kk,n1,n2,n3⟩,log,⟨m0,m1,m2,m3⟩,⟨o0,o1,o2,o3,cts⟩,⟨q0,sts⟩⟩,_,_,_,_,_,rfl,⟨hxs,hys,hkk,hcts,hsts⟩,⟨f0,f1,f2,f3⟩,hlog⟩
section
open Go.RowKit
structure qy (n:Nd) (p:Nd×List Mg×Bool):Prop where
 ok:NdR p.1
 ep:p.1.r.e=n.r.e
 sn:p.1.r.n=n.r.n
 td:n.r.t<=p.1.r.t
 id:p.1.id=n.id
 one:p.2.1.length<=1
 msg:∀m∈p.2.1,m.dst=1-n.id/\m.tr=p.1.r.t/\p.1.up=true/\(m.kd=3->m.va=n.ys.getD m.pl.toNat 0/\m.tn=p.1.c.ts.getD m.pl.toNat 0/\0<=m.pl/\m.pl<(n.ys.length:Int)/\n.ys.length=p.1.c.ts.length)
 st:p.1.r.s≠n.r.s->p.1.r.s=2/\n.r.s=1/\n.c.clean=true/\p.1.xs=p.1.ys
 fr:(ar p.1.log).1.length<=(ar n.log).1.length+1
 len:p.1.ys.length=n.ys.length
 no:p.2.2=false->p=(n,[],false)
theorem qz {xs ys:List Int} (h:au xs ys=true):au ys ys=true:=by
 unfold au at h⊢;simp only[Bool.and_eq_true,decide_eq_true_eq]at h⊢;exact⟨h.2.1,h.2.1,trivial⟩
theorem qy.same {n:Nd} (h:NdR n):qy n (n,[],false):=
 ⟨h,rfl,rfl,Int.le_refl _,rfl,by simp,by simp,fun e=>absurd rfl e,by simp,rfl,fun _=>rfl⟩
theorem qy.say {n:Nd} (h:NdR n) (hu:n.up=true) (m:Mg) (h1:m.dst=1-n.id) (h2:m.tr=n.r.t) (h3:m.kd≠3):qy n (n,[m],true):=
 ⟨h,rfl,rfl,Int.le_refl _,rfl,by simp,by
  intro x hx;simp only[List.mem_singleton]at hx;subst hx;exact⟨h1,h2,hu,fun e=>absurd e h3⟩,fun e=>absurd rfl e,by simp,rfl,fun e=>by cases e⟩
theorem Bp (c:Cp):c.next.tr=c.tr/\c.next.ts.length=c.ts.length:=by unfold Cp.next;split<;>simp
theorem NdR.copy {n:Nd} (h:NdR n) (hu:n.up=true) (hc:n.c.tr≠0):qy n n.copy:=by
 unfold Nd.copy;split
 ·exact qy.same h
 ·rename_i hx
  have hcp:=h.cp hc;have hg:n.c.goes=true:=by
   cases e:n.c.goes with
   |true=>rfl
   |false=>unfold Cp.nx at hx;rw[e]at hx;simp at hx
  have hnx:n.c.nx=fM n.c.di:=by unfold Cp.nx;rw[if_pos hg]
  have hft:=(Cp.fit h.c).first;have hnt:=Bp n.c;refine⟨⟨h.id,h.dk,h.h,h.r,h.ll,Cp.next_ok h.c,h.s,h.lg,fun x=>?_,fun _=>⟨hcp.1,?_,?_⟩,h.sk⟩,rfl,rfl,Int.le_refl _,rfl,by simp,?_,fun x=>absurd rfl x,by simp,rfl,fun x=>by cases x⟩
  ·rw[hu]at x;cases x
  ·show n.c.next.tr=n.r.t
   rw[hnt.1];exact hcp.2.1
  ·show n.c.next.ts.length=n.ys.length
   rw[hnt.2];exact hcp.2.2
  ·intro m hm
   simp only[List.mem_singleton]at hm;subst hm;refine⟨rfl,rfl,hu,fun _=>⟨rfl,rfl,?_,?_,?_⟩⟩
   ·show 0<=n.c.nx
    omega
   ·show n.c.nx<(n.ys.length:Int)
    rw[hnx,<-hcp.2.2];exact hft
   ·show n.ys.length=n.c.next.ts.length
    rw[hnt.2,hcp.2.2]
end
section
open Go.RowKit
structure eA (n:Nd) (m:Mg) (p:Nd×List Mg×Bool):Prop where
 ok:NdR p.1
 ep:n.r.e<=p.1.r.e
 sn:n.r.n<=p.1.r.n
 td:p.1.r.t=n.r.t
 id:p.1.id=n.id
 one:p.2.1.length<=1
 msg:∀x∈p.2.1,x.dst=1-n.id/\x.tr=m.tr/\p.1.up=true
 st:p.1.r.s≠n.r.s->(p.1.r.s=1/\n.r.s=3/\m.kd=5/\n.s.tr=m.tr/\p.1.r.e=m.ep+1/\p.1.xs=p.1.ys/\p.1.h=m.h)∨(p.1.r.s=1/\n.r.s=2/\m.kd=8/\m.tr=n.r.t)∨(p.1.r.s=3/\n.r.s=2/\m.kd=6/\m.tr=n.r.t)
 fr:(ar p.1.log).1.length<=(ar n.log).1.length+1
 len:p.1.ys.length=n.ys.length
 no:p.2.2=false->p=(n,[],false)
theorem eA.same {n:Nd} (h:NdR n) (m:Mg):eA n m (n,[],false):=
 ⟨h,Int.le_refl _,Int.le_refl _,rfl,rfl,by simp,by simp,fun e=>absurd rfl e,by simp,rfl,fun _=>rfl⟩
theorem eA.turned {n q:Nd} (m:Mg) (l:List Mg) (hq:NdR q) (hr:q.r=n.r) (hl:q.log=n.log) (hi:q.id=n.id) (hy:q.ys.length=n.ys.length) (h1:l.length<=1) (hm:∀x∈l,x.dst=1-n.id/\x.tr=m.tr/\q.up=true):eA n m (q,l,true):=
 ⟨hq,by rw[hr];exact Int.le_refl _,by rw[hr];exact Int.le_refl _,by rw[hr],hi,h1,hm,fun e=>absurd (by rw[hr]) e,by simp only[hl];omega,hy,fun e=>by cases e⟩
theorem eA.fell {n q:Nd} (m:Mg) (hq:NdR q) (hr:q.r=n.r) (hf:(ar q.log).1.length=(ar n.log).1.length) (hi:q.id=n.id) (hy:q.ys.length=n.ys.length):eA n m (q,[],true):=
 ⟨hq,by rw[hr];exact Int.le_refl _,by rw[hr];exact Int.le_refl _,by rw[hr],hi,by simp,by simp,fun e=>absurd (by rw[hr]) e,by simp only;omega,hy,fun e=>by cases e⟩
theorem Eu {n q:Nd} (m:Mg) (k:Int) (hu:q.up=true):∀x∈[n.back m k],x.dst=1-n.id/\x.tr=m.tr/\q.up=true:=by
 intro x hx;simp only[List.mem_singleton]at hx;subst hx;exact⟨rfl,rfl,hu⟩
theorem qx {n q:Nd} (m:Mg) (hu:q.up=true):∀x∈[n.taken m],x.dst=1-n.id/\x.tr=m.tr/\q.up=true:=by
 intro x hx;simp only[List.mem_singleton]at hx;subst hx;exact⟨rfl,rfl,hu⟩
theorem C8 (n:Int):epI n=true↔0<=n/\n<=100000:=by simp[epI]
theorem Mg.parts {m:Mg} (h:m.ok=true):(0<=m.tr/\m.tr<=100000)/\(0<=m.pl/\m.pl<8)/\(0<=m.tn/\m.tn<=1000000000)/\bJ m.va=true/\(0<=m.ep/\m.ep<=100000)/\(1<=m.kd/\m.kd<=8):=by
 unfold Mg.ok at h;simp only[Bool.and_eq_true,aE,C8]at h;obtain⟨⟨⟨⟨⟨⟨⟨h1,h2⟩,h3⟩,h4⟩,h5⟩,h6⟩,h7⟩, -⟩:=h;simp[il]at h4;exact⟨h3,h4,h5,h6,h7,h2⟩
theorem NdR.blocks {n:Nd} (h:NdR n):1<=(n.ys.length:Int)/\(n.ys.length:Int)<=8:=by
 have hb:=h.dk;unfold au aK jK at hb;simp only[Bool.and_eq_true,decide_eq_true_eq]at hb;omega
theorem Cp.open_ok {c:Cp} (h:c.ok=true) (h0:c.tr≠0):({c with op:=true}:Cp).ok=true:=by
 unfold Cp.ok at*;rw[if_neg h0]at h;rw[if_neg (by simpa using h0)];exact h
theorem NdR.opened {n:Nd} (h:NdR n) (hu:n.up=true) (m:Mg):eA n m (n.opened m):=by
 unfold Nd.opened;split
 ·exact eA.same h m
 ·rename_i e
  have h0:n.c.tr≠0:=fun x=>e (.inl x)
  refine eA.turned m [] ⟨h.id,h.dk,h.h,h.r,h.ll,Cp.open_ok h.c h0,h.s,h.lg,fun x=>?_,fun _=>h.cp h0,h.sk⟩ rfl rfl rfl rfl Fg Fg;rw[hu]at x;cases x
theorem Sn.got_tr (s:Sn) (t i n:Int):(s.got t i n).tr=s.tr/\(s.got t i n).ts.length=s.ts.length:=by unfold Sn.got;split<;>simp
theorem NdR.copied {n:Nd} (h:NdR n) (hu:n.up=true) {m:Mg} (hm:m.ok=true):eA n m (n.copied m):=by
 have hp:=Mg.parts hm;obtain⟨is,his⟩:=Fe (n.s.takes m.tr m.pl m.tn)
 obtain⟨q,hq⟩:∃q:Nd,q=(if is then{n with s:=n.s.got m.tr m.pl m.tn,ys:=n.ys.set m.pl.toNat m.va}else n):=⟨_,rfl⟩
 have hN:NdR q/\q.r=n.r/\q.log=n.log/\q.id=n.id/\q.ys.length=n.ys.length/\q.up=true/\(is=false->q=n):=by
  rw[hq];cases e:is with
  |false=>exact⟨h,rfl,rfl,rfl,rfl,hu,fun _=>rfl⟩
  |true=>
   have ht:=(Sn.takes_iff n.s m.tr m.pl m.tn).1 (by rw[<-his,e]);have hs0:n.s.tr≠0:=by omega
   have hsk:=h.sk hs0;have hj:m.pl.toNat<n.ys.length:=by omega
   refine⟨⟨h.id,BT h.dk hj hp.2.2.2.1,h.h,h.r,h.ll,h.c,Sn.got_ok h.s _ _ _,h.lg,fun x=>?_,fun x=>?_,fun _=>⟨hsk.1,?_,?_⟩⟩,rfl,rfl,rfl,by simp,hu,fun x=>by cases x⟩
   ·rw[hu]at x;cases x
   ·exact absurd hsk.1 (h.cp x).1
   ·show(n.s.got _ _ _).tr=n.r.n
    rw[(Sn.got_tr _ _ _ _).1];exact hsk.2.1
   ·show(n.s.got _ _ _).ts.length=(n.ys.set _ _).length
    rw[(Sn.got_tr _ _ _ _).2,List.length_set];exact hsk.2.2
 unfold Nd.copied;simp only[<-his,<-hq];obtain⟨h1,h2,h3,h4,h5,h6,h7⟩:=hN;split
 ·cases e:is with
  |false=>rw[h7 e];exact eA.same h m
  |true=>exact eA.turned m [] h1 h2 h3 h4 h5 Fg Fg
 ·refine eA.turned m _ h1 h2 h3 h4 h5 Fg ?_
  intro x hx;simp only[List.mem_singleton]at hx;subst hx;exact⟨rfl,rfl,h6⟩
theorem NdR.handed {n:Nd} (h:NdR n) (hu:n.up=true) {m:Mg} (hm:m.ok=true) (hk:m.kd=5) (torn:Int) (hf:(ar n.log).1.length<2000):eA n m (n.handed m torn):=by
 have hr:=(Rc.ok_iff n.r).1 h.r;have hp:=Mg.parts hm;unfold Nd.handed;split
 ·exact eA.same h m
 ·rename_i hh
  have hho:m.h.ok=true:=by
   cases e:m.h.ok with
   |true=>rfl
   |false=>exact absurd (.inl e) hh
  have hep:m.ep≠100000:=fun e=>hh (.inr e)
  split
  ·rename_i hs
   have hsk:=h.sk hs.1;have hc0:n.c.tr=0:=by
    by_cases e:n.c.tr=0
    ·exact e
    ·exact absurd hsk.1 (h.cp e).1
   have hq:(({n.r with e:=m.ep+1,s:=1}:Rc)).ok=true:=(Rc.ok_iff _).2 ⟨by simp only;omega,by simp,hr.2.2.1,hr.2.2.2⟩;have h':NdR ({n with xs:=n.ys,h:=m.h}:Nd):=⟨h.id,qz h.dk,hho,h.r,h.ll,h.c,h.s,h.lg,h.dn,h.cp,h.sk⟩
   obtain⟨p,hpp⟩:∃p,p=({n with xs:=n.ys,h:=m.h}:Nd).note {n.r with e:=m.ep+1,s:=1} torn:=⟨_,rfl⟩
   simp only[<-hpp];rcases h'.note hu hq hf p hpp with⟨e,hN,e1,e2,e3,e4,e5,e6,e7,e8⟩|⟨e,e1,e2,e3,e4⟩
   ·rw[e]
    simp only[Bool.false_eq_true,if_false];exact eA.fell m hN e2 e8 e4 e5
   ·rw[e]
    simp only[if_true];rw[e1]at e2 e3 e4⊢;refine⟨⟨h.id,qz h.dk,hho,hq,e3,h.c,Sn.zero_ok,?_,fun x=>?_,fun x=>absurd hc0 x,fun x=>absurd rfl x⟩,?_,Int.le_refl _,rfl,rfl,by simp,qx m hu,fun _=>.inl ⟨rfl,hsk.1,hk,hs.2.1,rfl,rfl,rfl⟩,?_,rfl,fun x=>by cases x⟩
    ·show iw _ _ n.up
     rw[hu];exact e2
    ·rw[hu]at x;cases x
    ·show n.r.e<=m.ep+1
     omega
    ·show(ar (n.log++_)).1.length<=_
     exact Nat.le_of_eq e4
  ·split
   ·exact eA.turned m _ h rfl rfl rfl rfl Fg (qx m hu)
   ·exact eA.same h m
theorem NdR.gone {n:Nd} (h:NdR n) (hu:n.up=true) {m:Mg} (hm:m.ok=true) (hk:m.kd=6) (torn:Int) (hf:(ar n.log).1.length<2000):eA n m (n.gone m torn):=by
 have hr:=(Rc.ok_iff n.r).1 h.r;have hp:=Mg.parts hm;unfold Nd.gone;split
 ·rename_i hmi
  have hmi':=hmi.1;unfold Nd.mine at hmi';simp only[Bool.and_eq_true,decide_eq_true_eq]at hmi';have hs0:n.s.tr=0:=by
   by_cases e:n.s.tr=0
   ·exact e
   ·have:=(h.sk e).1;omega
  have hq:(({n.r with e:=m.ep,s:=3}:Rc)).ok=true:=(Rc.ok_iff _).2 ⟨hp.2.2.2.2.1,by simp,hr.2.2.1,hr.2.2.2⟩;obtain⟨p,hpp⟩:∃p,p=n.note {n.r with e:=m.ep,s:=3} torn:=⟨_,rfl⟩
  simp only[<-hpp];rcases h.note hu hq hf p hpp with⟨e,hN,e1,e2,e3,e4,e5,e6,e7,e8⟩|⟨e,e1,e2,e3,e4⟩
  ·rw[e]
   simp only[Bool.false_eq_true,if_false];exact eA.fell m hN e2 e8 e4 e5
  ·rw[e]
   simp only[if_true];rw[e1]at e2 e3 e4⊢;refine⟨⟨h.id,h.dk,h.h,hq,e3,Cp.zero_ok,h.s,?_,fun x=>?_,fun x=>absurd rfl x,fun x=>absurd hs0 x⟩,?_,Int.le_refl _,rfl,rfl,by simp,by simp,fun _=>.inr (.inr ⟨rfl,hmi'.1,hk,hmi'.2.symm⟩),?_,rfl,fun x=>by cases x⟩
   ·show iw _ _ n.up
    rw[hu];exact e2
   ·rw[hu]at x;cases x
   ·show n.r.e<=m.ep
    have:=hmi.2;omega
   ·show(ar (n.log++_)).1.length<=_
    exact Nat.le_of_eq e4
 ·exact eA.same h m
theorem NdR.kept {n:Nd} (h:NdR n) (hu:n.up=true) {m:Mg} (hk:m.kd=8) (torn:Int) (hf:(ar n.log).1.length<2000):eA n m (n.kept m torn):=by
 have hr:=(Rc.ok_iff n.r).1 h.r;unfold Nd.kept;split
 ·rename_i hmi
  have hmi':=hmi;unfold Nd.mine at hmi';simp only[Bool.and_eq_true,decide_eq_true_eq]at hmi';have hs0:n.s.tr=0:=by
   by_cases e:n.s.tr=0
   ·exact e
   ·have:=(h.sk e).1;omega
  have hq:(({n.r with s:=1}:Rc)).ok=true:=(Rc.ok_iff _).2 ⟨hr.1,by simp,hr.2.2.1,hr.2.2.2⟩;obtain⟨p,hpp⟩:∃p,p=n.note {n.r with s:=1} torn:=⟨_,rfl⟩
  simp only[<-hpp];rcases h.note hu hq hf p hpp with⟨e,hN,e1,e2,e3,e4,e5,e6,e7,e8⟩|⟨e,e1,e2,e3,e4⟩
  ·rw[e]
   simp only[Bool.false_eq_true,if_false];exact eA.fell m hN e2 e8 e4 e5
  ·rw[e]
   simp only[if_true];rw[e1]at e2 e3 e4⊢;refine⟨⟨h.id,h.dk,h.h,hq,e3,Cp.zero_ok,h.s,?_,fun x=>?_,fun x=>absurd rfl x,fun x=>absurd hs0 x⟩,Int.le_refl _,Int.le_refl _,rfl,rfl,by simp,by simp,fun _=>.inr (.inl ⟨rfl,hmi'.1,hk,hmi'.2.symm⟩),?_,rfl,fun x=>by cases x⟩
   ·show iw _ _ n.up
    rw[hu];exact e2
   ·rw[hu]at x;cases x
   ·show(ar (n.log++_)).1.length<=_
    exact Nat.le_of_eq e4
 ·exact eA.same h m
end
theorem aw.drew {w w':World} {bs:List Nat} (h:aw w w' bs):aw w w'.drew bs:=h.then (aw.below _ (Below.refl _ _).drew)
theorem CpB.drew {w:World} {g off:Nat} {t:TypeId} {cs:Array Value} {v:Value} {c:Cp} (h:CpB w g off t cs v c):CpB w.drew g off t cs v c:=h.below (Below.refl _ _).drew
theorem CpB.turn {w:World} {g off:Nat} {t:TypeId} {cs:Array Value} {v:Value} {c:Cp} (h:CpB w g off t cs v c) (j:Nat) (hj:j<c.ts.length):
  ∃q cap,v=.slice (some ⟨q,0,none⟩) c.ts.length cap/\q≠g/\c.ts.length<=cap/\cap<=maxLen/\w.cell? ⟨q,j,none⟩=some (.int .i64 (c.ts.getD j 0))/\w.frozen? ⟨q,j,none⟩=false/\
   ∀x:Int,CpB (w.setCell ⟨q,j,none⟩ (.int .i64 x)) g off t cs v {c with ts:=c.ts.set j x}/\aw w (w.setCell ⟨q,j,none⟩ (.int .i64 x)) (g::v.ownBlock.toList):=by
 obtain⟨ao,cap,rfl⟩:=aa h.own.reads;obtain⟨-,hc1,hc2,hcell⟩:=aL h.own.reads;obtain⟨q,rfl⟩:∃q,ao=some ⟨q,0,none⟩:=by
  rcases h.own.2 with e|⟨q,cap',cur,e,_⟩
  ·have e1:c.ts.length=0:=e.2
   omega
  ·simp only[Value.slice.injEq]at e
   exact⟨q,e.1⟩
 obtain⟨b,o,e,hx⟩:=hcell j hj;simp only[Option.some.injEq,Addr.mk.injEq]at e;obtain⟨rfl,rfl, -⟩:=e;rw[Nat.zero_add]at hx;have hne:q≠g:=fun e=>h.ne (by rw[<-e];rfl)
 refine⟨q,cap,rfl,hne,hc1,hc2,hx,(h.own.put rfl j hj 0).1,fun x=>?_⟩;have o:=(h.own.put rfl j hj x).2.2;exact⟨⟨h.st.other _ _ (fun e=>hne e.symm),h.i0,h.i1,h.i2,h.i3,h.i4,o,h.ne⟩,(aw.of_grown (ai w q j _)).sub (by simp[Value.ownBlock])⟩
section
open Go.ChangeShapes Go.WideShapes Go.ChangeAt Go.RowKit
end
section
open Go.ChangeShapes Go.WideShapes Go.ChangeAt Go.RowKit
end
theorem wv (x:Int) (w:World):
  Calls Tryz.prog 186 #[.int .i64 x] w fun e w'=>e=.returned (.bool (inI x 1 8))/\w'=w:=by
 by_cases h0:1<=x
 ·by_cases h1:x<=8
  ·rw[show inI x 1 8=true by simp[inI,h0,h1]]
   go_enter Tryz.func186,Tryz.ntmps186;go_wp2;go_ret;exact⟨af Fg,rfl⟩
  ·rw[show inI x 1 8=false by simp[inI];omega]
   go_enter Tryz.func186,Tryz.ntmps186;go_wp2;go_ret;exact⟨af Fg,rfl⟩
 ·rw[show inI x 1 8=false by simp[inI];omega]
  go_enter Tryz.func186,Tryz.ntmps186;go_wp2;go_ret;exact⟨af Fg,rfl⟩
theorem ui (x:Int) (w:World):
  Calls Tryz.prog 148 #[.int .i64 x] w fun e w'=>e=.returned (.bool (inI x 1 100000))/\w'=w:=by
 by_cases h0:1<=x
 ·by_cases h1:x<=100000
  ·rw[show inI x 1 100000=true by simp[inI,h0,h1]]
   go_enter Tryz.func148,Tryz.ntmps148;go_wp2;go_ret;exact⟨af Fg,rfl⟩
  ·rw[show inI x 1 100000=false by simp[inI];omega]
   go_enter Tryz.func148,Tryz.ntmps148;go_wp2;go_ret;exact⟨af Fg,rfl⟩
 ·rw[show inI x 1 100000=false by simp[inI];omega]
  go_enter Tryz.func148,Tryz.ntmps148;go_wp2;go_ret;exact⟨af Fg,rfl⟩
theorem ww (x:Int) (w:World):
  Calls Tryz.prog 179 #[.int .i64 x] w fun e w'=>e=.returned (.bool (inI x 0 1000000000))/\w'=w:=by
 by_cases h0:0<=x
 ·by_cases h1:x<=1000000000
  ·rw[show inI x 0 1000000000=true by simp[inI,h0,h1]]
   go_enter Tryz.func179,Tryz.ntmps179;go_wp2;go_ret;exact⟨af Fg,rfl⟩
  ·rw[show inI x 0 1000000000=false by simp[inI];omega]
   go_enter Tryz.func179,Tryz.ntmps179;go_wp2;go_ret;exact⟨af Fg,rfl⟩
 ·rw[show inI x 0 1000000000=false by simp[inI];omega]
  go_enter Tryz.func179,Tryz.ntmps179;go_wp2;go_ret;exact⟨af Fg,rfl⟩
theorem oD (v:Value) (ts:List Int) (w:World) (hr:ag w v ts) (hl:ts.length<=1099511627776):
  Calls Tryz.prog 149 #[v] w fun e w'=>e=.returned (.bool (bj ts&&inI ts.length 1 8))/\w'=w:=by
 have HE:Hid (∀b:Bool,bj ts=b->(bj ts&&inI ts.length 1 8)=(b&&inI ts.length 1 8)):=fun b h=>by rw[h]
 have HF:Hid (inI ts.length 1 8=false->(bj ts&&inI ts.length 1 8)=false):=fun h=>by rw[h,Bool.and_false]
 obtain⟨ao,cap,rfl⟩:=aa hr;obtain⟨-,hc1,hc2,hcell⟩:=aL hr;have ck:=fun x wx=>ww x wx
 have cl:=fun wx=>wv (ts.length:Int) wx
 obtain⟨x,hx⟩:=Fe ((bj ts&&inI ts.length 1 8))
 simp only[<-hx]at HE HF⊢;obtain⟨y,hy⟩:=Fe (inI ts.length 1 8)
 simp only[<-hy]at HE HF cl;obtain⟨n,hn⟩:=Fe ts.length
 rw[<-hn]at hl hc1 hcell;simp only[<-hn]at cl⊢;have HN:Hid (n=ts.length):=hn;unfold maxLen at hc2;clear hr hn hx hy;go_enter Tryz.func149,Tryz.ntmps149;go_wp2_with fail
 refine Fd (cl _) ?_;clear cl;cases y with
 |false=>
  have HX:Hid (x=false):=HF.out rfl;clear HE HF;go_wp2;go_ret;rw[HX.out];exact⟨rfl,rfl⟩
 |true=>
  clear HF;go_wp2;go_loop [11] (fun i=>∃j:Nat,j<=n/\i=.int .i64 j/\Hid (bj (ts.take j)=true)) (fun i=>n-(intOf i).toNat)
  case atStart=>exact⟨0,Nat.zero_le _,rfl,by simp[Hid,bj]⟩
  case round=>
   obtain⟨j,hj,rfl,HT⟩:=hrel;by_cases hlt:(j:Int)<(n:Int)
   ·obtain⟨b,off,rfl,hcj⟩:=hcell j Ff
    clear hcell;have hjl:j<ts.length:=by have:=HN.out;omega
    have HA:Hid (inI (ts.getD j 0) 0 1000000000=false->bj ts=false):=pZ ts j hjl;have HZ:Hid (inI (ts.getD j 0) 0 1000000000=true->bj (ts.take (j+1))=true):=nK ts j hjl HT.out;have ckj:=fun wx=>ck (ts.getD j 0) wx
    obtain⟨z,hz⟩:=Fe (ts.getD j 0)
    rw[<-hz]at hcj HA HZ;simp only[<-hz]at ckj;obtain⟨bz,hbz⟩:=Fe (inI z 0 1000000000)
    rw[<-hbz]at HA HZ;simp only[<-hbz]at ckj;clear hz hjl hbz ck;go_wp2_with fail
    refine Fd (ckj _) ?_;cases bz with
    |true=>
     have HZ2:Hid (bj (ts.take (j+1))=true):=HZ.out rfl;clear HZ HA;go_wp2
     go_round
     case rel=>exact⟨j+1,by omega,by go_num,HZ2.out⟩
     case measure=>simp[intOf];omega
    |false=>
     have HX:Hid (x=false):=by rw[Hid,HE.out false (HA.out rfl)];rfl
     clear HZ HA;go_wp2;go_ret;rw[HX.out];exact⟨rfl,rfl⟩
   ·have HX:Hid (x=true):=by
     have:=HT.out;rw[List.take_of_length_le (by have:=HN.out;omega)]at this;rw[Hid,HE.out true this];rfl
    clear HT ck;go_wp2;go_ret;rw[HX.out];exact⟨rfl,rfl⟩
theorem mz (s:Int) (n:Nat) (w:World):
  Calls Tryz.prog 150 #[.int .i64 s,.int .i64 n] w fun e w'=>e=.returned (.bool (inI s 0 (cO n)))/\w'=w:=by
 have c1:=BV n w;have HI:Hid (inI s 0 (cO n)=(decide (0<=s)&&decide (s<=cO n))):=rfl;obtain⟨f,hf⟩:=Fe (cO n)
 rw[<-hf]at c1 HI⊢;obtain⟨x,hx⟩:=Fe (inI s 0 f)
 rw[<-hx]at HI⊢;clear hf hx;by_cases h0:0<=s
 ·go_enter Tryz.func150,Tryz.ntmps150
  go_wp2_with fail
  refine Fd c1 ?_;clear c1;go_wp2;go_ret;exact⟨af (by rw[HI.out];simp[h0]),rfl⟩
 ·clear c1
  go_enter Tryz.func150,Tryz.ntmps150;go_wp2;go_ret;exact⟨af (by rw[HI.out,show decide (0<=s)=false from decide_eq_false Ff,Bool.false_and]),rfl⟩
def Cp.unused (c:Cp):Bool:=decide (c.tr=0)&& !c.op&&decide (c.di=0)&&decide (c.wa=0)&&decide (c.ts.length=0)
theorem Cp.ok_unused {c:Cp} (h:c.unused=true):c.ok=true:=by
 unfold Cp.unused at h;unfold Cp.ok;simp only[Bool.and_eq_true,decide_eq_true_eq]at h;obtain⟨⟨⟨⟨h1,h2⟩,h3⟩,h4⟩,h5⟩:=h;rw[if_pos h1,h2];simp[h3,h4,h5]
theorem Cp.ok_used {c:Cp} (h:c.unused=false):c.ok=(inI c.tr 1 100000&&(bj c.ts&&inI c.ts.length 1 8)&&inI c.di 0 (cO c.ts.length)&&inI c.wa 0 (cO c.ts.length)):=by
 unfold Cp.ok Cp.mid;by_cases e:c.tr=0
 ·rw[if_pos e]
  unfold Cp.unused at h;rw[decide_eq_true e,Bool.true_and]at h;rw[h];have:inI c.tr 1 100000=false:=by rw[e];decide
  rw[this];rfl
 ·rw[if_neg e]
  simp only[Bool.and_assoc]
theorem mB (v:Value) (c:Cp) (w:World) (hr:ag w v c.ts):
  Calls Tryz.prog 106 #[CpV v c] w fun e w'=>e=.returned (.bool c.unused)/\iO w w':=by
 have HE:Hid (c.unused=(decide (c.tr=0)&& !c.op&&decide (c.di=0)&&decide (c.wa=0)&&decide (c.ts.length=0))):=rfl;obtain⟨ao,cap,rfl⟩:=aa hr;obtain⟨x,hx⟩:=Fe c.unused
 rw[<-hx]at HE⊢;obtain⟨n,hn⟩:=Fe c.ts.length
 unfold CpV cpA;rw[<-hn]at HE⊢;clear hr hx hn;by_cases ht:c.tr=0
 ·have e1:(c.tr==0)=true:=by simpa using ht
  cases ho:c.op with
  |true=>
   rw[ho]at HE;go_enter Tryz.func106,Tryz.ntmps106;go_wp2;go_ret;exact⟨af (by rw[HE.out];simp),Fc⟩
  |false=>
   rw[ho]at HE;by_cases hd:c.di=0
   ·have e2:(c.di==0)=true:=by simpa using hd
    by_cases hw:c.wa=0
    ·have e3:(c.wa==0)=true:=by simpa using hw
     by_cases hn0:(n:Int)=0
     ·have e4:((n:Int)==0)=true:=by simpa using hn0
      go_enter Tryz.func106,Tryz.ntmps106;go_wp2;go_ret;exact⟨af (by rw[HE.out];simp[ht,hd,hw,(by omega:n=0)]),Fc⟩
     ·have e4:((n:Int)==0)=false:=by simpa using hn0
      go_enter Tryz.func106,Tryz.ntmps106;go_wp2;go_ret;exact⟨af (by rw[HE.out,show decide (n=0)=false from decide_eq_false Ff,Bool.and_false]),Fc⟩
    ·have e3:(c.wa==0)=false:=by simpa using hw
     go_enter Tryz.func106,Tryz.ntmps106;go_wp2;go_ret;exact⟨af (by rw[HE.out];simp[hw]),Fc⟩
   ·have e2:(c.di==0)=false:=by simpa using hd
    go_enter Tryz.func106,Tryz.ntmps106;go_wp2;go_ret;exact⟨af (by rw[HE.out];simp[hd]),Fc⟩
 ·have e1:(c.tr==0)=false:=by simpa using ht
  go_enter Tryz.func106,Tryz.ntmps106;go_wp2;go_ret;exact⟨af (by rw[HE.out];simp[ht]),Fc⟩
theorem AJ (v:Value) (c:Cp) (i:Int) (w:World) (hr:ag w v c.ts):
  Calls Tryz.prog 120 #[CpV v c,.int .i64 i] w fun e w'=>e=.returned (.bool (c.has i))/\iO w w':=by
 have HE:Hid (c.has i=(decide (0<=i)&&decide (i<(c.ts.length:Int)))):=rfl;obtain⟨ao,cap,rfl⟩:=aa hr;obtain⟨x,hx⟩:=Fe (c.has i)
 rw[<-hx]at HE⊢;unfold CpV cpA;clear hr hx;by_cases h0:0<=i
 ·by_cases h1:i<(c.ts.length:Int)
  ·go_enter Tryz.func120,Tryz.ntmps120
   go_wp2;go_ret;exact⟨af (by rw[HE.out];simp[h0,h1]),Fc⟩
  ·go_enter Tryz.func120,Tryz.ntmps120
   go_wp2;go_ret;exact⟨af (by rw[HE.out];simp[h1]),Fc⟩
 ·have HF:Hid (x=false):=by rw[Hid,HE.out];simp[h0]
  go_enter Tryz.func120,Tryz.ntmps120;go_wp2;go_ret;exact⟨af (by rw[HF.out]),Fc⟩
theorem nY (v:Value) (c:Cp) (w:World) (hr:ag w v c.ts) (hl:c.ts.length<=1099511627776):
  Calls Tryz.prog 107 #[CpV v c] w fun e w'=>e=.returned (.bool c.ok)/\iO w w':=by
 have HU:Hid (c.unused=true->c.ok=true):=Cp.ok_unused;have HE:Hid (c.unused=false->c.ok=(inI c.tr 1 100000&&(bj c.ts&&inI c.ts.length 1 8)&&inI c.di 0 (cO c.ts.length)&&inI c.wa 0 (cO c.ts.length))):=Cp.ok_used;obtain⟨w1,hw1⟩:=Fe (w.alloc (.cells (cpA v c) 39))
 have H1:StB w1 w.heap.size 39 (cpA v c):=by rw[hw1];exact StB.new _ _ _
 have B1:iO w w1:=by rw[hw1];exact Fc
 have cu:=mB v c w1 (hr.below B1 (Nat.le_refl _));have HR:Hid (∀w2,iO w1 w2->ag w2 v c.ts):=fun w2 b=>(hr.below B1 (Nat.le_refl _)).below b (Nat.le_refl _)
 have HS:Hid (∀w2,iO w1 w2->StB w2 w.heap.size 39 (cpA v c)/\iO w w2):=fun w2 b=>⟨H1.below b,B1.trans (b.mono B1.size)⟩
 obtain⟨ao,cap,rfl⟩:=aa hr;have HW:Hid (w1=w.alloc (.cells #[.int .i64 c.tr,.bool c.op,.int .i64 c.di,.int .i64 c.wa,.slice ao c.ts.length cap] 39)):=hw1;have k0:w1.cell? ⟨w.heap.size,0,none⟩=some (.int .i64 c.tr):=H1.cell 0 rfl;have k1:w1.cell? ⟨w.heap.size,1,none⟩=some (.bool c.op):=H1.cell 1 rfl;have k2:w1.cell? ⟨w.heap.size,2,none⟩=some (.int .i64 c.di):=H1.cell 2 rfl;have k3:w1.cell? ⟨w.heap.size,3,none⟩=some (.int .i64 c.wa):=H1.cell 3 rfl;have k4:w1.cell? ⟨w.heap.size,4,none⟩=some (.slice ao c.ts.length cap):=H1.cell 4 rfl;have ct:=fun wx=>ui c.tr wx
 have cs:=fun wx h=>oD (.slice ao c.ts.length cap) c.ts wx h hl
 have cd:=fun wx=>mz c.di c.ts.length wx
 have cw:=fun wx=>mz c.wa c.ts.length wx
 obtain⟨x,hx⟩:=Fe c.ok
 rw[<-hx]at HE HU⊢;obtain⟨bu,hbu⟩:=Fe c.unused
 rw[<-hbu]at HE HU cu;obtain⟨bt,hbt⟩:=Fe (inI c.tr 1 100000)
 rw[<-hbt]at HE;simp only[<-hbt]at ct;obtain⟨bs,hbs⟩:=Fe ((bj c.ts&&inI c.ts.length 1 8))
 rw[<-hbs]at HE;simp only[<-hbs]at cs;obtain⟨bd,hbd⟩:=Fe (inI c.di 0 (cO c.ts.length))
 rw[<-hbd]at HE;simp only[<-hbd]at cd;obtain⟨bw,hbw⟩:=Fe (inI c.wa 0 (cO c.ts.length))
 rw[<-hbw]at HE;simp only[<-hbw]at cw;have HCS:Hid _:=cs;unfold CpV cpA at cu⊢;clear hw1 H1 hr hx hbu hbt hbs hbd hbw B1 cs;go_enter Tryz.func107,Tryz.ntmps107;go_wp2_with fail
 rw[<-HW.out];refine cu.mono ?_;rintro e w2 ⟨rfl,b2⟩;clear HW cu k0 k1 k2 k3 k4;have HB:Hid (iO w w2):=(HS.out w2 b2).2;have H2:=(HS.out w2 b2).1;have cs:=HCS.out w2 (HR.out w2 b2);have k0:w2.cell? ⟨w.heap.size,0,none⟩=some (.int .i64 c.tr):=H2.cell 0 rfl;have k2:w2.cell? ⟨w.heap.size,2,none⟩=some (.int .i64 c.di):=H2.cell 2 rfl;have k3:w2.cell? ⟨w.heap.size,3,none⟩=some (.int .i64 c.wa):=H2.cell 3 rfl;have k4:w2.cell? ⟨w.heap.size,4,none⟩=some (.slice ao c.ts.length cap):=H2.cell 4 rfl;clear HCS HS HR H2 b2;cases bu with
 |true=>
  have HX:Hid (x=true):=HU.out rfl;clear HU HE;go_wp2;go_ret;exact⟨af (by rw[HX.out]),HB.out⟩
 |false=>
  have HX:Hid (x=(bt&&bs&&bd&&bw)):=HE.out rfl;clear HU HE;go_wp2_with fail
  refine Fd (ct _) ?_;clear ct;cases bt with
  |false=>
   go_wp2;go_ret;exact⟨af (by rw[HX.out];rfl),HB.out⟩
  |true=>
   go_wp2_with fail
   refine Fd cs ?_;clear cs;cases bs with
   |false=>
    go_wp2;go_ret;exact⟨af (by rw[HX.out];rfl),HB.out⟩
   |true=>
    go_wp2_with fail
    refine Fd (cd _) ?_;clear cd;cases bd with
    |false=>
     go_wp2;go_ret;exact⟨af (by rw[HX.out];rfl),HB.out⟩
    |true=>
     go_wp2_with fail
     refine Fd (cw _) ?_;clear cw;go_wp2;go_ret;exact⟨af (by rw[HX.out];rfl),HB.out⟩
theorem tD (v:Value) (xs:List Int) (w:World) (h:ag w v xs) (h1:1<=xs.length) (hbig:xs.length<=1099511627776):
  Calls Tryz.prog 114 #[v] w fun e w'=>∃u,e=.returned u/\Own w' w.heap.size u xs/\iO w w':=by
 obtain⟨i0,hi,hz0,hz1,hz2⟩:=info_parts Gz;obtain⟨ao,cap,rfl,hl,hm,hc⟩:=h;obtain⟨b,off,hab,hcell⟩:∃b off,ao=some ⟨b,off,none⟩/\∀j,j<xs.length->w.cell? ⟨b,off+j,none⟩=some (.int .i64 (xs.getD j 0)):=by
  rcases hc with e|h
  ·subst e;simp at h1
  ·exact h
 subst hab;have hnews:∀j u,(xs.map (Value.int .i64))[j]?=some u->w.cell? ((⟨b,off,none⟩:Addr).add j)=some u:=by
  intro j u hj;have hlt:j<xs.length:=by
   rcases Nat.lt_or_ge j xs.length with h|h
   ·exact h
   ·rw[List.getElem?_eq_none (by simpa using h)]at hj;cases hj
  rw[show(⟨b,off,none⟩:Addr).add j=⟨b,off+j,none⟩ by unfold Addr.add;split<;>simp_all];rw[hcell j hlt];simp[List.getD,hlt]at hj⊢;exact hj
 have hone:∀u∈xs.map (Value.int .i64),u.oneCell'=true:=by
  intro u hu;obtain⟨x,_,rfl⟩:=List.mem_map.1 hu;rfl
 obtain⟨hm1, -⟩:=hm;unfold maxLen at hm1;obtain⟨n,hn⟩:=Fe xs.length
 have hll:(xs.map (Value.int .i64)).length=n*1:=by simp[hn]
 rw[<-hn]at hbig hl h1⊢;have HN:Hid (n=xs.length):=hn;clear hn hc hcell;go_enter Tryz.func114,Tryz.ntmps114;go_wp2_with (at_builtin;refine wpList_append_grows _ rfl _ _ 22 rfl 2 i0 (.int .i64 0) 1 8 Tryz.underlying22 hi hz0 hz1 hz2 rfl Fh (some ⟨b,off,none⟩) 0 0 [] rfl (by intro e;cases e) Fg (by intro b' _ j u hj;simp at hj) ⟨b,off,none⟩ n cap (xs.map (Value.int .i64)) rfl hll hnews hone Ff (by unfold maxLen;omega) Ff ?_)
 intro v' w1 hown hgrow;go_wp2_with fail
 go_ret;refine⟨_,rfl,?_,(Below.refl w.heap.size w).grown hgrow (Nat.le_refl _) (fun k e=>by cases e)⟩;unfold Own;rw[<-HN.out];exact hown
theorem tE (v:Value) (w:World) (h:ag w v []):
  Calls Tryz.prog 114 #[v] w fun e w'=>∃u,e=.returned u/\bP w' w.heap.size u []/\iO w w':=by
 obtain⟨ao,cap,rfl,hl,⟨hm,hz⟩, -⟩:=h;unfold maxLen at hm;simp only[List.length_nil]at hl⊢;rcases ao with _|ad
 ·have e0:cap=0:=hz rfl
  subst e0;clear hz hm hl;go_enter Tryz.func114,Tryz.ntmps114;go_wp2;go_ret;exact⟨_,rfl,.inr ⟨rfl,_,_,rfl,Nat.zero_le _,fun _=>rfl⟩,Below.refl _ _⟩
 ·clear hz
  go_enter Tryz.func114,Tryz.ntmps114;go_wp2;go_ret;exact⟨_,rfl,.inr ⟨rfl,_,_,rfl,Nat.zero_le _,fun _=>rfl⟩,Below.refl _ _⟩
theorem ol (v:Value) (xs:List Int) (w:World) (h:ag w v xs) (hbig:xs.length<=1099511627776):
  Calls Tryz.prog 114 #[v] w fun e w'=>∃u,e=.returned u/\bP w' w.heap.size u xs/\iO w w':=by
 by_cases h1:1<=xs.length
 ·refine(tD v xs w h h1 hbig).mono ?_
  rintro e w' ⟨u,rfl,o,b⟩;exact⟨u,rfl,.inl o,b⟩
 ·have e0:xs=[]:=List.eq_nil_of_length_eq_zero Ff
  subst e0;exact tE v w h
structure SoS (w wx:World) (g:Nat) (v u:Value) (c d:Sn):Prop where
 p:StB wx w.heap.size 40 (snA v c)
 q:StB wx (w.heap.size+1) 40 fw
 r:StB wx g 40 (snA u d)
 o:bP wx w.heap.size u d.ts
 b:iO w wx
 l:w.heap.size+1<g
theorem SoS.below {w wx wy:World} {g:Nat} {v u:Value} {c d:Sn} (h:SoS w wx g v u c d) (b:iO wx wy):SoS w wy g v u c d:=
 ⟨h.p.below b,h.q.below b,h.r.below b,h.o.below b,h.b.trans (b.mono h.b.size),h.l⟩
theorem SoS.put {w wx:World} {g:Nat} {v u:Value} {c d e:Sn} (h:SoS w wx g v u c d) (j:Nat) (x:Value) (he:(snA u d).setIfInBounds j x=snA u e) (ht:e.ts=d.ts):SoS w (wx.setCell ⟨g,j,none⟩ x) g v u c e:=
 ⟨h.p.other _ _ (by have:=h.l;show w.heap.size≠g;omega),h.q.other _ _ (by have:=h.l;show w.heap.size+1≠g;omega),h.r.put j x he,by rw[ht];exact h.o.set h.r Fh x,h.b.setCell (by have:=h.l;show w.heap.size<=g;omega) _,h.l⟩
theorem SoS.fin {w wx wy:World} {g:Nat} {v u:Value} {c d:Sn} (h:SoS w wx g v u c d) (G:wx.grownBy wy (some (w.heap.size+1))):bP wy w.heap.size u d.ts/\iO w wy:=
 ⟨h.o.putBy h.q Fh G,h.b.grown G h.b.size (fun k e=>by cases e;omega)⟩
theorem SoS.row {w wx:World} {g r n cap:Nat} {v:Value} {c d:Sn} {j:Nat} {x:Int} (h:SoS w wx g v (.slice (some ⟨r,0,none⟩) n cap) c d) (o:Own wx w.heap.size (.slice (some ⟨r,0,none⟩) n cap) d.ts) (O:Own (wx.setCell ⟨r,j,none⟩ (.int .i64 x)) w.heap.size (.slice (some ⟨r,0,none⟩) n cap) (d.ts.set j x)):SoS w (wx.setCell ⟨r,j,none⟩ (.int .i64 x)) g v (.slice (some ⟨r,0,none⟩) n cap) c {d with ts:=d.ts.set j x}:=by
 have hne:∀(k:Nat) (cs:Array Value),StB wx k 40 cs->k≠r:=fun k cs hk e=>o.ne hk Fh (by rw[e];rfl)
 exact⟨h.p.other _ _ (hne _ _ h.p),h.q.other _ _ (hne _ _ h.q),h.r.other _ _ (hne _ _ h.r),.inl O,h.b.setCell (o.lt r rfl).1 _,h.l⟩
theorem SoS.cells {w wx:World} {g:Nat} {v u:Value} {c d:Sn} (h:SoS w wx g v u c d) (j:Nat) {x:Value} (e:(snA u d)[j]?=some x):wx.cell? ⟨g,j,none⟩=some x/\wx.frozen? ⟨g,j,none⟩=false:=⟨h.r.cell j e,h.r.frozen j⟩
section
open Go.ChangeShapes Go.WideShapes Go.ChangeAt Go.RowKit
end
section
open Go.ChangeShapes Go.WideShapes Go.ChangeAt Go.RowKit
end
def Sn.unused (c:Sn):Bool:=decide (c.tr=0)&&decide (c.ts.length=0)
theorem Sn.ok_unused {c:Sn} (h:c.unused=true):c.ok=true:=by
 unfold Sn.unused at h;simp only[Bool.and_eq_true,decide_eq_true_eq]at h;unfold Sn.ok;rw[if_pos h.1];simpa using h.2
theorem Sn.ok_used {c:Sn} (h:c.unused=false):c.ok=(inI c.tr 1 100000&&(bj c.ts&&inI c.ts.length 1 8)):=by
 unfold Sn.unused at h;unfold Sn.ok;by_cases e:c.tr=0
 ·rw[if_pos e]
  rw[decide_eq_true e,Bool.true_and]at h;rw[h];have:inI c.tr 1 100000=false:=by rw[e];decide
  rw[this];rfl
 ·rw[if_neg e]
theorem lf (v:Value) (c:Sn) (w:World) (hr:ag w v c.ts):
  Calls Tryz.prog 108 #[SnV v c] w fun e w'=>e=.returned (.bool c.unused)/\iO w w':=by
 have HE:Hid (c.unused=(decide (c.tr=0)&&decide (c.ts.length=0))):=rfl;obtain⟨ao,cap,rfl⟩:=aa hr;obtain⟨x,hx⟩:=Fe c.unused
 rw[<-hx]at HE⊢;obtain⟨n,hn⟩:=Fe c.ts.length
 unfold SnV snA;rw[<-hn]at HE⊢;clear hr hx hn;by_cases ht:c.tr=0
 ·have e1:(c.tr==0)=true:=by simpa using ht
  by_cases hn0:(n:Int)=0
  ·have e4:((n:Int)==0)=true:=by simpa using hn0
   go_enter Tryz.func108,Tryz.ntmps108;go_wp2;go_ret;exact⟨af (by rw[HE.out];simp[ht,(by omega:n=0)]),Fc⟩
  ·have e4:((n:Int)==0)=false:=by simpa using hn0
   go_enter Tryz.func108,Tryz.ntmps108;go_wp2;go_ret;exact⟨af (by rw[HE.out,show decide (n=0)=false from decide_eq_false Ff,Bool.and_false]),Fc⟩
 ·have e1:(c.tr==0)=false:=by simpa using ht
  go_enter Tryz.func108,Tryz.ntmps108;go_wp2;go_ret;exact⟨af (by rw[HE.out];simp[ht]),Fc⟩
theorem tY (v:Value) (c:Sn) (w:World) (hr:ag w v c.ts) (hl:c.ts.length<=1099511627776):
  Calls Tryz.prog 109 #[SnV v c] w fun e w'=>e=.returned (.bool c.ok)/\iO w w':=by
 have HU:Hid (c.unused=true->c.ok=true):=Sn.ok_unused;have HE:Hid (c.unused=false->c.ok=(inI c.tr 1 100000&&(bj c.ts&&inI c.ts.length 1 8))):=Sn.ok_used;obtain⟨w1,hw1⟩:=Fe (w.alloc (.cells (snA v c) 40))
 have H1:StB w1 w.heap.size 40 (snA v c):=by rw[hw1];exact StB.new _ _ _
 have B1:iO w w1:=by rw[hw1];exact Fc
 have cu:=lf v c w1 (hr.below B1 (Nat.le_refl _));have HR:Hid (∀w2,iO w1 w2->ag w2 v c.ts):=fun w2 b=>(hr.below B1 (Nat.le_refl _)).below b (Nat.le_refl _)
 have HS:Hid (∀w2,iO w1 w2->StB w2 w.heap.size 40 (snA v c)/\iO w w2):=fun w2 b=>⟨H1.below b,B1.trans (b.mono B1.size)⟩
 obtain⟨ao,cap,rfl⟩:=aa hr;have HW:Hid (w1=w.alloc (.cells #[.int .i64 c.tr,.slice ao c.ts.length cap] 40)):=hw1;have k0:w1.cell? ⟨w.heap.size,0,none⟩=some (.int .i64 c.tr):=H1.cell 0 rfl;have k1:w1.cell? ⟨w.heap.size,1,none⟩=some (.slice ao c.ts.length cap):=H1.cell 1 rfl;have ct:=fun wx=>ui c.tr wx
 have cs:=fun wx h=>oD (.slice ao c.ts.length cap) c.ts wx h hl
 obtain⟨x,hx⟩:=Fe c.ok
 rw[<-hx]at HE HU⊢;obtain⟨bu,hbu⟩:=Fe c.unused
 rw[<-hbu]at HE HU cu;obtain⟨bt,hbt⟩:=Fe (inI c.tr 1 100000)
 rw[<-hbt]at HE;simp only[<-hbt]at ct;obtain⟨bs,hbs⟩:=Fe ((bj c.ts&&inI c.ts.length 1 8))
 rw[<-hbs]at HE;simp only[<-hbs]at cs;have HCS:Hid _:=cs;unfold SnV snA at cu⊢;clear hw1 H1 hr hx hbu hbt hbs B1 cs;go_enter Tryz.func109,Tryz.ntmps109;go_wp2_with fail
 rw[<-HW.out];refine cu.mono ?_;rintro e w2 ⟨rfl,b2⟩;clear HW cu k0 k1;have HB:Hid (iO w w2):=(HS.out w2 b2).2;have H2:=(HS.out w2 b2).1;have cs:=HCS.out w2 (HR.out w2 b2);have k0:w2.cell? ⟨w.heap.size,0,none⟩=some (.int .i64 c.tr):=H2.cell 0 rfl;have k1:w2.cell? ⟨w.heap.size,1,none⟩=some (.slice ao c.ts.length cap):=H2.cell 1 rfl;clear HCS HS HR H2 b2;cases bu with
 |true=>
  have HX:Hid (x=true):=HU.out rfl;clear HU HE;go_wp2;go_ret;exact⟨af (by rw[HX.out]),HB.out⟩
 |false=>
  have HX:Hid (x=(bt&&bs)):=HE.out rfl;clear HU HE;go_wp2_with fail
  refine Fd (ct _) ?_;clear ct;cases bt with
  |false=>
   go_wp2;go_ret;exact⟨af (by rw[HX.out];rfl),HB.out⟩
  |true=>
   go_wp2_with fail
   refine Fd cs ?_;clear cs;go_wp2;go_ret;exact⟨af (by rw[HX.out];rfl),HB.out⟩
theorem tZ (v:Value) (c:Sn) (w:World) (hr:ag w v c.ts) (hl:c.ts.length<=1099511627776):
  Calls Tryz.prog 75 #[SnV v c] w fun e w'=>∃u,e=.returned (SnV u c)/\bP w' w.heap.size u c.ts/\iO w w':=by
 obtain⟨w1,hw1⟩:=Fe ((w.alloc (.cells (snA v c) 40)).alloc (.cells fw 40))
 have p0:StB w1 w.heap.size 40 (snA v c):=by rw[hw1];exact(StB.new w _ _).alloc _
 have q0:StB w1 (w.heap.size+1) 40 fw:=by
  rw[hw1];have:=StB.new (w.alloc (.cells (snA v c) 40)) 40 fw
  rwa[World.size_alloc]at this
 have b1:iO w w1:=by rw[hw1];exact Fc.alloc Fg _
 have c1:=ol v c.ts w1 (hr.below b1 (Nat.le_refl _)) hl;have hs1:=q0.lt;obtain⟨ao,cap,rfl⟩:=aa hr;have HW:Hid (w1=(w.alloc (.cells #[.int .i64 c.tr,.slice ao c.ts.length cap] 40)).alloc (.cells #[.int .i64 0,.slice none 0 0] 40)):=hw1;have k4:w1.cell? ⟨w.heap.size,1,none⟩=some (.slice ao c.ts.length cap):=p0.cell 1 rfl;clear hw1 hr hl;unfold SnV snA;go_enter Tryz.func75,Tryz.ntmps75;go_wp2_with fail
 rw[<-HW.out];clear HW;refine c1.mono ?_;rintro e w3 ⟨u,rfl,o3,b3⟩;replace p0:=p0.below b3;replace q0:=q0.below b3;have B3:=b1.trans (b3.mono b1.size);obtain⟨ab,cb,rfl⟩:=aa o3.reads;have k0:w3.cell? ⟨w.heap.size,1,none⟩=some (.slice ao c.ts.length cap):=p0.cell 1 rfl;have f0:=p0.frozen 1;have r4:=p0.put 1 (.slice ab c.ts.length cb) (ds:=snA (.slice ab c.ts.length cb) c) rfl;have q4:=q0.other ⟨w.heap.size,1,none⟩ (.slice ab c.ts.length cb) Fg;have HP:Hid (bP (w3.setCell ⟨w.heap.size,1,none⟩ (.slice ab c.ts.length cb)) w1.heap.size (.slice ab c.ts.length cb) c.ts/\iO w (w3.setCell ⟨w.heap.size,1,none⟩ (.slice ab c.ts.length cb))):=⟨o3.setLt Ff 1 _,B3.setCell (Nat.le_refl _) _⟩
 clear k4 p0 q0 c1 o3 b3 b1 B3;go_upto_region 2 with fail
 obtain⟨w4,hw4⟩:=Fe (w3.setCell ⟨w.heap.size,1,none⟩ (.slice ab c.ts.length cb))
 rw[<-hw4]at r4 q4 HP⊢;clear hw4 k0 f0;go_wp2_with (first|(refine ah GS rfl _ rfl w.heap.size rfl (snA (.slice ab c.ts.length cb) c) rfl r4 ?_)|(refine ae GS rfl _ _ rfl (w.heap.size+1) (snA (.slice ab c.ts.length cb) c) fw rfl rfl rfl rfl (sx c rfl) q4 ?_;intro w8 s8 g8))
 refine bodyPost_ret (aj GS rfl _ _ (w.heap.size+1) _ rfl rfl s8) rfl ?_;exact⟨_,rfl,(HP.out.1.keptLt g8 Ff).mono Ff,HP.out.2.grown g8 HP.out.2.size (fun k e=>by cases e;omega)⟩
end Go.Proofs.YthldeiojlllkdaaGreatDoor
