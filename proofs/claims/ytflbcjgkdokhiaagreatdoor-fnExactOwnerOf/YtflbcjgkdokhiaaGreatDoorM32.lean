/- What a law is given, opened: a list of numbers, and a struct of two of them, as the form of claims has them. -/
import Derived.Test.YtflbcjgkdokhiaaGreatDoorM2
import Derived.ShutString
import Derived.ChangeOld
import Derived.Below
import Derived.ChangeSame
import Derived.Test.YtflbcjgkdokhiaaGreatDoorM16
import Derived.Test.YtflbcjgkdokhiaaGreatDoorM24
import Derived.Test.YtflbcjgkdokhiaaGreatDoorM13
import Derived.Test.YtflbcjgkdokhiaaGreatDoorLNode2
import Derived.Test.YtflbcjgkdokhiaaGreatDoorLPost
import Derived.Deep.Slices
import Derived.Test.YtflbcjgkdokhiaaGreatDoorLPair2
namespace Go.Proofs.YtflbcjgkdokhiaaGreatDoor
open Go.ChangeShapes Go.WideShapes Go.ChangeAt Go.RowKit
theorem Tryz.cellsI:Tryz.prog.cellsOf 2=1:=by kernel_rfl
theorem Tryz.cellsL:Tryz.prog.cellsOf 44=1:=by kernel_rfl
theorem open_list {H:Type} {enc:TypeId×Value→H} {w:World} {base:Nat} {held:Bool} {fuel:Nat} {c:Value} {x:DataW H×List MemPlace}
  (h:DataW.trod enc Tryz.prog w base (fun _=>true) held fuel 44 [c]=some x):∃xs,Reads w c xs:=by
 rcases open_ints Tryz.underlying44 Tryz.underlying2 (by kernel_rfl) h with⟨hcs,_⟩|⟨x,l,c',zs,hcs,_,hl,hm,hz,_,hcell,hwz⟩
 ·simp at hcs
  subst hcs
  exact⟨[],none,0,rfl,Nat.le_refl _,⟨Nat.zero_le _,fun _=>rfl⟩,.inl rfl⟩
 ·simp at hcs
  subst hcs
  obtain⟨xs,hl,hr⟩:=reads_row (w:=w) (a:=some x) (len:=l) (cap:=c') (zs:=zs) (.inr ⟨x,rfl,hl,hm,by simpa using hz,hcell,hwz⟩)
  exact⟨xs,hr⟩
theorem Tryz.cellsD:Tryz.prog.cellsOf 62=2:=by kernel_rfl
end Go.Proofs.YtflbcjgkdokhiaaGreatDoor
set_option maxRecDepth 20000
namespace Go.Proofs.YtflbcjgkdokhiaaGreatDoor
open Go.ChangeShapes Go.WideShapes Go.ChangeAt Go.RowKit
theorem Tryz.cellsH:Tryz.prog.cellsOf 63=4:=by kernel_rfl
theorem open_num {H:Type} {enc:TypeId×Value→H} {w:World} {base:Nat} {held:Bool} {fuel:Nat} {c:Value} {x:DataW H×List MemPlace}
  (h:DataW.trod enc Tryz.prog w base (fun _=>true) held fuel 2 [c]=some x):∃n:Int,c=.int .i64 n∧-9223372036854775808≤n∧n≤9223372036854775807:=by
 obtain⟨n,he,_,hw⟩:=DataW.trod_int Tryz.underlying2 h
 simp at he
 exact⟨n,he,by simpa[Lit.wf,IntKind.min,IntKind.max,IntKind.signed,IntKind.bits]using hw⟩
end Go.Proofs.YtflbcjgkdokhiaaGreatDoor
set_option maxRecDepth 20000
namespace Go.Proofs.YtflbcjgkdokhiaaGreatDoor
open Go.ChangeShapes Go.WideShapes Go.ChangeAt Go.RowKit
theorem Tryz.cellsCp:Tryz.prog.cellsOf 65=5:=by kernel_rfl
theorem Tryz.cellsBo:Tryz.prog.cellsOf 4=1:=by kernel_rfl
theorem open_numC {H:Type} {enc:TypeId×Value→H} {w:World} {base:Nat} {held:Bool} {fuel:Nat} {c:Value} {x:DataW H×List MemPlace}
  (h:DataW.trod enc Tryz.prog w base (fun _=>true) held fuel 2 [c]=some x):∃n:Int,c=.int .i64 n:=by
 obtain⟨n,he,_,_⟩:=DataW.trod_int Tryz.underlying2 h
 simp at he
 exact⟨n,he⟩
theorem open_boolC {H:Type} {enc:TypeId×Value→H} {w:World} {base:Nat} {held:Bool} {fuel:Nat} {c:Value} {x:DataW H×List MemPlace}
  (h:DataW.trod enc Tryz.prog w base (fun _=>true) held fuel 4 [c]=some x):∃b:Bool,c=.bool b:=by
 obtain⟨b,he,_⟩:=DataW.trod_bool Tryz.underlying4 h
 simp at he
 exact⟨b,he⟩
end Go.Proofs.YtflbcjgkdokhiaaGreatDoor
namespace Go.Proofs.YtflbcjgkdokhiaaGreatDoor
open Go.ChangeShapes Go.WideShapes Go.ChangeAt Go.RowKit
theorem Tryz.cellsSn:Tryz.prog.cellsOf 66=2:=by kernel_rfl
end Go.Proofs.YtflbcjgkdokhiaaGreatDoor
namespace Go.Proofs.YtflbcjgkdokhiaaGreatDoor
open Go.ChangeShapes Go.WideShapes Go.ChangeAt Go.RowKit
theorem Tryz.cellsR:Tryz.prog.cellsOf 64=4:=by kernel_rfl
end Go.Proofs.YtflbcjgkdokhiaaGreatDoor
set_option maxRecDepth 20000
namespace Go.Proofs.YtflbcjgkdokhiaaGreatDoor
open Go.ChangeShapes Go.WideShapes Go.ChangeAt Go.RowKit
theorem Tryz.cellsNd:Tryz.prog.cellsOf 68=20:=by kernel_rfl
theorem Tryz.cellsSt:Tryz.prog.cellsOf 9=1:=by kernel_rfl
theorem twenty_vals {l:List Value} (h:l.length=20):∃a0 a1 a2 a3 a4 a5 a6 a7 a8 a9 b0 b1 b2 b3 b4 b5 b6 b7 b8 b9,l=[a0,a1,a2,a3,a4,a5,a6,a7,a8,a9,b0,b1,b2,b3,b4,b5,b6,b7,b8,b9]:=by
 match l,h with
 |[a0,a1,a2,a3,a4,a5,a6,a7,a8,a9,b0,b1,b2,b3,b4,b5,b6,b7,b8,b9],_=>exact⟨a0,a1,a2,a3,a4,a5,a6,a7,a8,a9,b0,b1,b2,b3,b4,b5,b6,b7,b8,b9,rfl⟩
theorem open_str {H:Type} {enc:TypeId×Value→H} {w:World} {base:Nat} {held:Bool} {fuel:Nat} {c:Value} {x:DataW H×List MemPlace}
  (h:DataW.trod enc Tryz.prog w base (fun _=>true) held fuel 9 [c]=some x):∃s:Bs,c=S s∧s.length≤maxLen:=by
 obtain⟨s,he,_,hl⟩:=DataW.trod_string Tryz.underlying9 h
 simp at he
 obtain⟨⟨l⟩⟩:=s
 exact⟨l,he,hl⟩
end Go.Proofs.YtflbcjgkdokhiaaGreatDoor
set_option maxRecDepth 20000
set_option maxHeartbeats 2000000
namespace Go.Proofs.YtflbcjgkdokhiaaGreatDoor
open Go.ChangeShapes Go.WideShapes Go.ChangeAt Go.RowKit
theorem Tryz.cellsMg:Tryz.prog.cellsOf 71=11:=by kernel_rfl
theorem eleven_vals {l:List Value} (h:l.length=11):∃a0 a1 a2 a3 a4 a5 a6 a7 a8 a9 b0,l=[a0,a1,a2,a3,a4,a5,a6,a7,a8,a9,b0]:=by
 match l,h with
 |[a0,a1,a2,a3,a4,a5,a6,a7,a8,a9,b0],_=>exact⟨a0,a1,a2,a3,a4,a5,a6,a7,a8,a9,b0,rfl⟩
theorem open_msg {H:Type} {enc:TypeId×Value→H} {w:World} {base:Nat} {held:Bool} {fuel:Nat} {cs:List Value} {x:DataW H×List MemPlace} (hs:cs.length=11)
  (h:DataW.trod enc Tryz.prog w base (fun _=>true) held fuel 71 cs=some x):∃(m:Mg) (u:Value),cs=(mgA u m).toList∧Reads w u m.h.ks:=by
 obtain⟨a0,a1,a2,a3,a4,a5,a6,a7,a8,a9,b0,rfl⟩:=eleven_vals hs
 obtain⟨xs,n,_,_,hl,hlen,hf⟩:=DataW.trod_struct Tryz.underlying71 h
 match xs,hlen with
 |[y0,y1,y2,y3,y4,y5,y6,y7],_=>
  have h0:=hf 0 _ rfl
  have h1:=hf 1 _ rfl
  have h2:=hf 2 _ rfl
  have h3:=hf 3 _ rfl
  have h4:=hf 4 _ rfl
  have h5:=hf 5 _ rfl
  have h6:=hf 6 _ rfl
  have h7:=hf 7 _ rfl
  simp[Tryz.cellsI,Tryz.cellsH]at h0 h1 h2 h3 h4 h5 h6 h7
  obtain⟨n0,rfl,_⟩:=open_num h0
  obtain⟨n1,rfl,_⟩:=open_num h1
  obtain⟨n2,rfl,_⟩:=open_num h2
  obtain⟨n3,rfl,_⟩:=open_num h3
  obtain⟨n4,rfl,_⟩:=open_num h4
  obtain⟨n5,rfl,_⟩:=open_num h5
  obtain⟨n6,rfl,_⟩:=open_num h6
  obtain⟨ts,_,_,_,_,tlen,ht⟩:=DataW.trod_struct Tryz.underlying63 h7
  match ts,tlen with
  |[t0,t1,t2,t3],_=>
   have v0:=ht 0 _ rfl
   have v1:=ht 1 _ rfl
   have v2:=ht 2 _ rfl
   have v3:=ht 3 _ rfl
   simp[Tryz.cellsI,Tryz.cellsL]at v0 v1 v2 v3
   obtain⟨kk,hkk⟩:=open_list v0
   obtain⟨k1,rfl,_⟩:=open_num v1
   obtain⟨k2,rfl,_⟩:=open_num v2
   obtain⟨k3,rfl,_⟩:=open_num v3
   exact⟨⟨n0,n1,n2,n3,n4,n5,n6,⟨kk,k1,k2,k3⟩⟩,a7,rfl,hkk⟩
theorem rows_of {w:World} {a:Addr} (len:Nat) (h:∀i,i<len→∃(m:Mg) (u:Value),Reads w u m.h.ks∧∀k,k<11→w.cell? (a.add (i*11+k))=(mgA u m)[k]?):
  ∃ps:List (Value×Mg),ps.length=len∧∀i,i<len→∃m u,ps[i]?=some (u,m)∧Reads w u m.h.ks∧∀k,k<11→w.cell? (a.add (i*11+k))=(mgA u m)[k]?:=by
 induction len with
 |zero=>exact⟨[],rfl,fun i hi=>absurd hi (Nat.not_lt_zero _)⟩
 |succ n ih=>
  obtain⟨ps,hl,hp⟩:=ih (fun i hi=>h i (Nat.lt_succ_of_lt hi))
  obtain⟨m,u,hr,hc⟩:=h n (Nat.lt_succ_self n)
  refine⟨ps++[(u,m)],by simp[hl],fun i hi=>?_⟩
  rcases Nat.lt_succ_iff_lt_or_eq.1 hi with hlt|rfl
  ·obtain⟨m',u',e,hr',hc'⟩:=hp i hlt
   exact⟨m',u',by rw[List.getElem?_append_left (by omega),e],hr',hc'⟩
  ·exact⟨m,u,by rw[List.getElem?_append_right (by omega),hl,Nat.sub_self];rfl,hr,hc⟩
end Go.Proofs.YtflbcjgkdokhiaaGreatDoor
set_option maxRecDepth 20000
set_option maxHeartbeats 2000000
namespace Go.Proofs.YtflbcjgkdokhiaaGreatDoor
open Go.ChangeShapes Go.WideShapes Go.ChangeAt Go.RowKit
theorem Tryz.cellsEvL:Tryz.prog.cellsOf 76=6:=by kernel_rfl
theorem Tryz.cellsAnL:Tryz.prog.cellsOf 74=2:=by kernel_rfl
theorem Tryz.cellsPrL:Tryz.prog.cellsOf 26=3:=by kernel_rfl
theorem Tryz.cellsNsL:Tryz.prog.cellsOf 22=1:=by kernel_rfl
theorem Tryz.cellsMsL:Tryz.prog.cellsOf 23=1:=by kernel_rfl
theorem Tryz.cellsEsL:Tryz.prog.cellsOf 24=1:=by kernel_rfl
theorem six_vals {l:List Value} (h:l.length=6):∃a0 a1 a2 a3 a4 a5,l=[a0,a1,a2,a3,a4,a5]:=by
 match l,h with
 |[a0,a1,a2,a3,a4,a5],_=>exact⟨a0,a1,a2,a3,a4,a5,rfl⟩
theorem three_vals {l:List Value} (h:l.length=3):∃a0 a1 a2,l=[a0,a1,a2]:=by
 match l,h with
 |[a0,a1,a2],_=>exact⟨a0,a1,a2,rfl⟩
theorem open_event {H:Type} {enc:TypeId×Value→H} {w:World} {base:Nat} {held:Bool} {fuel:Nat} {cs:List Value} {x:DataW H×List MemPlace} (hs:cs.length=6)
  (h:DataW.trod enc Tryz.prog w base (fun _=>true) held fuel 76 cs=some x):∃e:Ev,cs=(evA e).toList∧e.bs.length≤maxLen∧e.an.tx.length≤maxLen:=by
 obtain⟨a0,a1,a2,a3,a4,a5,rfl⟩:=six_vals hs
 obtain⟨xs,n,_,_,hl,hlen,hf⟩:=DataW.trod_struct Tryz.underlying76 h
 match xs,hlen with
 |[y0,y1,y2,y3,y4],_=>
  have h0:=hf 0 _ rfl
  have h1:=hf 1 _ rfl
  have h2:=hf 2 _ rfl
  have h3:=hf 3 _ rfl
  have h4:=hf 4 _ rfl
  simp[Tryz.cellsI,Tryz.cellsSt,Tryz.cellsAnL]at h0 h1 h2 h3 h4
  obtain⟨kd,rfl,_⟩:=open_num h0
  obtain⟨who,rfl,_⟩:=open_num h1
  obtain⟨bs,rfl,hb⟩:=open_str h2
  obtain⟨set,rfl,_⟩:=open_num h4
  obtain⟨ts,_,_,_,_,tlen,ht⟩:=DataW.trod_struct Tryz.underlying74 h3
  match ts,tlen with
  |[t0,t1],_=>
   have v0:=ht 0 _ rfl
   have v1:=ht 1 _ rfl
   simp[Tryz.cellsI,Tryz.cellsSt]at v0 v1
   obtain⟨st,rfl,_⟩:=open_num v0
   obtain⟨tx,rfl,htx⟩:=open_str v1
   exact⟨⟨kd,who,bs,⟨st,tx⟩,set⟩,rfl,hb,htx⟩
theorem open_nodeC {H:Type} {enc:TypeId×Value→H} {w:World} {base:Nat} {held:Bool} {fuel:Nat} {cs:List Value} {x:DataW H×List MemPlace} (hs:cs.length=20)
  (h:DataW.trod enc Tryz.prog w base (fun _=>true) held fuel 68 cs=some x):∃y:Nv,cs=y.A.toList∧y.rd w∧y.n.log.length≤maxLen:=by
 obtain⟨a0,a1,a2,a3,a4,a5,a6,a7,a8,a9,b0,b1,b2,b3,b4,b5,b6,b7,b8,b9,rfl⟩:=twenty_vals hs
 obtain⟨xs,n,_,_,hl,hlen,hf⟩:=DataW.trod_struct Tryz.underlying68 h
 match xs,hlen with
 |[y0,y1,y2,y3,y4,y5,y6,y7],_=>
  have h0:=hf 0 _ rfl
  have h1:=hf 1 _ rfl
  have h2:=hf 2 _ rfl
  have h3:=hf 3 _ rfl
  have h4:=hf 4 _ rfl
  have h5:=hf 5 _ rfl
  have h6:=hf 6 _ rfl
  have h7:=hf 7 _ rfl
  simp[Tryz.cellsI,Tryz.cellsBo,Tryz.cellsSt,Tryz.cellsD,Tryz.cellsH,Tryz.cellsR,Tryz.cellsCp,Tryz.cellsSn]at h0 h1 h2 h3 h4 h5 h6 h7
  obtain⟨id,rfl⟩:=open_numC h0
  obtain⟨up,rfl⟩:=open_boolC h1
  obtain⟨log,rfl,hlog⟩:=open_str h4
  obtain⟨zs,_,_,_,_,zlen,hz⟩:=DataW.trod_struct Tryz.underlying62 h2
  obtain⟨ts,_,_,_,_,tlen,ht⟩:=DataW.trod_struct Tryz.underlying63 h3
  obtain⟨rs,_,_,_,_,rlen,hr⟩:=DataW.trod_struct Tryz.underlying64 h5
  obtain⟨ks,_,_,_,_,klen,hk⟩:=DataW.trod_struct Tryz.underlying65 h6
  obtain⟨ss,_,_,_,_,slen,hss⟩:=DataW.trod_struct Tryz.underlying66 h7
  match zs,zlen,ts,tlen with
  |[z0,z1],_,[t0,t1,t2,t3],_=>
   match rs,rlen,ks,klen with
   |[r0,r1,r2,r3],_,[k0,k1,k2,k3,k4],_=>
    match ss,slen with
    |[s0,s1],_=>
     have u0:=hz 0 _ rfl
     have u1:=hz 1 _ rfl
     have v0:=ht 0 _ rfl
     have v1:=ht 1 _ rfl
     have v2:=ht 2 _ rfl
     have v3:=ht 3 _ rfl
     have c0:=hr 0 _ rfl
     have c1:=hr 1 _ rfl
     have c2:=hr 2 _ rfl
     have c3:=hr 3 _ rfl
     have d0:=hk 0 _ rfl
     have d1:=hk 1 _ rfl
     have d2:=hk 2 _ rfl
     have d3:=hk 3 _ rfl
     have d4:=hk 4 _ rfl
     have e0:=hss 0 _ rfl
     have e1:=hss 1 _ rfl
     simp[Tryz.cellsI,Tryz.cellsL,Tryz.cellsBo]at u0 u1 v0 v1 v2 v3 c0 c1 c2 c3 d0 d1 d2 d3 d4 e0 e1
     obtain⟨xs,hxs⟩:=open_list u0
     obtain⟨ys,hys⟩:=open_list u1
     obtain⟨kk,hkk⟩:=open_list v0
     obtain⟨n1,rfl⟩:=open_numC v1
     obtain⟨n2,rfl⟩:=open_numC v2
     obtain⟨n3,rfl⟩:=open_numC v3
     obtain⟨m0,rfl⟩:=open_numC c0
     obtain⟨m1,rfl⟩:=open_numC c1
     obtain⟨m2,rfl⟩:=open_numC c2
     obtain⟨m3,rfl⟩:=open_numC c3
     obtain⟨o0,rfl⟩:=open_numC d0
     obtain⟨o1,rfl⟩:=open_boolC d1
     obtain⟨o2,rfl⟩:=open_numC d2
     obtain⟨o3,rfl⟩:=open_numC d3
     obtain⟨cts,hcts⟩:=open_list d4
     obtain⟨q0,rfl⟩:=open_numC e0
     obtain⟨sts,hsts⟩:=open_list e1
     exact⟨⟨_,_,_,_,_,⟨id,up,xs,ys,⟨kk,n1,n2,n3⟩,log,⟨m0,m1,m2,m3⟩,⟨o0,o1,o2,o3,cts⟩,⟨q0,sts⟩⟩⟩,rfl,⟨hxs,hys,hkk,hcts,hsts⟩,hlog⟩
theorem rowsE_of {w:World} {a:Addr} (len:Nat) (h:∀i,i<len→∃e:Ev,(e.bs.length≤maxLen∧e.an.tx.length≤maxLen)∧∀k,k<6→w.cell? (a.add (i*6+k))=(evA e)[k]?):
  ∃es:List Ev,es.length=len∧∀i,i<len→∃e,es[i]?=some e∧(e.bs.length≤maxLen∧e.an.tx.length≤maxLen)∧∀k,k<6→w.cell? (a.add (i*6+k))=(evA e)[k]?:=by
 induction len with
 |zero=>exact⟨[],rfl,fun i hi=>absurd hi (Nat.not_lt_zero _)⟩
 |succ n ih=>
  obtain⟨ps,hl,hp⟩:=ih (fun i hi=>h i (Nat.lt_succ_of_lt hi))
  obtain⟨m,hr,hc⟩:=h n (Nat.lt_succ_self n)
  refine⟨ps++[m],by simp[hl],fun i hi=>?_⟩
  rcases Nat.lt_succ_iff_lt_or_eq.1 hi with hlt|rfl
  ·obtain⟨m',e,hr',hc'⟩:=hp i hlt
   exact⟨m',by rw[List.getElem?_append_left (by omega),e],hr',hc'⟩
  ·exact⟨m,by rw[List.getElem?_append_right (by omega),hl,Nat.sub_self];rfl,hr,hc⟩
theorem rowsN_of {w:World} {a:Addr} (len:Nat) (h:∀i,i<len→∃y:Nv,(y.rd w∧y.n.log.length≤maxLen)∧∀k,k<20→w.cell? (a.add (i*20+k))=y.A[k]?):
  ∃ns:List Nv,ns.length=len∧∀i,i<len→∃y,ns[i]?=some y∧(y.rd w∧y.n.log.length≤maxLen)∧∀k,k<20→w.cell? (a.add (i*20+k))=y.A[k]?:=by
 induction len with
 |zero=>exact⟨[],rfl,fun i hi=>absurd hi (Nat.not_lt_zero _)⟩
 |succ n ih=>
  obtain⟨ps,hl,hp⟩:=ih (fun i hi=>h i (Nat.lt_succ_of_lt hi))
  obtain⟨m,hr,hc⟩:=h n (Nat.lt_succ_self n)
  refine⟨ps++[m],by simp[hl],fun i hi=>?_⟩
  rcases Nat.lt_succ_iff_lt_or_eq.1 hi with hlt|rfl
  ·obtain⟨m',e,hr',hc'⟩:=hp i hlt
   exact⟨m',by rw[List.getElem?_append_left (by omega),e],hr',hc'⟩
  ·exact⟨m,by rw[List.getElem?_append_right (by omega),hl,Nat.sub_self];rfl,hr,hc⟩
theorem open_nodesC {H:Type} {enc:TypeId×Value→H} {w:World} {base:Nat} {held:Bool} {fuel:Nat} {v:Value} {x:DataW H×List MemPlace}
  (h:DataW.trod enc Tryz.prog w base (fun _=>true) held fuel 22 [v]=some x):∃ns:List Nv,RdNs w v ns∧∀y∈ns,y.n.log.length≤maxLen:=by
 rcases Go.Deep.open_slice Tryz.underlying22 h with⟨hc,_⟩|⟨a,len,cap,m,n,D,Pl,hc,_,hl,hm,hmm,_,hx⟩
 ·simp at hc
  subst hc
  exact⟨[],(OwnNs.nil w 0).rd,by simp⟩
 ·simp at hc
  subst hc
  rw[if_pos rfl]at hmm
  subst hmm
  rw[Tryz.cellsNd]at hx
  obtain⟨ps,hlen,hp⟩:=rowsN_of (w:=w) (a:=a) len (fun i hi=>by
   obtain⟨cs,hcs,ht⟩:=hx i (by omega)
   obtain⟨_,hsz,hcell⟩:=World.cells?_some hcs
   obtain⟨y,rfl,hr,hlg⟩:=open_nodeC hsz ht
   refine⟨y,⟨hr,hlg⟩,fun k hk=>?_⟩
   have:=hcell k hk
   rw[Go.Deep.add_add]at this
   rw[this]
   simp)
  have hall:∀q∈ps,q.rd w∧q.n.log.length≤maxLen:=fun q hq=>by
   obtain⟨i,hi,e⟩:=List.getElem_of_mem hq
   obtain⟨y,e',hr,_⟩:=hp i (by omega)
   have:q=y:=by rw[List.getElem?_eq_getElem hi,e]at e';exact Option.some.inj e'
   rw[this]
   exact hr
  refine⟨ps,⟨⟨nsC_sz _,?_⟩,fun q hq=>(hall q hq).1⟩,fun q hq=>(hall q hq).2⟩
  refine⟨some a,m,by rw[nsC_len,hlen],by rw[nsC_len,hlen];exact hl,⟨hm,fun e=>by cases e⟩,?_⟩
  rcases Nat.eq_zero_or_pos len with rfl|hpos
  ·exact .inl (by rw[List.eq_nil_of_length_eq_zero hlen];rfl)
  ·obtain⟨b,off,spot⟩:=a
   obtain⟨q,_,_,h0⟩:=hp 0 hpos
   have hspot:spot=none:=by
    have h1:=h0 0 (by decide)
    simpa[Addr.add]using World.cell?_spot h1
   subst hspot
   refine .inr ⟨b,off,rfl,fun j i hj hi=>?_⟩
   rw[nsC_len,hlen]at hj
   obtain⟨q,e,_,hc⟩:=hp j hj
   have hc:=hc i hi
   rw[addr_add]at hc
   rw[hc]
   simp[nsC,List.getD,e]
theorem open_eventsC {H:Type} {enc:TypeId×Value→H} {w:World} {base:Nat} {held:Bool} {fuel:Nat} {v:Value} {x:DataW H×List MemPlace}
  (h:DataW.trod enc Tryz.prog w base (fun _=>true) held fuel 24 [v]=some x):∃es:List Ev,RdE w v es∧∀e∈es,e.bs.length≤maxLen∧e.an.tx.length≤maxLen:=by
 rcases Go.Deep.open_slice Tryz.underlying24 h with⟨hc,_⟩|⟨a,len,cap,m,n,D,Pl,hc,_,hl,hm,hmm,_,hx⟩
 ·simp at hc
  subst hc
  exact⟨[],OwnE.rd (OwnE.nil w 0),by simp⟩
 ·simp at hc
  subst hc
  rw[if_pos rfl]at hmm
  subst hmm
  rw[Tryz.cellsEvL]at hx
  obtain⟨ps,hlen,hp⟩:=rowsE_of (w:=w) (a:=a) len (fun i hi=>by
   obtain⟨cs,hcs,ht⟩:=hx i (by omega)
   obtain⟨_,hsz,hcell⟩:=World.cells?_some hcs
   obtain⟨y,rfl,h1,h2⟩:=open_event hsz ht
   refine⟨y,⟨h1,h2⟩,fun k hk=>?_⟩
   have:=hcell k hk
   rw[Go.Deep.add_add]at this
   rw[this]
   simp)
  have hall:∀q∈ps,q.bs.length≤maxLen∧q.an.tx.length≤maxLen:=fun q hq=>by
   obtain⟨i,hi,e⟩:=List.getElem_of_mem hq
   obtain⟨y,e',hr,_⟩:=hp i (by omega)
   have:q=y:=by rw[List.getElem?_eq_getElem hi,e]at e';exact Option.some.inj e'
   rw[this]
   exact hr
  refine⟨ps,⟨evC_sz _,?_⟩,hall⟩
  refine⟨some a,m,by rw[evC_len,hlen],by rw[evC_len,hlen];exact hl,⟨hm,fun e=>by cases e⟩,?_⟩
  rcases Nat.eq_zero_or_pos len with rfl|hpos
  ·exact .inl (by rw[List.eq_nil_of_length_eq_zero hlen];rfl)
  ·obtain⟨b,off,spot⟩:=a
   obtain⟨q,_,_,h0⟩:=hp 0 hpos
   have hspot:spot=none:=by
    have h1:=h0 0 (by decide)
    simpa[Addr.add]using World.cell?_spot h1
   subst hspot
   refine .inr ⟨b,off,rfl,fun j i hj hi=>?_⟩
   rw[evC_len,hlen]at hj
   obtain⟨q,e,_,hc⟩:=hp j hj
   have hc:=hc i hi
   rw[addr_add]at hc
   rw[hc]
   simp[evC,List.getD,e]
theorem open_postC {H:Type} {enc:TypeId×Value→H} {w:World} {base:Nat} {held:Bool} {fuel:Nat} {v:Value} {x:DataW H×List MemPlace}
  (h:DataW.trod enc Tryz.prog w base (fun _=>true) held fuel 23 [v]=some x):∃ps:List (Value×Mg),RdP w v ps:=by
 rcases Go.Deep.open_slice Tryz.underlying23 h with⟨hc,_⟩|⟨a,len,cap,m,n,D,Pl,hc,_,hl,hm,hmm,_,hx⟩
 ·simp at hc
  subst hc
  exact⟨[],(OwnP.nil w 0).rd⟩
 ·simp at hc
  subst hc
  rw[if_pos rfl]at hmm
  subst hmm
  rw[Tryz.cellsMg]at hx
  obtain⟨ps,hlen,hp⟩:=rows_of (w:=w) (a:=a) len (fun i hi=>by
   obtain⟨cs,hcs,ht⟩:=hx i (by omega)
   obtain⟨_,hsz,hcell⟩:=World.cells?_some hcs
   obtain⟨q,u,rfl,hr⟩:=open_msg hsz ht
   refine⟨q,u,hr,fun k hk=>?_⟩
   have:=hcell k hk
   rw[Go.Deep.add_add]at this
   rw[this]
   simp)
  refine⟨ps,⟨msC_sz _,?_⟩,fun q hq=>?_⟩
  ·refine⟨some a,m,by rw[msC_len,hlen],by rw[msC_len,hlen];exact hl,⟨hm,fun e=>by cases e⟩,?_⟩
   rcases Nat.eq_zero_or_pos len with rfl|hpos
   ·exact .inl (by rw[List.eq_nil_of_length_eq_zero hlen];rfl)
   ·obtain⟨b,off,spot⟩:=a
    obtain⟨q,u,_,_,h0⟩:=hp 0 hpos
    have hspot:spot=none:=by
     have h1:=h0 0 (by decide)
     simpa[Addr.add]using World.cell?_spot h1
    subst hspot
    refine .inr ⟨b,off,rfl,fun j i hj hi=>?_⟩
    rw[msC_len,hlen]at hj
    obtain⟨q,u,e,_,hc⟩:=hp j hj
    have hc:=hc i hi
    rw[addr_add]at hc
    rw[hc]
    simp[msC,List.getD,e]
  ·obtain⟨i,hi,e⟩:=List.getElem_of_mem hq
   obtain⟨q',u',e',hr,_⟩:=hp i (by omega)
   have:q=(u',q'):=by rw[List.getElem?_eq_getElem hi,e]at e';exact Option.some.inj e'
   rw[this]
   exact hr
structure OpPr (w:World) (u v x:Value) (ns:List Nv) (ps:List (Value×Mg)) (es:List Ev):Prop where
 rd:RdPr w u v x ns ps es
 ln:∀y∈ns,y.n.log.length≤maxLen
 le:∀e∈es,e.bs.length≤maxLen∧e.an.tx.length≤maxLen
theorem open_pair {H:Type} {enc:TypeId×Value→H} {w:World} {base b':Nat} {held:Bool} {v:Value} {d:DataW H} {p:List MemPlace}
  (hv:Value.okWide Tryz.prog w .any base 26 v) (h:DataW.Trod enc Tryz.prog w b' (fun _=>true) held 26 v d p):
  ∃(ns:List Nv) (ps:List (Value×Mg)) (es:List Ev) (a b x:Value),v=PrV a b x∧OpPr w a b x ns ps es:=by
 obtain⟨cs,rfl,hsz⟩:=okWide_struct Tryz.underlying26 hv
 rw[Tryz.cellsPrL]at hsz
 obtain⟨l⟩:=cs
 obtain⟨a0,a1,a2,rfl⟩:=three_vals (l:=l) (by simpa using hsz)
 obtain⟨fuel,hf⟩:=h
 obtain⟨xs,n,_,_,hl,hlen,hf⟩:=DataW.trod_struct Tryz.underlying26 hf
 match xs,hlen with
 |[y0,y1,y2],_=>
  have h0:=hf 0 _ rfl
  have h1:=hf 1 _ rfl
  have h2:=hf 2 _ rfl
  simp[Value.cells,Tryz.cellsNsL,Tryz.cellsMsL,Tryz.cellsEsL]at h0 h1 h2
  obtain⟨ns,hn,hln⟩:=open_nodesC h0
  obtain⟨ps,hp⟩:=open_postC h1
  obtain⟨es,he,hle⟩:=open_eventsC h2
  exact⟨ns,ps,es,_,_,_,rfl,⟨hn,hp,he⟩,hln,hle⟩
end Go.Proofs.YtflbcjgkdokhiaaGreatDoor
