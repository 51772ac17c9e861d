/- Rows of houses and rows of events in memory: who reads one, who owns one; a pair as the three of them. -/
import Derived.Test.YthmnmaemnihkeaaGreatDoorM16
import Derived.Test.YthmnmaemnihkeaaGreatDoorM15
import Derived.Test.YthmnmaemnihkeaaGreatDoorLPost
import Derived.Test.YthmnmaemnihkeaaGreatDoorM22
import Derived.Test.YthmnmaemnihkeaaGreatDoorM14
import Derived.Test.YthmnmaemnihkeaaGreatDoorM10
import Derived.Test.YthmnmaemnihkeaaGreatDoorM7
import Derived.Test.YthmnmaemnihkeaaGreatDoorM5
namespace Go.Proofs.YthmnmaemnihkeaaGreatDoor
open Go.ChangeShapes Go.WideShapes Go.ChangeAt Go.RowKit
structure Nv where
 a:Value
 b:Value
 k:Value
 q:Value
 z:Value
 n:Nd
def Nv.A (x:Nv):Array Value:=ndA x.a x.b x.k x.q x.z x.n
def Nv.rd (w:World) (x:Nv):Prop:=RdN w x.a x.b x.k x.q x.z x.n
def Nv.mine (w:World) (base:Nat) (x:Nv):Prop:=MineN w base x.a x.b x.k x.q x.z x.n
def Nv.bl (x:Nv):List Nat:=own5 x.a x.b x.k x.q x.z x.n
def nsC (ns:List Nv):List (Array Value):=ns.map Nv.A
def nsOf (ns:List Nv):List Nd:=ns.map (·.n)
def nsB (ns:List Nv):List Nat:=ns.flatMap Nv.bl
theorem nsC_len (ns:List Nv):(nsC ns).length=ns.length:=by simp[nsC]
theorem nsOf_len (ns:List Nv):(nsOf ns).length=ns.length:=by simp[nsOf]
theorem nsC_sz (ns:List Nv):∀cs∈nsC ns,cs.size=20:=by
 intro cs h
 obtain⟨p,_,rfl⟩:=List.mem_map.1 h
 rfl
theorem nsOf_at {ns:List Nv} {j:Nat} {x:Nv} (e:ns[j]?=some x):(nsOf ns)[j]?=some x.n:=by simp[nsOf,e]
structure RdNs (w:World) (v:Value) (ns:List Nv):Prop where
 row:RdRow w 20 v (nsC ns)
 key:∀x∈ns,x.rd w
theorem RdNs.below {w w':World} {v:Value} {ns:List Nv} (h:RdNs w v ns) (b:Below w.heap.size w w'):RdNs w' v ns:=
 ⟨h.row.below b (Nat.le_refl _),fun x hx=>RdN.below (h.key x hx) b⟩
theorem RdNs.form {w:World} {v:Value} {ns:List Nv} (h:RdNs w v ns):∃ao cap,v=.slice ao ns.length cap:=by
 obtain⟨ao,cap,e⟩:=h.row.form
 rw[nsC_len]at e
 exact⟨ao,cap,e⟩
theorem RdNs.el {w:World} {ao:Option Addr} {n cap:Nat} {ns:List Nv} (h:RdNs w (.slice ao n cap) ns):n=ns.length∧n≤cap∧cap≤maxLen∧
  ∀j,j<n→∃b off x,ns[j]?=some x∧ao=some ⟨b,off,none⟩∧x.rd w∧∀i,i<20→w.cell? ⟨b,off+j*20+i,none⟩=x.A[i]?:=by
 obtain⟨h1,h2,h3,h4⟩:=h.row.el
 rw[nsC_len]at h1
 refine⟨h1,h2,h3,fun j hj=>?_⟩
 obtain⟨b,off,e,_,hc⟩:=h4 j hj
 have hp:ns[j]?=some ns[j]:=List.getElem?_eq_getElem (by omega)
 refine⟨b,off,ns[j],hp,e,h.key _ (List.getElem_mem (by omega)),fun i hi=>?_⟩
 rw[Nat.add_assoc,hc i hi]
 simp[nsC,List.getD,hp]
def SmNs (ns:List Nv):Prop:=∀x∈ns,SmN x.n
theorem SmNs.at {ns:List Nv} (h:SmNs ns) {j:Nat} {x:Nv} (e:ns[j]?=some x):SmN x.n:=h _ (List.mem_of_getElem? e)
structure OwnNs (w:World) (base:Nat) (v:Value) (ns:List Nv):Prop where
 row:OwnRow w base 59 20 v (nsC ns)
 key:∀x∈ns,x.mine w base
 ap:ns.Pairwise fun p q=>∀x∈p.bl,x∉q.bl
theorem OwnNs.rd {w:World} {base:Nat} {v:Value} {ns:List Nv} (h:OwnNs w base v ns):RdNs w v ns:=⟨h.row.rd,fun x hx=>MineN.reads (h.key x hx)⟩
theorem OwnNs.nil (w:World) (base:Nat):OwnNs w base (.slice none 0 0) []:=⟨OwnRow.nil _ _ _ _,by simp,List.Pairwise.nil⟩
def nvB (v:Value) (ns:List Nv):List Nat:=blk v++nsB ns
theorem OwnNs.mono {w:World} {base base':Nat} {v:Value} {ns:List Nv} (h:OwnNs w base v ns) (hb:base'≤base):OwnNs w base' v ns:=⟨h.row.mono hb,fun x hx=>MineN.mono (h.key x hx) hb,h.ap⟩
theorem nsB_in {ns:List Nv} {p:Nv} (hp:p∈ns) {x:Nat} (hx:x∈p.bl):x∈nsB ns:=List.mem_flatMap.2 ⟨p,hp,hx⟩
theorem OwnNs.frame {w w':World} {base:Nat} {v:Value} {ns:List Nv} (h:OwnNs w base v ns) (e:∀x∈nvB v ns,w'.heap[x]?=w.heap[x]?):OwnNs w' base v ns:=
 ⟨h.row.frame (fun x hx=>e x (List.mem_append_left _ hx)),fun p hp=>MineN.frame (h.key p hp) (fun x hx=>e x (List.mem_append_right _ (nsB_in hp hx))),h.ap⟩
theorem OwnNs.lt {w:World} {base:Nat} {v:Value} {ns:List Nv} (h:OwnNs w base v ns):∀x∈nvB v ns,base≤x∧x<w.heap.size:=by
 intro x hx
 rcases List.mem_append.1 hx with hx|hx
 ·exact h.row.lt x hx
 ·obtain⟨p,hp,hx⟩:=List.mem_flatMap.1 hx
  exact MineN.lt (h.key p hp) hx
theorem OwnNs.below {w w':World} {base:Nat} {v:Value} {ns:List Nv} (h:OwnNs w base v ns) (b:Below w.heap.size w w'):OwnNs w' base v ns:=h.frame (fun x hx=>b.block x (h.lt x hx).2)
theorem Own.besides {w:World} {base B:Nat} {t:TypeId} {k:Nat} {u v:Value} {xs:List Int} {css:List (Array Value)} (h:Own w base u xs) (r:OwnRow w B t k v css) (ht:t≠2):∀x∈blk u,x∉blk v:=by
 intro x hx hv
 have hu:u.ownBlock=some x:=by simpa[blk]using hx
 have hv':v.ownBlock=some x:=by simpa[blk]using hv
 rcases h.2 with⟨rfl,_⟩|⟨g,cap,cur,rfl,_,hg,_⟩
 ·simp[Value.ownBlock]at hu
 ·rcases r.ow.2 with⟨rfl,_⟩|⟨g',cap',cur',rfl,_,hg',_⟩
  ·simp[Value.ownBlock]at hv'
  ·simp only[Value.ownBlock,Option.some.injEq]at hu hv'
   subst hu
   subst hv'
   rw[hg]at hg'
   simp only[Option.some.injEq,Obj.cells.injEq]at hg'
   exact ht hg'.2.1.symm
theorem MineN.besides {w:World} {base B:Nat} {t:TypeId} {k:Nat} {v:Value} {x:Nv} {css:List (Array Value)} (h:x.mine w base) (r:OwnRow w B t k v css) (ht:t≠2):∀y∈x.bl,y∉blk v:=by
 intro y hy
 rcases own5_in.1 hy with hy|hy|hy|hy|hy
 ·exact Own.besides (MineN.oa h) r ht y hy
 ·exact Own.besides (MineN.ob h) r ht y hy
 ·exact Own.besides (MineN.ok h) r ht y hy
 ·exact Mine.besides (MineN.oq h) r ht y hy
 ·exact Mine.besides (MineN.oz h) r ht y hy
theorem MineN.keptRow {w w':World} {base B:Nat} {t:TypeId} {k:Nat} {v:Value} {x:Nv} {css:List (Array Value)} (h:x.mine w base) (r:OwnRow w B t k v css) (ht:t≠2) (g:w.grownBy w' v.ownBlock):x.mine w' base:=
 MineN.frame h (fun y hy=>g.block y (MineN.lt h hy).2 (fun e=>MineN.besides h r ht y hy (by simp[blk,←e])))
theorem OwnNs.push {w1 w2 w4:World} {base:Nat} {v v':Value} {x:Nv} {ns:List Nv} {o:Obj} (h:OwnNs w1 base v ns) (hu:x.mine w2 w1.heap.size) (b:Below w1.heap.size w1 w2) (hb:base≤w1.heap.size)
  (hown:w4.ownsRow base 59 20 v' ((nsC ns).length+1) (flatC (nsC ns)++x.A.toList)) (hg:(w2.alloc o).grownBy w4 v.ownBlock):OwnNs w4 base v' (ns++[x]):=by
 have B3:Below w2.heap.size w2 (w2.alloc o):=(Below.refl _ _).alloc (Nat.le_refl _) _
 have h3:=(h.below b).below B3
 have u3:x.mine (w2.alloc o) w1.heap.size:=MineN.below hu B3
 have e:flatC (nsC (ns++[x]))=flatC (nsC ns)++x.A.toList:=by simp[nsC,flatC]
 refine⟨⟨nsC_sz _,?_⟩,?_,?_⟩
 ·rw[e,show(nsC (ns++[x])).length=(nsC ns).length+1 by simp[nsC]]
  exact hown
 ·intro p hp
  rcases List.mem_append.1 hp with hp|hp
  ·exact MineN.keptRow (h3.key p hp) h3.row (by decide) hg
  ·have:p=x:=by simpa using hp
   subst this
   exact MineN.mono (MineN.keptRow u3 h3.row (by decide) hg) hb
 ·refine List.pairwise_append.2 ⟨h.ap,by simp,fun p hp q hq y hy hz=>?_⟩
  have:q=x:=by simpa using hq
  subst this
  have h1:=(MineN.lt (h.key p hp) hy).2
  have h2:=(MineN.lt hu hz).1
  omega
theorem OwnNs.setAt {w1 w2 w4:World} {base j:Nat} {v:Value} {x:Nv} {ns:List Nv} (h:OwnNs w1 base v ns) (hu:x.mine w2 w1.heap.size) (b:Below w1.heap.size w1 w2) (hb:base≤w1.heap.size)
  (hrow:OwnRow w4 base 59 20 v ((nsC ns).set j x.A)) (hg:w2.grownBy w4 v.ownBlock):OwnNs w4 base v (ns.set j x):=by
 have h2:=h.below b
 refine⟨?_,fun p hp=>?_,?_⟩
 ·rw[show nsC (ns.set j x)=(nsC ns).set j x.A by simp[nsC,List.map_set]]
  exact hrow
 ·rcases List.mem_or_eq_of_mem_set hp with hp|rfl
  ·exact MineN.keptRow (h2.key p hp) h2.row (by decide) hg
  ·exact MineN.mono (MineN.keptRow hu h2.row (by decide) hg) hb
 ·refine pairwise_set ns j x h.ap (fun q hq y hx hy=>?_) (fun q hq y hx hy=>?_)
  ·have h1:=(MineN.lt (h.key q hq) hx).2
   have h3:=(MineN.lt hu hy).1
   omega
  ·have h1:=(MineN.lt (h.key q hq) hy).2
   have h3:=(MineN.lt hu hx).1
   omega
def nilN:Nv:=⟨.slice none 0 0,.slice none 0 0,.slice none 0 0,.slice none 0 0,.slice none 0 0,Nd.zero⟩
theorem madeN_flat (n:Nat):(madeCells zeroNd (n*20)).toList=flatC (nsC (List.replicate n nilN)):=by
 have hz:zeroNd.size=20:=rfl
 apply List.ext_getElem?
 intro i
 by_cases hi:i<n*20
 ·have e:i=i/20*20+i%20:=by omega
  have h2:=flatC_at (nsC (List.replicate n nilN)) (nsC_sz _) (i/20) (i%20) (by rw[nsC_len,List.length_replicate];omega) (by omega)
  rw[←e]at h2
  have h3:(nsC (List.replicate n nilN)).getD (i/20) #[]=zeroNd:=by
   have:i/20<n:=by omega
   simp[nsC,List.getD,this]
   rfl
  rw[h2,h3]
  have hlt:i%20<zeroNd.size:=by rw[hz];omega
  have h4:(madeCells zeroNd (n*20)).toList[i]?=some zeroNd[i%20]!:=by simp[madeCells,hi,hz]
  rw[h4,getElem!_pos zeroNd (i%20) hlt,Array.getElem?_eq_getElem hlt]
 ·rw[List.getElem?_eq_none (by rw[Array.length_toList,size_madeCells];omega),List.getElem?_eq_none (by rw[flatC_len _ (nsC_sz _),nsC_len,List.length_replicate];omega)]
theorem OwnNs.made {w w1:World} {n:Nat} {g:Nat} (h:w1.ownsRow w.heap.size 59 20 (.slice (some ⟨g,0,none⟩) n n) n (madeCells zeroNd (n*20)).toList):OwnNs w1 w.heap.size (.slice (some ⟨g,0,none⟩) n n) (List.replicate n nilN):=by
 refine⟨⟨nsC_sz _,?_⟩,fun p hp=>?_,?_⟩
 ·rw[←madeN_flat,nsC_len,List.length_replicate]
  exact h
 ·rw[List.eq_of_mem_replicate hp]
  exact MineN.nil _ _
 ·refine List.pairwise_replicate.2 (.inr ?_)
  intro x hx
  rw[show nilN.bl=[]from by simp[nilN,Nv.bl,own5,blk,Value.ownBlock,mineOf]]at hx
  simp at hx
def evA (e:Ev):Array Value:=#[.int .i64 e.kd,.int .i64 e.who,S e.bs,.int .i64 e.an.st,S e.an.tx,.int .i64 e.set]
theorem evA_one (e:Ev):(evA e).all (·.oneCell')=true:=by simp[evA,S,Value.oneCell']
def evC (es:List Ev):List (Array Value):=es.map evA
theorem evC_len (es:List Ev):(evC es).length=es.length:=by simp[evC]
theorem evC_sz (es:List Ev):∀cs∈evC es,cs.size=6:=by
 intro cs h
 obtain⟨p,_,rfl⟩:=List.mem_map.1 h
 rfl
def Ev.zero:Ev:=⟨0,0,[],⟨0,[]⟩,0⟩
def RdE (w:World) (v:Value) (es:List Ev):Prop:=RdRow w 6 v (evC es)
def OwnE (w:World) (base:Nat) (v:Value) (es:List Ev):Prop:=OwnRow w base 98 6 v (evC es)
theorem RdE.below {w w':World} {v:Value} {es:List Ev} (h:RdE w v es) (b:Below w.heap.size w w'):RdE w' v es:=RdRow.below h b (Nat.le_refl _)
theorem RdE.form {w:World} {v:Value} {es:List Ev} (h:RdE w v es):∃ao cap,v=.slice ao es.length cap:=by
 obtain⟨ao,cap,e⟩:=RdRow.form h
 rw[evC_len]at e
 exact⟨ao,cap,e⟩
theorem RdE.el {w:World} {ao:Option Addr} {n cap:Nat} {es:List Ev} (h:RdE w (.slice ao n cap) es):n=es.length∧n≤cap∧cap≤maxLen∧
  ∀j,j<n→∃b off e,es[j]?=some e∧ao=some ⟨b,off,none⟩∧∀i,i<6→w.cell? ⟨b,off+j*6+i,none⟩=(evA e)[i]?:=by
 obtain⟨h1,h2,h3,h4⟩:=RdRow.el h
 rw[evC_len]at h1
 refine⟨h1,h2,h3,fun j hj=>?_⟩
 obtain⟨b,off,e,_,hc⟩:=h4 j hj
 have hp:es[j]?=some es[j]:=List.getElem?_eq_getElem (by omega)
 refine⟨b,off,es[j],hp,e,fun i hi=>?_⟩
 rw[Nat.add_assoc,hc i hi]
 simp[evC,List.getD,hp]
theorem OwnE.rd {w:World} {base:Nat} {v:Value} {es:List Ev} (h:OwnE w base v es):RdE w v es:=OwnRow.rd h
theorem OwnE.nil (w:World) (base:Nat):OwnE w base (.slice none 0 0) []:=OwnRow.nil _ _ _ _
theorem OwnE.frame {w w':World} {base:Nat} {v:Value} {es:List Ev} (h:OwnE w base v es) (e:∀x∈blk v,w'.heap[x]?=w.heap[x]?):OwnE w' base v es:=OwnRow.frame h e
theorem OwnE.lt {w:World} {base:Nat} {v:Value} {es:List Ev} (h:OwnE w base v es):∀x∈blk v,base≤x∧x<w.heap.size:=OwnRow.lt h
theorem OwnE.below {w w':World} {base:Nat} {v:Value} {es:List Ev} (h:OwnE w base v es) (b:Below w.heap.size w w'):OwnE w' base v es:=OwnRow.below h b
theorem OwnE.mono {w:World} {base base':Nat} {v:Value} {es:List Ev} (h:OwnE w base v es) (hb:base'≤base):OwnE w base' v es:=OwnRow.mono h hb
def totE (es:List Ev):Nat:=(es.map fun e=>e.bs.length+e.an.tx.length).sum
def zeroEv:Array Value:=#[.int .i64 0,.int .i64 0,.string ⟨#[]⟩,.int .i64 0,.string ⟨#[]⟩,.int .i64 0]
theorem madeE_flat (n:Nat):(madeCells zeroEv (n*6)).toList=flatC (evC (List.replicate n Ev.zero)):=by
 have hz:zeroEv.size=6:=rfl
 apply List.ext_getElem?
 intro i
 by_cases hi:i<n*6
 ·have e:i=i/6*6+i%6:=by omega
  have h2:=flatC_at (evC (List.replicate n Ev.zero)) (evC_sz _) (i/6) (i%6) (by rw[evC_len,List.length_replicate];omega) (by omega)
  rw[←e]at h2
  have h3:(evC (List.replicate n Ev.zero)).getD (i/6) #[]=zeroEv:=by
   have:i/6<n:=by omega
   simp[evC,List.getD,this]
   rfl
  rw[h2,h3]
  have hlt:i%6<zeroEv.size:=by rw[hz];omega
  have h4:(madeCells zeroEv (n*6)).toList[i]?=some zeroEv[i%6]!:=by simp[madeCells,hi,hz]
  rw[h4,getElem!_pos zeroEv (i%6) hlt,Array.getElem?_eq_getElem hlt]
 ·rw[List.getElem?_eq_none (by rw[Array.length_toList,size_madeCells];omega),List.getElem?_eq_none (by rw[flatC_len _ (evC_sz _),evC_len,List.length_replicate];omega)]
theorem OwnE.made {w w1:World} {n:Nat} {g:Nat} (h:w1.ownsRow w.heap.size 98 6 (.slice (some ⟨g,0,none⟩) n n) n (madeCells zeroEv (n*6)).toList):OwnE w1 w.heap.size (.slice (some ⟨g,0,none⟩) n n) (List.replicate n Ev.zero):=by
 refine⟨evC_sz _,?_⟩
 rw[←madeE_flat,evC_len,List.length_replicate]
 exact h
theorem OwnE.setAt {w4:World} {base j:Nat} {v:Value} {e:Ev} {es:List Ev} (hrow:OwnRow w4 base 98 6 v ((evC es).set j (evA e))):OwnE w4 base v (es.set j e):=by
 show OwnRow w4 base _ 6 v (evC (es.set j e))
 rw[show evC (es.set j e)=(evC es).set j (evA e) by simp[evC,List.map_set]]
 exact hrow
def EvI (v:Value) (es:List Ev):Item:=⟨blk v,0,fun w=>OwnE w 0 v es,fun _ _ e _ h=>h.frame e⟩
theorem Sta.events {w wx wy:World} {L:List Item} {v:Value} {es:List Ev} (h:Sta w wx L) (o:OwnE wy wx.heap.size v es) (b:Below wx.heap.size wx wy):Sta w wy (EvI v es::L):=
 h.add b (EvI v es) (o.mono (Nat.zero_le _)) o.lt
structure Pa where
 ns:List Nd
 ms:List Mg
 es:List Ev
def prA (u v x:Value):Array Value:=#[u,v,x]
def PrV (u v x:Value):Value:=.agg (prA u v x)
theorem Tryz.isPr:IsS 40 3:=⟨⟨_,Tryz.underlying40⟩,by kernel_rfl⟩
structure RdPr (w:World) (u v x:Value) (ns:List Nv) (ps:List (Value×Mg)) (es:List Ev):Prop where
 rn:RdNs w u ns
 rp:RdP w v ps
 re:RdE w x es
theorem RdPr.below {w w':World} {u v x:Value} {ns:List Nv} {ps:List (Value×Mg)} {es:List Ev} (h:RdPr w u v x ns ps es) (b:Below w.heap.size w w'):RdPr w' u v x ns ps es:=⟨h.rn.below b,h.rp.below b,h.re.below b⟩
end Go.Proofs.YthmnmaemnihkeaaGreatDoor
namespace Go.Proofs.YthmnmaemnihkeaaGreatDoor
open Go.ChangeShapes Go.WideShapes Go.ChangeAt Go.RowKit
theorem Turned.sub {w w':World} {bs cs:List Nat} (h:Turned w w' bs) (hs:∀b∈bs,b∈cs):Turned w w' cs:=
 ⟨h.os,h.tape,h.output,h.size,fun k hk hn=>h.block k hk (fun e=>hn (hs k e))⟩
theorem Turned.then {w w' w'':World} {bs:List Nat} (h:Turned w w' bs) (h':Turned w' w'' bs):Turned w w'' bs:=(h.trans h').sub (by simp)
theorem Turned.below {w w':World} (bs:List Nat) (h:Below w.heap.size w w'):Turned w w' bs:=(Turned.of_below h).sub (by simp)
theorem Turned.belowAt {B:Nat} {w w':World} {bs:List Nat} (h:Turned w w' bs) (hb:∀b∈bs,B≤b) (hB:B≤w.heap.size):Below B w w':=
 ⟨h.os,h.tape,h.output,h.size,fun k hk=>h.block k (Nat.lt_of_lt_of_le hk hB) (fun e=>by have:=hb k e;omega)⟩
theorem Own.up {w:World} {base base':Nat} {v:Value} {xs:List Int} (h:Own w base v xs) (hb:∀k,v.ownBlock=some k→base'≤k):Own w base' v xs:=by
 refine⟨h.1,?_⟩
 rcases h.2 with h'|⟨g,cap,cur,rfl,hg,r⟩
 ·exact .inl h'
 ·exact .inr ⟨g,cap,cur,rfl,hb g rfl,r⟩
theorem StB.turned {w w':World} {g:Nat} {t:TypeId} {cs:Array Value} {bs:List Nat} (h:StB w g t cs) (ht:Turned w w' bs) (hn:g∉bs):StB w' g t cs:=(ht.block g h.lt hn).trans h
structure CpB (w:World) (g off:Nat) (t:TypeId) (cs:Array Value) (v:Value) (c:Cp):Prop where
 st:StB w g t cs
 i0:cs[off]?=some (.int .i64 c.tr)
 i1:cs[off+1]?=some (.bool c.op)
 i2:cs[off+2]?=some (.int .i64 c.di)
 i3:cs[off+3]?=some (.int .i64 c.wa)
 i4:cs[off+4]?=some v
 own:Own w 0 v c.ts
 ne:v.ownBlock≠some g
def cpPut (cs:Array Value) (off:Nat) (d w:Int):Array Value:=(cs.setIfInBounds (off+2) (.int .i64 d)).setIfInBounds (off+3) (.int .i64 w)
theorem put_same {cs:Array Value} {j:Nat} {x:Value} (h:cs[j]?=some x):cs.setIfInBounds j x=cs:=by
 apply Array.ext_getElem?
 intro i
 rw[Array.getElem?_setIfInBounds]
 split
 ·rename_i e;subst e
  have hlt:j<cs.size:=by
   rcases Nat.lt_or_ge j cs.size with hlt|hge
   ·exact hlt
   ·rw[Array.getElem?_eq_none hge]at h;cases h
  simp[hlt]at h⊢
  exact h.symm
 ·rfl
theorem cpPut_same {cs:Array Value} {off:Nat} {d w:Int} (h2:cs[off+2]?=some (.int .i64 d)) (h3:cs[off+3]?=some (.int .i64 w)):cpPut cs off d w=cs:=by
 unfold cpPut
 rw[put_same h2,put_same h3]
theorem CpB.below {w w':World} {g off:Nat} {t:TypeId} {cs:Array Value} {v:Value} {c:Cp} (h:CpB w g off t cs v c) (b:Below w.heap.size w w'):CpB w' g off t cs v c:=
 ⟨h.st.below b,h.i0,h.i1,h.i2,h.i3,h.i4,h.own.below b,h.ne⟩
theorem CpB.same {w:World} {g off:Nat} {t:TypeId} {cs:Array Value} {v:Value} {c:Cp} (h:CpB w g off t cs v c):CpB w g off t (cpPut cs off c.di c.wa) v c:=by
 rw[cpPut_same h.i2 h.i3];exact h
theorem CpB.cell {w:World} {g off:Nat} {t:TypeId} {cs:Array Value} {v:Value} {c:Cp} (h:CpB w g off t cs v c):
  w.cell? ⟨g,off,none⟩=some (.int .i64 c.tr)∧w.cell? ⟨g,off+1,none⟩=some (.bool c.op)∧w.cell? ⟨g,off+2,none⟩=some (.int .i64 c.di)∧w.cell? ⟨g,off+3,none⟩=some (.int .i64 c.wa)∧w.cell? ⟨g,off+4,none⟩=some v:=
 ⟨h.st.cell off h.i0,h.st.cell _ h.i1,h.st.cell _ h.i2,h.st.cell _ h.i3,h.st.cell _ h.i4⟩
end Go.Proofs.YthmnmaemnihkeaaGreatDoor
set_option maxRecDepth 20000
set_option maxHeartbeats 2000000
namespace Go.Proofs.YthmnmaemnihkeaaGreatDoor
open Go.ChangeShapes Go.WideShapes Go.ChangeAt Go.RowKit
theorem szCopier_any (v:Value) (c:Cp) (k:Int) (w:World) (hr:Reads w v c.ts) (h0:0≤k) (h1:k≤1048576):
  Calls Tryz.prog 63 #[CpV v c,.int .i64 k] w fun e w'=>e=.returned (.int .i64 (szI k c.ts.length))∧Below w.heap.size w w':=by
 have B1:Below w.heap.size w (w.alloc (.cells (cpA v c) 81)):=(Below.refl _ _).alloc (Nat.le_refl _) _
 have c1:=sz_any v c.ts k _ (hr.below B1 (Nat.le_refl _)) h0 h1
 have hs:szI k c.ts.length= -1∨0≤szI k c.ts.length:=by unfold szI;split<;>omega
 obtain⟨x,hx⟩:∃x,x=szI k c.ts.length:=⟨_,rfl⟩
 rw[←hx]at c1 hs⊢
 obtain⟨ao,cap,rfl⟩:=reads_form hr
 clear hx hr
 unfold CpV cpA at*
 rcases hs with hs|hs
 ·subst hs
  go_enter Tryz.func63,Tryz.ntmps63
  go_wp2_with fail
  refine c1.mono ?_
  rintro e w' ⟨rfl,hw⟩;subst w'
  go_wp2
  go_ret
  exact⟨rfl,B1⟩
 ·go_enter Tryz.func63,Tryz.ntmps63
  go_wp2_with fail
  refine c1.mono ?_
  rintro e w' ⟨rfl,hw⟩;subst w'
  go_wp2
  go_ret
  exact⟨rfl,B1⟩
theorem toCopier_any (v:Value) (c:Cp) (w:World) (hr:Reads w v c.ts) (hl:c.ts.length≤1099511627776):
  Calls Tryz.prog 80 #[CpV v c] w fun e w'=>∃u,e=.returned (CpV u c)∧Own w' w.heap.size u c.ts∧Below w.heap.size w w':=by
 obtain⟨w1,hw1⟩:∃w1,w1=((w.alloc (.cells (cpA v c) 81)).alloc (.cells zeroCp 55)).alloc (.cells #[.int .i64 c.tr,.bool c.op,.int .i64 c.di,.int .i64 c.wa,.slice none 0 0] 55):=⟨_,rfl⟩
 have q0:StB w1 (w.heap.size+1) 55 zeroCp:=by
  rw[hw1]
  have:=(StB.new (w.alloc (.cells (cpA v c) 81)) 55 zeroCp).alloc (.cells #[.int .i64 c.tr,.bool c.op,.int .i64 c.di,.int .i64 c.wa,.slice none 0 0] 55)
  rwa[World.size_alloc]at this
 have r0:StB w1 (w.heap.size+1+1) 55 #[.int .i64 c.tr,.bool c.op,.int .i64 c.di,.int .i64 c.wa,.slice none 0 0]:=by
  rw[hw1]
  have:=StB.new ((w.alloc (.cells (cpA v c) 81)).alloc (.cells zeroCp 55)) 55 #[.int .i64 c.tr,.bool c.op,.int .i64 c.di,.int .i64 c.wa,.slice none 0 0]
  rwa[World.size_alloc,World.size_alloc]at this
 have b1:Below w.heap.size w w1:=by rw[hw1];exact(((Below.refl _ _).alloc (Nat.le_refl _) _).alloc (by simp) _).alloc (by simp;omega) _
 have c1:=to_any v c.ts w1 (hr.below b1 (Nat.le_refl _)) hl
 have hs1:=r0.lt
 obtain⟨ao,cap,rfl⟩:=reads_form hr
 have HW:Hid (w1=((w.alloc (.cells #[.int .i64 c.tr,.bool c.op,.int .i64 c.di,.int .i64 c.wa,.slice ao c.ts.length cap] 81)).alloc (.cells #[.int .i64 0,.bool false,.int .i64 0,.int .i64 0,.slice none 0 0] 55)).alloc (.cells #[.int .i64 c.tr,.bool c.op,.int .i64 c.di,.int .i64 c.wa,.slice none 0 0] 55)):=hw1
 clear hw1 hr hl
 unfold CpV
 conv in cpA (.slice ao c.ts.length cap) c=>unfold cpA
 go_enter Tryz.func80,Tryz.ntmps80
 go_wp2_with fail
 rw[←HW.out]
 clear HW
 refine c1.mono ?_
 rintro e w3 ⟨u,rfl,o3,b3⟩
 replace q0:=q0.below b3
 replace r0:=r0.below b3
 have B3:=b1.trans (b3.mono b1.size)
 obtain⟨ab,cb,rfl⟩:=reads_form o3.reads
 have m4:w3.cell? ⟨w.heap.size+1+1,4,none⟩=some (.slice none 0 0):=r0.cell 4 rfl
 have f4:=r0.frozen 4
 have R4:=r0.put 4 (.slice ab c.ts.length cb) (ds:=cpA (.slice ab c.ts.length cb) c) rfl
 have Q4:=q0.other ⟨w.heap.size+1+1,4,none⟩ (.slice ab c.ts.length cb) (by simp)
 have HP:Hid (Own (w3.setCell ⟨w.heap.size+1+1,4,none⟩ (.slice ab c.ts.length cb)) w1.heap.size (.slice ab c.ts.length cb) c.ts∧Below w.heap.size w (w3.setCell ⟨w.heap.size+1+1,4,none⟩ (.slice ab c.ts.length cb))):=⟨o3.setLt (by omega) 4 _,B3.setCell (by simp;omega) _⟩
 clear q0 r0 c1 o3 b3 b1 B3
 go_upto_region 7 with fail
 obtain⟨w4,hw4⟩:∃w4,w4=w3.setCell ⟨w.heap.size+1+1,4,none⟩ (.slice ab c.ts.length cb):=⟨_,rfl⟩
 rw[←hw4]at R4 Q4 HP⊢
 clear hw4 m4 f4
 go_wp2_with (first|(refine wpList_getS Tryz.isCp rfl _ rfl (w.heap.size+1+1) rfl (cpA (.slice ab c.ts.length cb) c) rfl R4 ?_)|(refine wpList_putS Tryz.isCp rfl _ _ rfl (w.heap.size+1) (cpA (.slice ab c.ts.length cb) c) zeroCp rfl rfl rfl rfl (cpA_one c rfl) Q4 ?_;intro w8 s8 g8))
 refine bodyPost_ret (results_S Tryz.isCp rfl _ _ (w.heap.size+1) _ rfl rfl s8) rfl ?_
 exact⟨_,rfl,(HP.out.1.keptLt g8 (by omega)).mono (by omega),HP.out.2.grown g8 HP.out.2.size (fun k e=>by cases e;omega)⟩
theorem eqCopier_any (u v:Value) (c:Cp) (w:World) (hu:Reads w u c.ts) (hv:Reads w v c.ts) (hl:c.ts.length≤1099511627776):
  Calls Tryz.prog 89 #[CpV u c,CpV v c] w fun e w'=>e=.returned (.bool true)∧Below w.heap.size w w':=by
 obtain⟨w1,hw1⟩:∃w1,w1=(w.alloc (.cells (cpA u c) 55)).alloc (.cells (cpA v c) 55):=⟨_,rfl⟩
 have HB:Hid (Below w.heap.size w w1):=by rw[hw1];exact((Below.refl _ _).alloc (Nat.le_refl _) _).alloc (by simp) _
 have c1:=eq_any u v c.ts c.ts w1 (hu.below HB.out (Nat.le_refl _)) (hv.below HB.out (Nat.le_refl _)) hl
 rw[show decide (c.ts=c.ts)=true by simp]at c1
 obtain⟨ao,ca,rfl⟩:=reads_form hu
 obtain⟨bo,cb,rfl⟩:=reads_form hv
 have HW:Hid (w1=(w.alloc (.cells #[.int .i64 c.tr,.bool c.op,.int .i64 c.di,.int .i64 c.wa,.slice ao c.ts.length ca] 55)).alloc (.cells #[.int .i64 c.tr,.bool c.op,.int .i64 c.di,.int .i64 c.wa,.slice bo c.ts.length cb] 55)):=hw1
 clear hw1 hu hv hl
 unfold CpV cpA
 go_enter Tryz.func89,Tryz.ntmps89
 go_wp2_with fail
 rw[←HW.out]
 clear HW
 refine c1.mono ?_
 rintro e w3 ⟨rfl,n3,hw3⟩
 have B3:Hid (Below w.heap.size w w3):=by rw[hw3];exact below_drewN HB.out n3
 clear hw3 c1 HB
 go_wp2
 go_ret
 exact⟨rfl,B3.out⟩
end Go.Proofs.YthmnmaemnihkeaaGreatDoor
set_option maxRecDepth 20000
set_option maxHeartbeats 400000
namespace Go.Proofs.YthmnmaemnihkeaaGreatDoor
open Go.ChangeShapes Go.WideShapes Go.ChangeAt Go.RowKit
theorem mark0_any (v:Value) (k:Int) (w:World) (h:Reads w v []):
  Calls Tryz.prog 58 #[v,.int .i64 k] w fun e w'=>e=.returned (.int .i64 k)∧w'=w:=by
 obtain⟨ao,cap,e⟩:=reads_form h
 simp only[List.length_nil]at e
 subst e
 clear h
 go_enter Tryz.func58,Tryz.ntmps58
 go_wp2
 go_loop [1,5] (fun q i=>i=.int .i64 0∧q=.int .i64 k) (fun _ _=>0)
 case atStart=>exact⟨rfl,rfl⟩
 case round=>
  obtain⟨rfl,rfl⟩:=hrel
  go_wp2
  go_ret
  exact⟨rfl,rfl⟩
end Go.Proofs.YthmnmaemnihkeaaGreatDoor
namespace Go.Proofs.YthmnmaemnihkeaaGreatDoor
open Go.ChangeShapes Go.WideShapes Go.ChangeAt Go.RowKit
end Go.Proofs.YthmnmaemnihkeaaGreatDoor
set_option maxRecDepth 20000
set_option maxHeartbeats 2000000
namespace Go.Proofs.YthmnmaemnihkeaaGreatDoor
open Go.ChangeShapes Go.WideShapes Go.ChangeAt Go.RowKit
theorem szSink_any (v:Value) (c:Sn) (k:Int) (w:World) (hr:Reads w v c.ts) (h0:0≤k) (h1:k≤1048576):
  Calls Tryz.prog 64 #[SnV v c,.int .i64 k] w fun e w'=>e=.returned (.int .i64 (szI k c.ts.length))∧Below w.heap.size w w':=by
 have B1:Below w.heap.size w (w.alloc (.cells (snA v c) 82)):=(Below.refl _ _).alloc (Nat.le_refl _) _
 have c1:=sz_any v c.ts k _ (hr.below B1 (Nat.le_refl _)) h0 h1
 have hs:szI k c.ts.length= -1∨0≤szI k c.ts.length:=by unfold szI;split<;>omega
 obtain⟨x,hx⟩:∃x,x=szI k c.ts.length:=⟨_,rfl⟩
 rw[←hx]at c1 hs⊢
 obtain⟨ao,cap,rfl⟩:=reads_form hr
 clear hx hr
 unfold SnV snA at*
 rcases hs with hs|hs
 ·subst hs
  go_enter Tryz.func64,Tryz.ntmps64
  go_wp2_with fail
  refine c1.mono ?_
  rintro e w' ⟨rfl,hw⟩;subst w'
  go_wp2
  go_ret
  exact⟨rfl,B1⟩
 ·go_enter Tryz.func64,Tryz.ntmps64
  go_wp2_with fail
  refine c1.mono ?_
  rintro e w' ⟨rfl,hw⟩;subst w'
  go_wp2
  go_ret
  exact⟨rfl,B1⟩
theorem toSink_any (v:Value) (c:Sn) (w:World) (hr:Reads w v c.ts) (hl:c.ts.length≤1099511627776):
  Calls Tryz.prog 81 #[SnV v c] w fun e w'=>∃u,e=.returned (SnV u c)∧Own w' w.heap.size u c.ts∧Below w.heap.size w w':=by
 obtain⟨w1,hw1⟩:∃w1,w1=((w.alloc (.cells (snA v c) 82)).alloc (.cells zeroSn 57)).alloc (.cells #[.int .i64 c.tr,.slice none 0 0] 57):=⟨_,rfl⟩
 have q0:StB w1 (w.heap.size+1) 57 zeroSn:=by
  rw[hw1]
  have:=(StB.new (w.alloc (.cells (snA v c) 82)) 57 zeroSn).alloc (.cells #[.int .i64 c.tr,.slice none 0 0] 57)
  rwa[World.size_alloc]at this
 have r0:StB w1 (w.heap.size+1+1) 57 #[.int .i64 c.tr,.slice none 0 0]:=by
  rw[hw1]
  have:=StB.new ((w.alloc (.cells (snA v c) 82)).alloc (.cells zeroSn 57)) 57 #[.int .i64 c.tr,.slice none 0 0]
  rwa[World.size_alloc,World.size_alloc]at this
 have b1:Below w.heap.size w w1:=by rw[hw1];exact(((Below.refl _ _).alloc (Nat.le_refl _) _).alloc (by simp) _).alloc (by simp;omega) _
 have c1:=to_any v c.ts w1 (hr.below b1 (Nat.le_refl _)) hl
 have hs1:=r0.lt
 obtain⟨ao,cap,rfl⟩:=reads_form hr
 have HW:Hid (w1=((w.alloc (.cells #[.int .i64 c.tr,.slice ao c.ts.length cap] 82)).alloc (.cells #[.int .i64 0,.slice none 0 0] 57)).alloc (.cells #[.int .i64 c.tr,.slice none 0 0] 57)):=hw1
 clear hw1 hr hl
 unfold SnV
 conv in snA (.slice ao c.ts.length cap) c=>unfold snA
 go_enter Tryz.func81,Tryz.ntmps81
 go_wp2_with fail
 rw[←HW.out]
 clear HW
 refine c1.mono ?_
 rintro e w3 ⟨u,rfl,o3,b3⟩
 replace q0:=q0.below b3
 replace r0:=r0.below b3
 have B3:=b1.trans (b3.mono b1.size)
 obtain⟨ab,cb,rfl⟩:=reads_form o3.reads
 have m4:w3.cell? ⟨w.heap.size+1+1,1,none⟩=some (.slice none 0 0):=r0.cell 1 rfl
 have f4:=r0.frozen 1
 have R4:=r0.put 1 (.slice ab c.ts.length cb) (ds:=snA (.slice ab c.ts.length cb) c) rfl
 have Q4:=q0.other ⟨w.heap.size+1+1,1,none⟩ (.slice ab c.ts.length cb) (by simp)
 have HP:Hid (Own (w3.setCell ⟨w.heap.size+1+1,1,none⟩ (.slice ab c.ts.length cb)) w1.heap.size (.slice ab c.ts.length cb) c.ts∧Below w.heap.size w (w3.setCell ⟨w.heap.size+1+1,1,none⟩ (.slice ab c.ts.length cb))):=⟨o3.setLt (by omega) 1 _,B3.setCell (by simp;omega) _⟩
 clear q0 r0 c1 o3 b3 b1 B3
 go_upto_region 4 with fail
 obtain⟨w4,hw4⟩:∃w4,w4=w3.setCell ⟨w.heap.size+1+1,1,none⟩ (.slice ab c.ts.length cb):=⟨_,rfl⟩
 rw[←hw4]at R4 Q4 HP⊢
 clear hw4 m4 f4
 go_wp2_with (first|(refine wpList_getS Tryz.isSn rfl _ rfl (w.heap.size+1+1) rfl (snA (.slice ab c.ts.length cb) c) rfl R4 ?_)|(refine wpList_putS Tryz.isSn rfl _ _ rfl (w.heap.size+1) (snA (.slice ab c.ts.length cb) c) zeroSn rfl rfl rfl rfl (snA_one c rfl) Q4 ?_;intro w8 s8 g8))
 refine bodyPost_ret (results_S Tryz.isSn rfl _ _ (w.heap.size+1) _ rfl rfl s8) rfl ?_
 exact⟨_,rfl,(HP.out.1.keptLt g8 (by omega)).mono (by omega),HP.out.2.grown g8 HP.out.2.size (fun k e=>by cases e;omega)⟩
theorem eqSink_any (u v:Value) (c:Sn) (w:World) (hu:Reads w u c.ts) (hv:Reads w v c.ts) (hl:c.ts.length≤1099511627776):
  Calls Tryz.prog 90 #[SnV u c,SnV v c] w fun e w'=>e=.returned (.bool true)∧Below w.heap.size w w':=by
 obtain⟨w1,hw1⟩:∃w1,w1=(w.alloc (.cells (snA u c) 57)).alloc (.cells (snA v c) 57):=⟨_,rfl⟩
 have HB:Hid (Below w.heap.size w w1):=by rw[hw1];exact((Below.refl _ _).alloc (Nat.le_refl _) _).alloc (by simp) _
 have c1:=eq_any u v c.ts c.ts w1 (hu.below HB.out (Nat.le_refl _)) (hv.below HB.out (Nat.le_refl _)) hl
 rw[show decide (c.ts=c.ts)=true by simp]at c1
 obtain⟨ao,ca,rfl⟩:=reads_form hu
 obtain⟨bo,cb,rfl⟩:=reads_form hv
 have HW:Hid (w1=(w.alloc (.cells #[.int .i64 c.tr,.slice ao c.ts.length ca] 57)).alloc (.cells #[.int .i64 c.tr,.slice bo c.ts.length cb] 57)):=hw1
 clear hw1 hu hv hl
 unfold SnV snA
 go_enter Tryz.func90,Tryz.ntmps90
 go_wp2_with fail
 rw[←HW.out]
 clear HW
 refine c1.mono ?_
 rintro e w3 ⟨rfl,n3,hw3⟩
 have B3:Hid (Below w.heap.size w w3):=by rw[hw3];exact below_drewN HB.out n3
 clear hw3 c1 HB
 go_wp2
 go_ret
 exact⟨rfl,B3.out⟩
end Go.Proofs.YthmnmaemnihkeaaGreatDoor
namespace Go.Proofs.YthmnmaemnihkeaaGreatDoor
open Go.ChangeShapes Go.WideShapes Go.ChangeAt Go.RowKit
end Go.Proofs.YthmnmaemnihkeaaGreatDoor
namespace Go.Proofs.YthmnmaemnihkeaaGreatDoor
open Go.ChangeShapes Go.WideShapes Go.ChangeAt Go.RowKit
def Dsk (u v:Value) (xs ys:List Int):Item:=⟨u.ownBlock.toList++v.ownBlock.toList,0,fun w=>OwnD w 0 u v xs ys,fun _ _ e _ h=>⟨h.1.frame (fun b hb=>e b (List.mem_append_left _ hb)),h.2.1.frame (fun b hb=>e b (List.mem_append_right _ hb)),h.2.2⟩⟩
theorem Sta.disk {w wx wy:World} {L:List Item} {u v:Value} {xs ys:List Int} (h:Sta w wx L) (o:OwnD wy wx.heap.size u v xs ys) (b:Below wx.heap.size wx wy):Sta w wy (Dsk u v xs ys::L):=
 h.add b (Dsk u v xs ys) ⟨o.1.mono (Nat.zero_le _),o.2.1.mono (Nat.zero_le _),o.2.2⟩ (fun k hk=>by
  simp only[Dsk,List.mem_append,Option.mem_toList]at hk
  rcases hk with hk|hk
  ·exact o.1.lt k hk
  ·exact o.2.1.lt k hk)
theorem Marked.turned {w w':World} {u v:Value} (h:Marked w w' u v):Turned w w' (u.ownBlock.toList++v.ownBlock.toList):=by
 obtain⟨w1,g1,g2⟩:=h
 exact(Turned.of_grown g1).trans (Turned.of_grown g2)
theorem Sta.marked {w wx wy:World} {L:List Item} {u v:Value} {xs ys zs ts:List Int} (h:Sta w wx L) (n:Nat) (e:L[n]?=some (Dsk u v xs ys)) (o:OwnD wy 0 u v zs ts) (m:Marked wx wy u v):Sta w wy (L.set n (Dsk u v zs ts)):=
 h.turn n e m.turned (Dsk u v zs ts) rfl o
theorem Sta.readsU {w wx:World} {L:List Item} {u v:Value} {xs ys:List Int} (h:Sta w wx L) (n:Nat) (e:L[n]?=some (Dsk u v xs ys)):Reads wx u xs:=(h.get n e).1.reads
theorem Sta.readsV {w wx:World} {L:List Item} {u v:Value} {xs ys:List Int} (h:Sta w wx L) (n:Nat) (e:L[n]?=some (Dsk u v xs ys)):Reads wx v ys:=(h.get n e).2.1.reads
theorem Sta.ones {w wx:World} {L:List Item} {u v:Value} {xs ys:List Int} (h:Sta w wx L) (n:Nat) (e:L[n]?=some (Dsk u v xs ys)):(#[u,v]:Array Value).all (·.oneCell')=true:=pair_one (h.readsU n e).one (h.readsV n e).one
theorem apart_blocks {i j:List Nat} {u v:Value} (hi:i=u.ownBlock.toList) (hj:j=v.ownBlock.toList) (h:∀b∈i,b∉j):apart u v:=by
 subst hi hj
 refine⟨?_,?_⟩
 ·by_cases e:u.ownBlock=none
  ·exact .inl e
  ·refine .inr fun e2=>?_
   obtain⟨g,hg⟩:=Option.ne_none_iff_exists'.1 e
   exact h g (by simp[hg]) (by simp[←e2,hg])
 ·by_cases e:v.ownBlock=none
  ·exact .inl e
  ·refine .inr fun e2=>?_
   obtain⟨g,hg⟩:=Option.ne_none_iff_exists'.1 e
   exact h g (by simp[←e2,hg]) (by simp[hg])
theorem Sta.two {w wx:World} {L:List Item} {u v:Value} {xs ys:List Int} (h:Sta w wx (Lst u xs::Lst v ys::L)):Sta w wx (Dsk u v xs ys::L):=
 h.join (Dsk u v xs ys) rfl ⟨h.get 0 rfl,h.get 1 rfl,apart_blocks rfl rfl (h.apart.1 (Lst v ys) (by simp))⟩
end Go.Proofs.YthmnmaemnihkeaaGreatDoor
