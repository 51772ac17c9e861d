/- Rows of houses and rows of events in memory: who reads one, who owns one; a pair as the three of them. -/
import Derived.Test.YtflbcjgkdokhiaaGreatDoorM17
import Derived.Test.YtflbcjgkdokhiaaGreatDoorLPost
import Derived.Test.YtflbcjgkdokhiaaGreatDoorM23
namespace Go.Proofs.YtflbcjgkdokhiaaGreatDoor
open Go.ChangeShapes Go.WideShapes Go.ChangeAt Go.RowKit
structure Nv where
 a:Value
 b:Value
 k:Value
 q:Value
 z:Value
 n:Nd
def Nv.A (x:Nv):Array Value:=ndA x.a x.b x.k x.q x.z x.n
def Nv.rd (w:World) (x:Nv):Prop:=RdN w x.a x.b x.k x.q x.z x.n
def Nv.mine (w:World) (base:Nat) (x:Nv):Prop:=MineN w base x.a x.b x.k x.q x.z x.n
def Nv.bl (x:Nv):List Nat:=own5 x.a x.b x.k x.q x.z x.n
def nsC (ns:List Nv):List (Array Value):=ns.map Nv.A
def nsOf (ns:List Nv):List Nd:=ns.map (·.n)
def nsB (ns:List Nv):List Nat:=ns.flatMap Nv.bl
theorem nsC_len (ns:List Nv):(nsC ns).length=ns.length:=by simp[nsC]
theorem nsOf_len (ns:List Nv):(nsOf ns).length=ns.length:=by simp[nsOf]
theorem nsC_sz (ns:List Nv):∀cs∈nsC ns,cs.size=20:=by
 intro cs h
 obtain⟨p,_,rfl⟩:=List.mem_map.1 h
 rfl
theorem nsOf_at {ns:List Nv} {j:Nat} {x:Nv} (e:ns[j]?=some x):(nsOf ns)[j]?=some x.n:=by simp[nsOf,e]
structure RdNs (w:World) (v:Value) (ns:List Nv):Prop where
 row:RdRow w 20 v (nsC ns)
 key:∀x∈ns,x.rd w
theorem RdNs.below {w w':World} {v:Value} {ns:List Nv} (h:RdNs w v ns) (b:Below w.heap.size w w'):RdNs w' v ns:=
 ⟨h.row.below b (Nat.le_refl _),fun x hx=>RdN.below (h.key x hx) b⟩
theorem RdNs.form {w:World} {v:Value} {ns:List Nv} (h:RdNs w v ns):∃ao cap,v=.slice ao ns.length cap:=by
 obtain⟨ao,cap,e⟩:=h.row.form
 rw[nsC_len]at e
 exact⟨ao,cap,e⟩
theorem RdNs.el {w:World} {ao:Option Addr} {n cap:Nat} {ns:List Nv} (h:RdNs w (.slice ao n cap) ns):n=ns.length∧n≤cap∧cap≤maxLen∧
  ∀j,j<n→∃b off x,ns[j]?=some x∧ao=some ⟨b,off,none⟩∧x.rd w∧∀i,i<20→w.cell? ⟨b,off+j*20+i,none⟩=x.A[i]?:=by
 obtain⟨h1,h2,h3,h4⟩:=h.row.el
 rw[nsC_len]at h1
 refine⟨h1,h2,h3,fun j hj=>?_⟩
 obtain⟨b,off,e,_,hc⟩:=h4 j hj
 have hp:ns[j]?=some ns[j]:=List.getElem?_eq_getElem (by omega)
 refine⟨b,off,ns[j],hp,e,h.key _ (List.getElem_mem (by omega)),fun i hi=>?_⟩
 rw[Nat.add_assoc,hc i hi]
 simp[nsC,List.getD,hp]
def SmNs (ns:List Nv):Prop:=∀x∈ns,SmN x.n
theorem SmNs.at {ns:List Nv} (h:SmNs ns) {j:Nat} {x:Nv} (e:ns[j]?=some x):SmN x.n:=h _ (List.mem_of_getElem? e)
structure OwnNs (w:World) (base:Nat) (v:Value) (ns:List Nv):Prop where
 row:OwnRow w base 56 20 v (nsC ns)
 key:∀x∈ns,x.mine w base
 ap:ns.Pairwise fun p q=>∀x∈p.bl,x∉q.bl
theorem OwnNs.rd {w:World} {base:Nat} {v:Value} {ns:List Nv} (h:OwnNs w base v ns):RdNs w v ns:=⟨h.row.rd,fun x hx=>MineN.reads (h.key x hx)⟩
theorem OwnNs.nil (w:World) (base:Nat):OwnNs w base (.slice none 0 0) []:=⟨OwnRow.nil _ _ _ _,by simp,List.Pairwise.nil⟩
def nvB (v:Value) (ns:List Nv):List Nat:=blk v++nsB ns
theorem OwnNs.mono {w:World} {base base':Nat} {v:Value} {ns:List Nv} (h:OwnNs w base v ns) (hb:base'≤base):OwnNs w base' v ns:=⟨h.row.mono hb,fun x hx=>MineN.mono (h.key x hx) hb,h.ap⟩
theorem nsB_in {ns:List Nv} {p:Nv} (hp:p∈ns) {x:Nat} (hx:x∈p.bl):x∈nsB ns:=List.mem_flatMap.2 ⟨p,hp,hx⟩
theorem OwnNs.frame {w w':World} {base:Nat} {v:Value} {ns:List Nv} (h:OwnNs w base v ns) (e:∀x∈nvB v ns,w'.heap[x]?=w.heap[x]?):OwnNs w' base v ns:=
 ⟨h.row.frame (fun x hx=>e x (List.mem_append_left _ hx)),fun p hp=>MineN.frame (h.key p hp) (fun x hx=>e x (List.mem_append_right _ (nsB_in hp hx))),h.ap⟩
theorem OwnNs.lt {w:World} {base:Nat} {v:Value} {ns:List Nv} (h:OwnNs w base v ns):∀x∈nvB v ns,base≤x∧x<w.heap.size:=by
 intro x hx
 rcases List.mem_append.1 hx with hx|hx
 ·exact h.row.lt x hx
 ·obtain⟨p,hp,hx⟩:=List.mem_flatMap.1 hx
  exact MineN.lt (h.key p hp) hx
theorem OwnNs.below {w w':World} {base:Nat} {v:Value} {ns:List Nv} (h:OwnNs w base v ns) (b:Below w.heap.size w w'):OwnNs w' base v ns:=h.frame (fun x hx=>b.block x (h.lt x hx).2)
theorem Own.besides {w:World} {base B:Nat} {t:TypeId} {k:Nat} {u v:Value} {xs:List Int} {css:List (Array Value)} (h:Own w base u xs) (r:OwnRow w B t k v css) (ht:t≠2):∀x∈blk u,x∉blk v:=by
 intro x hx hv
 have hu:u.ownBlock=some x:=by simpa[blk]using hx
 have hv':v.ownBlock=some x:=by simpa[blk]using hv
 rcases h.2 with⟨rfl,_⟩|⟨g,cap,cur,rfl,_,hg,_⟩
 ·simp[Value.ownBlock]at hu
 ·rcases r.ow.2 with⟨rfl,_⟩|⟨g',cap',cur',rfl,_,hg',_⟩
  ·simp[Value.ownBlock]at hv'
  ·simp only[Value.ownBlock,Option.some.injEq]at hu hv'
   subst hu
   subst hv'
   rw[hg]at hg'
   simp only[Option.some.injEq,Obj.cells.injEq]at hg'
   exact ht hg'.2.1.symm
theorem MineN.besides {w:World} {base B:Nat} {t:TypeId} {k:Nat} {v:Value} {x:Nv} {css:List (Array Value)} (h:x.mine w base) (r:OwnRow w B t k v css) (ht:t≠2):∀y∈x.bl,y∉blk v:=by
 intro y hy
 rcases own5_in.1 hy with hy|hy|hy|hy|hy
 ·exact Own.besides (MineN.oa h) r ht y hy
 ·exact Own.besides (MineN.ob h) r ht y hy
 ·exact Own.besides (MineN.ok h) r ht y hy
 ·exact Mine.besides (MineN.oq h) r ht y hy
 ·exact Mine.besides (MineN.oz h) r ht y hy
theorem MineN.keptRow {w w':World} {base B:Nat} {t:TypeId} {k:Nat} {v:Value} {x:Nv} {css:List (Array Value)} (h:x.mine w base) (r:OwnRow w B t k v css) (ht:t≠2) (g:w.grownBy w' v.ownBlock):x.mine w' base:=
 MineN.frame h (fun y hy=>g.block y (MineN.lt h hy).2 (fun e=>MineN.besides h r ht y hy (by simp[blk,←e])))
theorem OwnNs.push {w1 w2 w4:World} {base:Nat} {v v':Value} {x:Nv} {ns:List Nv} {o:Obj} (h:OwnNs w1 base v ns) (hu:x.mine w2 w1.heap.size) (b:Below w1.heap.size w1 w2) (hb:base≤w1.heap.size)
  (hown:w4.ownsRow base 56 20 v' ((nsC ns).length+1) (flatC (nsC ns)++x.A.toList)) (hg:(w2.alloc o).grownBy w4 v.ownBlock):OwnNs w4 base v' (ns++[x]):=by
 have B3:Below w2.heap.size w2 (w2.alloc o):=(Below.refl _ _).alloc (Nat.le_refl _) _
 have h3:=(h.below b).below B3
 have u3:x.mine (w2.alloc o) w1.heap.size:=MineN.below hu B3
 have e:flatC (nsC (ns++[x]))=flatC (nsC ns)++x.A.toList:=by simp[nsC,flatC]
 refine⟨⟨nsC_sz _,?_⟩,?_,?_⟩
 ·rw[e,show(nsC (ns++[x])).length=(nsC ns).length+1 by simp[nsC]]
  exact hown
 ·intro p hp
  rcases List.mem_append.1 hp with hp|hp
  ·exact MineN.keptRow (h3.key p hp) h3.row (by decide) hg
  ·have:p=x:=by simpa using hp
   subst this
   exact MineN.mono (MineN.keptRow u3 h3.row (by decide) hg) hb
 ·refine List.pairwise_append.2 ⟨h.ap,by simp,fun p hp q hq y hy hz=>?_⟩
  have:q=x:=by simpa using hq
  subst this
  have h1:=(MineN.lt (h.key p hp) hy).2
  have h2:=(MineN.lt hu hz).1
  omega
theorem OwnNs.setAt {w1 w2 w4:World} {base j:Nat} {v:Value} {x:Nv} {ns:List Nv} (h:OwnNs w1 base v ns) (hu:x.mine w2 w1.heap.size) (b:Below w1.heap.size w1 w2) (hb:base≤w1.heap.size)
  (hrow:OwnRow w4 base 56 20 v ((nsC ns).set j x.A)) (hg:w2.grownBy w4 v.ownBlock):OwnNs w4 base v (ns.set j x):=by
 have h2:=h.below b
 refine⟨?_,fun p hp=>?_,?_⟩
 ·rw[show nsC (ns.set j x)=(nsC ns).set j x.A by simp[nsC,List.map_set]]
  exact hrow
 ·rcases List.mem_or_eq_of_mem_set hp with hp|rfl
  ·exact MineN.keptRow (h2.key p hp) h2.row (by decide) hg
  ·exact MineN.mono (MineN.keptRow hu h2.row (by decide) hg) hb
 ·refine pairwise_set ns j x h.ap (fun q hq y hx hy=>?_) (fun q hq y hx hy=>?_)
  ·have h1:=(MineN.lt (h.key q hq) hx).2
   have h3:=(MineN.lt hu hy).1
   omega
  ·have h1:=(MineN.lt (h.key q hq) hy).2
   have h3:=(MineN.lt hu hx).1
   omega
def nilN:Nv:=⟨.slice none 0 0,.slice none 0 0,.slice none 0 0,.slice none 0 0,.slice none 0 0,Nd.zero⟩
theorem madeN_flat (n:Nat):(madeCells zeroNd (n*20)).toList=flatC (nsC (List.replicate n nilN)):=by
 have hz:zeroNd.size=20:=rfl
 apply List.ext_getElem?
 intro i
 by_cases hi:i<n*20
 ·have e:i=i/20*20+i%20:=by omega
  have h2:=flatC_at (nsC (List.replicate n nilN)) (nsC_sz _) (i/20) (i%20) (by rw[nsC_len,List.length_replicate];omega) (by omega)
  rw[←e]at h2
  have h3:(nsC (List.replicate n nilN)).getD (i/20) #[]=zeroNd:=by
   have:i/20<n:=by omega
   simp[nsC,List.getD,this]
   rfl
  rw[h2,h3]
  have hlt:i%20<zeroNd.size:=by rw[hz];omega
  have h4:(madeCells zeroNd (n*20)).toList[i]?=some zeroNd[i%20]!:=by simp[madeCells,hi,hz]
  rw[h4,getElem!_pos zeroNd (i%20) hlt,Array.getElem?_eq_getElem hlt]
 ·rw[List.getElem?_eq_none (by rw[Array.length_toList,size_madeCells];omega),List.getElem?_eq_none (by rw[flatC_len _ (nsC_sz _),nsC_len,List.length_replicate];omega)]
theorem OwnNs.made {w w1:World} {n:Nat} {g:Nat} (h:w1.ownsRow w.heap.size 56 20 (.slice (some ⟨g,0,none⟩) n n) n (madeCells zeroNd (n*20)).toList):OwnNs w1 w.heap.size (.slice (some ⟨g,0,none⟩) n n) (List.replicate n nilN):=by
 refine⟨⟨nsC_sz _,?_⟩,fun p hp=>?_,?_⟩
 ·rw[←madeN_flat,nsC_len,List.length_replicate]
  exact h
 ·rw[List.eq_of_mem_replicate hp]
  exact MineN.nil _ _
 ·refine List.pairwise_replicate.2 (.inr ?_)
  intro x hx
  rw[show nilN.bl=[]from by simp[nilN,Nv.bl,own5,blk,Value.ownBlock,mineOf]]at hx
  simp at hx
def evA (e:Ev):Array Value:=#[.int .i64 e.kd,.int .i64 e.who,S e.bs,.int .i64 e.an.st,S e.an.tx,.int .i64 e.set]
theorem evA_one (e:Ev):(evA e).all (·.oneCell')=true:=by simp[evA,S,Value.oneCell']
def evC (es:List Ev):List (Array Value):=es.map evA
theorem evC_len (es:List Ev):(evC es).length=es.length:=by simp[evC]
theorem evC_sz (es:List Ev):∀cs∈evC es,cs.size=6:=by
 intro cs h
 obtain⟨p,_,rfl⟩:=List.mem_map.1 h
 rfl
def Ev.zero:Ev:=⟨0,0,[],⟨0,[]⟩,0⟩
def RdE (w:World) (v:Value) (es:List Ev):Prop:=RdRow w 6 v (evC es)
def OwnE (w:World) (base:Nat) (v:Value) (es:List Ev):Prop:=OwnRow w base 82 6 v (evC es)
theorem RdE.below {w w':World} {v:Value} {es:List Ev} (h:RdE w v es) (b:Below w.heap.size w w'):RdE w' v es:=RdRow.below h b (Nat.le_refl _)
theorem RdE.form {w:World} {v:Value} {es:List Ev} (h:RdE w v es):∃ao cap,v=.slice ao es.length cap:=by
 obtain⟨ao,cap,e⟩:=RdRow.form h
 rw[evC_len]at e
 exact⟨ao,cap,e⟩
theorem RdE.el {w:World} {ao:Option Addr} {n cap:Nat} {es:List Ev} (h:RdE w (.slice ao n cap) es):n=es.length∧n≤cap∧cap≤maxLen∧
  ∀j,j<n→∃b off e,es[j]?=some e∧ao=some ⟨b,off,none⟩∧∀i,i<6→w.cell? ⟨b,off+j*6+i,none⟩=(evA e)[i]?:=by
 obtain⟨h1,h2,h3,h4⟩:=RdRow.el h
 rw[evC_len]at h1
 refine⟨h1,h2,h3,fun j hj=>?_⟩
 obtain⟨b,off,e,_,hc⟩:=h4 j hj
 have hp:es[j]?=some es[j]:=List.getElem?_eq_getElem (by omega)
 refine⟨b,off,es[j],hp,e,fun i hi=>?_⟩
 rw[Nat.add_assoc,hc i hi]
 simp[evC,List.getD,hp]
theorem OwnE.rd {w:World} {base:Nat} {v:Value} {es:List Ev} (h:OwnE w base v es):RdE w v es:=OwnRow.rd h
theorem OwnE.nil (w:World) (base:Nat):OwnE w base (.slice none 0 0) []:=OwnRow.nil _ _ _ _
theorem OwnE.frame {w w':World} {base:Nat} {v:Value} {es:List Ev} (h:OwnE w base v es) (e:∀x∈blk v,w'.heap[x]?=w.heap[x]?):OwnE w' base v es:=OwnRow.frame h e
theorem OwnE.lt {w:World} {base:Nat} {v:Value} {es:List Ev} (h:OwnE w base v es):∀x∈blk v,base≤x∧x<w.heap.size:=OwnRow.lt h
theorem OwnE.below {w w':World} {base:Nat} {v:Value} {es:List Ev} (h:OwnE w base v es) (b:Below w.heap.size w w'):OwnE w' base v es:=OwnRow.below h b
theorem OwnE.mono {w:World} {base base':Nat} {v:Value} {es:List Ev} (h:OwnE w base v es) (hb:base'≤base):OwnE w base' v es:=OwnRow.mono h hb
def totE (es:List Ev):Nat:=(es.map fun e=>e.bs.length+e.an.tx.length).sum
def zeroEv:Array Value:=#[.int .i64 0,.int .i64 0,.string ⟨#[]⟩,.int .i64 0,.string ⟨#[]⟩,.int .i64 0]
theorem madeE_flat (n:Nat):(madeCells zeroEv (n*6)).toList=flatC (evC (List.replicate n Ev.zero)):=by
 have hz:zeroEv.size=6:=rfl
 apply List.ext_getElem?
 intro i
 by_cases hi:i<n*6
 ·have e:i=i/6*6+i%6:=by omega
  have h2:=flatC_at (evC (List.replicate n Ev.zero)) (evC_sz _) (i/6) (i%6) (by rw[evC_len,List.length_replicate];omega) (by omega)
  rw[←e]at h2
  have h3:(evC (List.replicate n Ev.zero)).getD (i/6) #[]=zeroEv:=by
   have:i/6<n:=by omega
   simp[evC,List.getD,this]
   rfl
  rw[h2,h3]
  have hlt:i%6<zeroEv.size:=by rw[hz];omega
  have h4:(madeCells zeroEv (n*6)).toList[i]?=some zeroEv[i%6]!:=by simp[madeCells,hi,hz]
  rw[h4,getElem!_pos zeroEv (i%6) hlt,Array.getElem?_eq_getElem hlt]
 ·rw[List.getElem?_eq_none (by rw[Array.length_toList,size_madeCells];omega),List.getElem?_eq_none (by rw[flatC_len _ (evC_sz _),evC_len,List.length_replicate];omega)]
theorem OwnE.made {w w1:World} {n:Nat} {g:Nat} (h:w1.ownsRow w.heap.size 82 6 (.slice (some ⟨g,0,none⟩) n n) n (madeCells zeroEv (n*6)).toList):OwnE w1 w.heap.size (.slice (some ⟨g,0,none⟩) n n) (List.replicate n Ev.zero):=by
 refine⟨evC_sz _,?_⟩
 rw[←madeE_flat,evC_len,List.length_replicate]
 exact h
theorem OwnE.setAt {w4:World} {base j:Nat} {v:Value} {e:Ev} {es:List Ev} (hrow:OwnRow w4 base 82 6 v ((evC es).set j (evA e))):OwnE w4 base v (es.set j e):=by
 show OwnRow w4 base _ 6 v (evC (es.set j e))
 rw[show evC (es.set j e)=(evC es).set j (evA e) by simp[evC,List.map_set]]
 exact hrow
def EvI (v:Value) (es:List Ev):Item:=⟨blk v,0,fun w=>OwnE w 0 v es,fun _ _ e _ h=>h.frame e⟩
theorem Sta.events {w wx wy:World} {L:List Item} {v:Value} {es:List Ev} (h:Sta w wx L) (o:OwnE wy wx.heap.size v es) (b:Below wx.heap.size wx wy):Sta w wy (EvI v es::L):=
 h.add b (EvI v es) (o.mono (Nat.zero_le _)) o.lt
structure Pa where
 ns:List Nd
 ms:List Mg
 es:List Ev
def prA (u v x:Value):Array Value:=#[u,v,x]
def PrV (u v x:Value):Value:=.agg (prA u v x)
theorem Tryz.isPr:IsS 33 3:=⟨⟨_,Tryz.underlying33⟩,by kernel_rfl⟩
structure RdPr (w:World) (u v x:Value) (ns:List Nv) (ps:List (Value×Mg)) (es:List Ev):Prop where
 rn:RdNs w u ns
 rp:RdP w v ps
 re:RdE w x es
theorem RdPr.below {w w':World} {u v x:Value} {ns:List Nv} {ps:List (Value×Mg)} {es:List Ev} (h:RdPr w u v x ns ps es) (b:Below w.heap.size w w'):RdPr w' u v x ns ps es:=⟨h.rn.below b,h.rp.below b,h.re.below b⟩
end Go.Proofs.YtflbcjgkdokhiaaGreatDoor
