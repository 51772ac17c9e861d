/- How the laws size, copy and compare rows of houses, events and pairs. -/
import Derived.Test.YtflbcjgkdokhiaaGreatDoorRowN
import Derived.Test.YtflbcjgkdokhiaaGreatDoorLNode2
import Derived.Test.YtflbcjgkdokhiaaGreatDoorM26
import Derived.Test.YtflbcjgkdokhiaaGreatDoorM31
set_option maxRecDepth 20000
set_option maxHeartbeats 4000000
namespace Go.Proofs.YtflbcjgkdokhiaaGreatDoor
open Go.ChangeShapes Go.WideShapes Go.ChangeAt Go.RowKit
theorem sum_snoc {α:Type} (f:α→Nat) (l:List α) (j:Nat) (p:α) (e:l[j]?=some p):((l.take (j+1)).map f).sum=((l.take j).map f).sum+f p:=by
 obtain⟨hj,rfl⟩:=List.getElem?_eq_some_iff.1 e
 rw[List.take_succ_eq_append_getElem hj,List.map_append,List.sum_append]
 simp
theorem take_in {α:Type} {P:α→Prop} {l:List α} {j:Nat} {p:α} (e:l[j]?=some p) (h:∀x∈l.take j,P x) (hp:P p):∀x∈l.take (j+1),P x:=by
 obtain⟨hj,rfl⟩:=List.getElem?_eq_some_iff.1 e
 rw[List.take_succ_eq_append_getElem hj]
 intro x hx
 rcases List.mem_append.1 hx with hx|hx
 ·exact h x hx
 ·rw[List.mem_singleton]at hx;subst hx;exact hp
def totV (ns:List Nv):Nat:=(ns.map fun x=>x.n.len+x.n.log.length).sum
theorem smn_of {n:Nd} (h:n.len+n.log.length≤1048576):SmN n:=by
 unfold Nd.len at h
 exact⟨by omega,by omega,by omega,by omega,by omega,by omega⟩
theorem gs_loadO {t:TypeId} {n:Nat} (hS:IsS t n) {ops:Array Oper} {C:World→Prop} {E:Oper→Act→Option GSpec} {R:World→World→Prop} {Q:Act→Known→Prop} {o:Oper} {rest:List Oper} {a:Act} {G:Known} (hs:E o a=none)
  (hw:Region.wanted o (yielded ops a.tmps)=true) (x:Operand) (ho:o.op=.load t x) (b off:Nat) (hx:a.eval x=.pointer (some ⟨b,off,none⟩)) (cs:Array Value) (hn:cs.size=n) (hr:∀q:Kin C,∀i,i<n→q.x.cell? ⟨b,off+i,none⟩=cs[i]?)
  (k:GivS Tryz.prog ops C E R Q rest (a.put o.dst (.agg cs)) G):GivS Tryz.prog ops C E R Q (o::rest) a G:=by
 refine gs_plain hs (fun K hK=>?_)
 rw[if_pos hw]
 refine⟨.agg cs,fun w hq=>?_,hK _ k⟩
 obtain⟨q,rfl⟩:=hq
 unfold Oper.quietAt execOp
 simp only[ho,hx,Instr.loadAt,Instr.sureAddr,Sem.run_bind,Sem.run_pure,Result.andThen_ok,load_at hS q.x b off cs hn (hr q)]
 simp[Oper.quietUpon]
theorem cells_bel {w w':World} {b off n:Nat} {cs:Array Value} (hn:n≤cs.size) (h:∀i,i<n→w.cell? ⟨b,off+i,none⟩=cs[i]?) (B:Below w.heap.size w w'):∀i,i<n→w'.cell? ⟨b,off+i,none⟩=cs[i]?:=fun i hi=>by
 have e:=h i hi
 rw[Array.getElem?_eq_getElem (by omega)]at e⊢
 exact bel_cell B e
theorem Tryz.isEv:IsS 82 6:=⟨⟨_,Tryz.underlying82⟩,by kernel_rfl⟩
theorem Tryz.isLEv:IsS 76 6:=⟨⟨_,Tryz.underlying76⟩,by kernel_rfl⟩
theorem Tryz.isLPr:IsS 26 3:=⟨⟨_,Tryz.underlying26⟩,by kernel_rfl⟩
theorem Tryz.infoNd:(Tryz.prog.info? 56).map (fun i=>(i.zero,i.size,i.bytes))=some (some (.agg zeroNd),20,248):=by kernel_rfl
theorem Tryz.infoEv:(Tryz.prog.info? 82).map (fun i=>(i.zero,i.size,i.bytes))=some (some (.agg zeroEv),6,64):=by kernel_rfl
theorem szNodeS_any (v:Value) (ns:List Nv) (k:Int) (w:World) (hr:RdNs w v ns) (hg:∀x∈ns,x.n.log.length≤9223372036854775807) (h0:0≤k) (h1:k≤1048576):
  Calls Tryz.prog 9 #[v,.int .i64 k] w fun e w'=>∃x:Int,e=.returned (.int .i64 x)∧(x= -1∨(0≤x∧x+(ns.length:Int)+(totV ns:Int)≤k∧SmNs ns∧ns.length≤1048576))∧Below w.heap.size w w':=by
 obtain⟨ao,cap,rfl⟩:=hr.form
 have HR:Hid (∀wx,Below w.heap.size w wx→RdNs wx (.slice ao ns.length cap) ns):=fun wx b=>hr.below b
 have HG:Hid (∀x∈ns,x.n.log.length≤9223372036854775807):=hg
 obtain⟨-,hnc,hcm, -⟩:=hr.el
 unfold maxLen at hcm
 clear hr hg
 obtain⟨n,hn⟩:∃n,n=ns.length:=⟨_,rfl⟩
 rw[←hn]at HR hnc⊢
 have HN:Hid (n=ns.length):=hn
 clear hn
 by_cases hk:(n:Int)≤k
 ·go_enter Tryz.func9,Tryz.ntmps9
  go_wp2
  go_loopw [1,5] (fun l i wr=>∃j:Nat,∃x:Int,j≤n∧i=.int .i64 j∧l=.int .i64 x∧0≤x∧x≤k∧Hid ((∀p∈ns.take j,SmN p.n)∧Below w.heap.size w wr∧x+(n:Int)+(totV (ns.take j):Int)≤k)) (fun _ i _=>n-(intOf i).toNat)
  case atStart=>exact⟨0,_,Nat.zero_le _,rfl,rfl,by omega,by omega,by simp,Below.refl _ _,by simp[totV]⟩
  case round=>
   obtain⟨j,x,hj,rfl,rfl,hx0,hxk,HI⟩:=hrel
   by_cases hlt:(j:Int)<(n:Int)
   ·obtain⟨b,off,y,he,rfl,hrk,hc⟩:=(HR.out wr HI.out.2.1).el.2.2.2 j (by omega)
    have C:Calls Tryz.prog 22 #[.agg y.A,.int .i64 x] wr fun e w'=>e=.returned (.int .i64 (szI x (y.n.len+y.n.log.length)))∧Below wr.heap.size wr w':=szNode_any y.a y.b y.k y.q y.z y.n x wr hrk (HG.out y (List.mem_of_getElem? he)) hx0 (by omega)
    have HC:Hid (∀i,i<20→wr.cell? ⟨b,off+j*20+i,none⟩=y.A[i]?):=hc
    have hp:=szI_part x (y.n.len+y.n.log.length) hx0
    obtain⟨r,hy⟩:∃r,r=szI x (y.n.len+y.n.log.length):=⟨_,rfl⟩
    rw[←hy]at C hp
    have HT:Hid (((y.n.len+y.n.log.length:Nat):Int)≤x→∀p∈ns.take (j+1),SmN p.n):=fun hle=>take_in he HI.out.1 (smn_of (by omega))
    have HW:Hid (totV (ns.take (j+1))=totV (ns.take j)+(y.n.len+y.n.log.length)):=sum_snoc _ ns j y he
    clear hc hrk he hy
    go_wp2_with (refine wpList_getO Tryz.isLNd rfl _ rfl b (off+j*20) rfl y.A rfl HC.out ?_)
    refine C.mono ?_
    rintro e w2 ⟨rfl,b2⟩
    have HB:Hid (Below w.heap.size w w2):=HI.out.2.1.trans (b2.mono HI.out.2.1.size)
    clear b2 C HC
    rcases hp with rfl|⟨hy0,hyx,hle⟩
    ·go_wp2
     go_ret
     exact⟨_,rfl,.inl rfl,HB.out⟩
    ·have HS:Hid ((∀p∈ns.take (j+1),SmN p.n)∧r+(n:Int)+(totV (ns.take (j+1)):Int)≤k):=⟨HT.out hle,by rw[HW.out];have:=HI.out.2.2;omega⟩
     have hyk:r≤k:=by omega
     clear hyx
     go_wp2
     go_roundw
     case rel=>exact⟨j+1,r,by omega,by go_num,rfl,hy0,hyk,HS.out.1,HB.out,HS.out.2⟩
     case measure=>simp[intOf];omega
   ·have HS:Hid (SmNs ns∧x+(n:Int)+(totV ns:Int)≤k):=by
     have h1:=HI.out.1
     have h2:=HI.out.2.2
     rw[List.take_of_length_le (by have:=HN.out;omega)]at h1 h2
     exact⟨h1,h2⟩
    go_wp2
    go_ret
    exact⟨_,rfl,.inr ⟨hx0,HS.out.2,HS.out.1,by omega⟩,HI.out.2.1⟩
 ·have hk2:k-(n:Int)<0:=by omega
  go_enter Tryz.func9,Tryz.ntmps9
  go_wp2
  go_ret
  exact⟨_,rfl,.inl rfl,Below.refl _ _⟩
theorem szAnswer_any (t:Int) (s:Bs) (k:Int) (w:World) (hl:s.length≤9223372036854775807) (h0:0≤k) (h1:k≤1048576):
  Calls Tryz.prog 41 #[.agg #[.int .i64 t,S s],.int .i64 k] w fun e w'=>e=.returned (.int .i64 (szI k s.length))∧Below w.heap.size w w':=by
 have hB:Hid (Below w.heap.size w (w.alloc (.cells #[.int .i64 t,S s] 74))):=(Below.refl _ _).alloc (Nat.le_refl _) _
 have hs:(⟨s.toArray⟩:ByteArray).size=s.length:=rfl
 unfold S at hB⊢
 by_cases h:(s.length:Int)≤k
 ·have e:szI k s.length=k-(s.length:Int):=by unfold szI;rw[if_pos h]
  rw[e]
  clear e
  go_enter Tryz.func41,Tryz.ntmps41
  go_wp2
  go_ret
  exact⟨rfl,hB.out⟩
 ·have e:szI k s.length= -1:=by unfold szI;rw[if_neg h]
  have hk2:k-(s.length:Int)<0:=by omega
  rw[e]
  clear e
  go_enter Tryz.func41,Tryz.ntmps41
  go_wp2
  go_ret
  exact⟨rfl,hB.out⟩
theorem szEvent_any (v:Ev) (k:Int) (w:World) (hl:v.bs.length≤9223372036854775807) (hl2:v.an.tx.length≤9223372036854775807) (h0:0≤k) (h1:k≤1048576):
  Calls Tryz.prog 24 #[.agg (evA v),.int .i64 k] w fun e w'=>∃x:Int,e=.returned (.int .i64 x)∧(x= -1∨(0≤x∧x+((v.bs.length+v.an.tx.length:Nat):Int)≤k))∧Below w.heap.size w w':=by
 obtain⟨w1,hw1⟩:∃w1,w1=w.alloc (.cells (evA v) 76):=⟨_,rfl⟩
 have HB:Hid (Below w.heap.size w w1∧StB w1 w.heap.size 76 (evA v)):=by rw[hw1];exact⟨(Below.refl _ _).alloc (Nat.le_refl _) _,StB.new _ _ _⟩
 have hs:(⟨v.bs.toArray⟩:ByteArray).size=v.bs.length:=rfl
 have HC:Hid (∀x,0≤x→x≤1048576→Calls Tryz.prog 41 #[.agg #[.int .i64 v.an.st,S v.an.tx],.int .i64 x] w1 fun e w'=>e=.returned (.int .i64 (szI x v.an.tx.length))∧Below w1.heap.size w1 w'):=fun x a b=>szAnswer_any v.an.st v.an.tx x w1 hl2 a b
 clear hl2
 unfold evA S at hw1
 unfold S at HC
 unfold evA S
 go_enter Tryz.func24,Tryz.ntmps24
 go_upto_region 1 with fail
 rw[←hw1]
 clear hw1
 have p2:w1.cell? ⟨w.heap.size,2,none⟩=some (.string ⟨v.bs.toArray⟩):=HB.out.2.cell 2 rfl
 have p3:w1.cell? ⟨w.heap.size,3,none⟩=some (.int .i64 v.an.st):=HB.out.2.cell 3 rfl
 have p4:w1.cell? ⟨w.heap.size,4,none⟩=some (.string ⟨v.an.tx.toArray⟩):=HB.out.2.cell 4 rfl
 by_cases h:(v.bs.length:Int)≤k
 ·obtain⟨y,hy⟩:∃y,y=k-(v.bs.length:Int):=⟨_,rfl⟩
  have hy0:0≤y:=by omega
  have hy1:y≤1048576:=by omega
  have C:=HC.out y hy0 hy1
  have hp:=szI_part y v.an.tx.length hy0
  obtain⟨z,hz⟩:∃z,z=szI y v.an.tx.length:=⟨_,rfl⟩
  rw[←hz]at C hp
  clear hz HC
  rw[hy]at C
  go_wp2_with fail
  refine C.mono ?_
  rintro e w2 ⟨rfl,b2⟩
  have HB2:Hid (Below w.heap.size w w2):=HB.out.1.trans (b2.mono HB.out.1.size)
  clear C b2 p2 p3 p4
  rcases hp with rfl|⟨hz0,hzy,hle⟩
  ·go_wp2
   go_ret
   exact⟨_,rfl,.inl rfl,HB2.out⟩
  ·have HZ:Hid (z+((v.bs.length+v.an.tx.length:Nat):Int)≤k):=by show _≤_;omega
   clear hzy hle hy
   go_wp2
   go_ret
   exact⟨_,rfl,.inr ⟨hz0,HZ.out⟩,HB2.out⟩
 ·have hk2:k-(v.bs.length:Int)<0:=by omega
  clear HC
  go_wp2
  go_ret
  exact⟨_,rfl,.inl rfl,HB.out.1⟩
theorem szEventS_any (v:Value) (es:List Ev) (k:Int) (w:World) (hr:RdE w v es) (hg:∀e∈es,e.bs.length≤9223372036854775807∧e.an.tx.length≤9223372036854775807) (h0:0≤k) (h1:k≤1048576):
  Calls Tryz.prog 11 #[v,.int .i64 k] w fun e w'=>∃x:Int,e=.returned (.int .i64 x)∧(x= -1∨(0≤x∧x+(es.length:Int)+(totE es:Int)≤k))∧Below w.heap.size w w':=by
 obtain⟨ao,cap,rfl⟩:=hr.form
 have HR:Hid (∀wx,Below w.heap.size w wx→RdE wx (.slice ao es.length cap) es):=fun wx b=>hr.below b
 have HG:Hid (∀e∈es,e.bs.length≤9223372036854775807∧e.an.tx.length≤9223372036854775807):=hg
 obtain⟨-,hnc,hcm, -⟩:=hr.el
 unfold maxLen at hcm
 clear hr hg
 obtain⟨n,hn⟩:∃n,n=es.length:=⟨_,rfl⟩
 rw[←hn]at HR hnc⊢
 have HN:Hid (n=es.length):=hn
 clear hn
 by_cases hk:(n:Int)≤k
 ·go_enter Tryz.func11,Tryz.ntmps11
  go_wp2
  go_loopw [1,5] (fun l i wr=>∃j:Nat,∃x:Int,j≤n∧i=.int .i64 j∧l=.int .i64 x∧0≤x∧x≤k∧Hid (Below w.heap.size w wr∧x+(n:Int)+(totE (es.take j):Int)≤k)) (fun _ i _=>n-(intOf i).toNat)
  case atStart=>exact⟨0,_,Nat.zero_le _,rfl,rfl,by omega,by omega,Below.refl _ _,by simp[totE]⟩
  case round=>
   obtain⟨j,x,hj,rfl,rfl,hx0,hxk,HI⟩:=hrel
   by_cases hlt:(j:Int)<(n:Int)
   ·obtain⟨b,off,y,he,rfl,hc⟩:=(HR.out wr HI.out.1).el.2.2.2 j (by omega)
    have C:=szEvent_any y x wr (HG.out y (List.mem_of_getElem? he)).1 (HG.out y (List.mem_of_getElem? he)).2 hx0 (by omega)
    have HC:Hid (∀i,i<6→wr.cell? ⟨b,off+j*6+i,none⟩=(evA y)[i]?):=hc
    have HW:Hid (totE (es.take (j+1))=totE (es.take j)+(y.bs.length+y.an.tx.length)):=sum_snoc _ es j y he
    clear hc he
    go_wp2_with (refine wpList_getO Tryz.isLEv rfl _ rfl b (off+j*6) rfl (evA y) rfl HC.out ?_)
    refine C.mono ?_
    rintro e w2 ⟨r,rfl,hp,b2⟩
    have HB:Hid (Below w.heap.size w w2):=HI.out.1.trans (b2.mono HI.out.1.size)
    clear b2 C HC
    rcases hp with rfl|⟨hy0,hyx⟩
    ·go_wp2
     go_ret
     exact⟨_,rfl,.inl rfl,HB.out⟩
    ·have HS:Hid (r+(n:Int)+(totE (es.take (j+1)):Int)≤k):=by show _≤_;rw[HW.out];have:=HI.out.2;omega
     have hyk:r≤k:=by omega
     clear hyx
     go_wp2
     go_roundw
     case rel=>exact⟨j+1,r,by omega,by go_num,rfl,hy0,hyk,HB.out,HS.out⟩
     case measure=>simp[intOf];omega
   ·have HS:Hid (x+(n:Int)+(totE es:Int)≤k):=by
     have h2:=HI.out.2
     rw[List.take_of_length_le (by have:=HN.out;omega)]at h2
     exact h2
    go_wp2
    go_ret
    exact⟨_,rfl,.inr ⟨hx0,HS.out⟩,HI.out.1⟩
 ·have hk2:k-(n:Int)<0:=by omega
  go_enter Tryz.func11,Tryz.ntmps11
  go_wp2
  go_ret
  exact⟨_,rfl,.inl rfl,Below.refl _ _⟩
theorem fill_nodes (ms:List Nd) (n j:Nat) (m:Nd) (e:ms[j]?=some m) (hn:n=ms.length):(ms.take j++List.replicate (n-j) Nd.zero).set j m=ms.take (j+1)++List.replicate (n-(j+1)) Nd.zero:=by
 obtain⟨hj,he⟩:=List.getElem?_eq_some_iff.1 e
 have hl:(ms.take j).length=j:=by rw[List.length_take];omega
 rw[List.set_append_right _ _ (by omega),hl,Nat.sub_self,List.take_succ_eq_append_getElem hj,he,show n-j=(n-(j+1))+1 by omega,List.replicate_succ,List.set_cons_zero]
 simp
theorem fill_evs (ms:List Ev) (n j:Nat) (m:Ev) (e:ms[j]?=some m) (hn:n=ms.length):(ms.take j++List.replicate (n-j) Ev.zero).set j m=ms.take (j+1)++List.replicate (n-(j+1)) Ev.zero:=by
 obtain⟨hj,he⟩:=List.getElem?_eq_some_iff.1 e
 have hl:(ms.take j).length=j:=by rw[List.length_take];omega
 rw[List.set_append_right _ _ (by omega),hl,Nat.sub_self,List.take_succ_eq_append_getElem hj,he,show n-j=(n-(j+1))+1 by omega,List.replicate_succ,List.set_cons_zero]
 simp
theorem toNodeS_any (v:Value) (ns:List Nv) (w:World) (hr:RdNs w v ns) (hs:SmNs ns) (hl:ns.length≤1048576):
  Calls Tryz.prog 14 #[v] w fun e w'=>∃u qs,e=.returned u∧nsOf qs=nsOf ns∧OwnNs w' w.heap.size u qs∧Below w.heap.size w w':=by
 obtain⟨i0,hi,hz0,hz1,hz2⟩:=info_parts Tryz.infoNd
 obtain⟨ao,cap,rfl⟩:=hr.form
 have HR:Hid (∀wx,Below w.heap.size w wx→RdNs wx (.slice ao ns.length cap) ns):=fun wx b=>hr.below b
 obtain⟨-,hnc,hcm, -⟩:=hr.el
 unfold maxLen at hcm
 clear hr
 obtain⟨n,hn⟩:∃n,n=ns.length:=⟨_,rfl⟩
 rw[←hn]at HR hnc hl⊢
 have HN:Hid (n=(nsOf ns).length):=by rw[nsOf_len];exact hn
 have HSm:Hid (SmNs ns):=hs
 clear hn hs
 go_enter Tryz.func14,Tryz.ntmps14
 go_wp2_with (refine wpList_make_full _ rfl _ _ 29 rfl w.heap.size 56 i0 (.agg zeroNd) 20 Tryz.underlying29 hi hz0 hz1 _ _ _ _ n rfl rfl rfl rfl (by rw[hz2];omega) (by unfold maxLen;omega) (Nat.le_refl _) ?_)
 intro w1 hown hgr
 have HO:Hid (OwnNs w1 w.heap.size (.slice (some ⟨w.heap.size,0,none⟩) n n) (List.replicate n nilN)∧Below w.heap.size w w1):=⟨OwnNs.made hown,(Below.refl _ _).grown hgr (Nat.le_refl _) (fun k e=>by cases e)⟩
 clear hown hgr
 go_wp2
 go_loopw [4] (fun i wr=>∃j:Nat,∃qs,j≤n∧i=.int .i64 j∧Hid (nsOf qs=(nsOf ns).take j++List.replicate (n-j) Nd.zero∧OwnNs wr w.heap.size (.slice (some ⟨w.heap.size,0,none⟩) n n) qs∧Below w.heap.size w wr)) (fun i _=>n-(intOf i).toNat)
 case atStart=>exact⟨0,_,Nat.zero_le _,rfl,by simp[nsOf,nilN],HO.out.1,HO.out.2⟩
 case round=>
  obtain⟨j,qs,hj,rfl,HI⟩:=hrel
  by_cases hlt:(j:Int)<(n:Int)
  ·obtain⟨b,off,y,he,rfl,hrk,hc⟩:=(HR.out wr HI.out.2.2).el.2.2.2 j (by omega)
   have C:Calls Tryz.prog 28 #[.agg y.A] wr fun e w'=>∃a' b' k' q' z',e=.returned (.agg (ndA a' b' k' q' z' y.n))∧OwnN w' wr.heap.size a' b' k' q' z' y.n∧Below wr.heap.size wr w':=toNode_any y.a y.b y.k y.q y.z y.n wr hrk (HSm.out.at he)
   have HC:Hid (∀i,i<20→wr.cell? ⟨b,off+j*20+i,none⟩=y.A[i]?):=hc
   have HE:Hid ((nsOf ns)[j]?=some y.n):=nsOf_at he
   have HLQ:Hid (n=(nsC qs).length):=by
    have h1:=congrArg List.length HI.out.1
    have h2:=HN.out
    rw[nsOf_len,List.length_append,List.length_take,List.length_replicate]at h1
    rw[Hid,nsC_len];omega
   clear hc hrk he
   go_wp2_with (refine wpList_getO Tryz.isLNd rfl _ rfl b (off+j*20) rfl y.A rfl HC.out ?_)
   refine C.mono ?_
   rintro e w2 ⟨a2,b2',k2,q2,z2,rfl,o2,b2⟩
   have hone:=ndA_one y.n (reads_one o2.oa.reads) (reads_one o2.ob.reads) (reads_one o2.ok.reads) (reads_one o2.oq.reads) (reads_one o2.oz.reads)
   obtain⟨x,hx⟩:∃x:Nv,x=⟨a2,b2',k2,q2,z2,y.n⟩:=⟨_,rfl⟩
   have hxA:ndA a2 b2' k2 q2 z2 y.n=x.A:=by rw[hx];rfl
   have hxn:x.n=y.n:=by rw[hx]
   have hxm:x.mine w2 wr.heap.size:=by rw[hx];exact o2.mine
   rw[hxA]at hone⊢
   have HP:Hid (OwnNs wr w.heap.size (.slice (some ⟨w.heap.size,0,none⟩) n n) qs∧x.mine w2 wr.heap.size∧Below wr.heap.size wr w2∧Below w.heap.size w w2∧x.n=y.n):=⟨HI.out.2.1,hxm,b2,HI.out.2.2.trans (b2.mono HI.out.2.2.size),hxn⟩
   have hrow:=HI.out.2.1.row.below b2
   have hxs:x.A.size=20:=rfl
   clear C HC o2 b2 hx hxA hxm hxn
   go_wp2_with (refine wpList_putRow Tryz.isNd rfl _ _ rfl w.heap.size w.heap.size n n j (nsC qs) x.A hrow HLQ.out (by omega) rfl rfl rfl hone ?_;intro w4 s4 g4)
   have HQ:Hid (nsOf (qs.set j x)=(nsOf ns).take (j+1)++List.replicate (n-(j+1)) Nd.zero∧OwnNs w4 w.heap.size (.slice (some ⟨w.heap.size,0,none⟩) n n) (qs.set j x)∧Below w.heap.size w w4):=by
    refine⟨?_,HP.out.1.setAt HP.out.2.1 HP.out.2.2.1 HI.out.2.2.size s4 g4,HP.out.2.2.2.1.grown g4 HP.out.2.2.2.1.size (fun x e=>by cases e;exact Nat.le_refl _)⟩
    rw[show nsOf (qs.set j x)=(nsOf qs).set j x.n by simp[nsOf,List.map_set],HI.out.1,HP.out.2.2.2.2,fill_nodes _ n j y.n HE.out HN.out]
   clear hrow s4 g4
   go_wp2
   go_roundw
   case rel=>exact⟨j+1,_,by omega,by go_num,HQ.out.1,HQ.out.2.1,HQ.out.2.2⟩
   case measure=>simp[intOf];omega
  ·go_wp2
   go_ret
   have h1:=HI.out.1
   rw[List.take_of_length_le (by have:=HN.out;omega),show n-j=0 by omega]at h1
   exact⟨_,rfl,_,by simpa using h1,HI.out.2.1,HI.out.2.2⟩
theorem toAnswer_any (x:An) (w:World):
  Calls Tryz.prog 57 #[.agg (anA x)] w fun e w'=>e=.returned (.agg (anA x))∧Below w.heap.size w w':=by
 obtain⟨w1,hw1⟩:∃w1,w1=((w.alloc (.cells (anA x) 74)).alloc (.cells (anA ⟨0,[]⟩) 80)).alloc (.cells (anA ⟨0,[]⟩) 80):=⟨_,rfl⟩
 have HP:Hid (StB w1 w.heap.size 74 (anA x)∧StB w1 (w.heap.size+1) 80 (anA ⟨0,[]⟩)∧StB w1 (w.heap.size+1+1) 80 (anA ⟨0,[]⟩)∧Below w.heap.size w w1):=by
  have s2:=StB.new (w.alloc (.cells (anA x) 74)) 80 (anA ⟨0,[]⟩)
  rw[World.size_alloc]at s2
  have s3:=StB.new ((w.alloc (.cells (anA x) 74)).alloc (.cells (anA ⟨0,[]⟩) 80)) 80 (anA ⟨0,[]⟩)
  rw[World.size_alloc,World.size_alloc]at s3
  exact⟨by rw[hw1];exact((StB.new w _ _).alloc _).alloc _,by rw[hw1];exact s2.alloc _,by rw[hw1];exact s3,by rw[hw1];exact(((Below.refl _ _).alloc (Nat.le_refl _) _).alloc (by simp) _).alloc (by simp;omega) _⟩
 unfold anA S at hw1
 unfold anA S
 go_enter Tryz.func57,Tryz.ntmps57
 go_upto_region 2 with fail
 rw[←hw1]
 clear hw1
 have p0:w1.cell? ⟨w.heap.size,0,none⟩=some (.int .i64 x.st):=HP.out.1.cell 0 rfl
 have p1:w1.cell? ⟨w.heap.size,1,none⟩=some (.string ⟨x.tx.toArray⟩):=HP.out.1.cell 1 rfl
 have s0:w1.cell? ⟨w.heap.size+1+1,0,none⟩=some (.int .i64 0):=HP.out.2.2.1.cell 0 rfl
 have s1:w1.cell? ⟨w.heap.size+1+1,1,none⟩=some (.string ⟨#[]⟩):=HP.out.2.2.1.cell 1 rfl
 have f0:=HP.out.2.2.1.frozen 0
 have f1:=HP.out.2.2.1.frozen 1
 obtain⟨w2,hw2⟩:∃w2,w2=(w1.setCell ⟨w.heap.size+1+1,0,none⟩ (.int .i64 x.st)).setCell ⟨w.heap.size+1+1,1,none⟩ (.string ⟨x.tx.toArray⟩):=⟨_,rfl⟩
 have HQ:Hid (StB w2 (w.heap.size+1+1) 80 (anA x)∧StB w2 (w.heap.size+1) 80 (anA ⟨0,[]⟩)∧Below w.heap.size w w2):=by
  rw[hw2]
  refine⟨(HP.out.2.2.1.put 0 (.int .i64 x.st) rfl).put 1 (.string ⟨x.tx.toArray⟩) rfl,(HP.out.2.1.other _ _ ?_).other _ _ ?_,(HP.out.2.2.2.setCell ?_ _).setCell ?_ _⟩
  ·show w.heap.size+1≠w.heap.size+1+1;omega
  ·show w.heap.size+1≠w.heap.size+1+1;omega
  ·show w.heap.size≤w.heap.size+1+1;omega
  ·show w.heap.size≤w.heap.size+1+1;omega
 go_upto_region 4 with fail
 rw[←hw2]
 clear hw2 p0 p1 s0 s1 f0 f1 HP
 go_wp2_with (first|(refine wpList_getS Tryz.isA rfl _ rfl (w.heap.size+1+1) rfl (anA x) rfl HQ.out.1 ?_)|(refine wpList_putS Tryz.isA rfl _ _ rfl (w.heap.size+1) (anA x) (anA ⟨0,[]⟩) rfl rfl rfl rfl (anA_one _) HQ.out.2.1 ?_;intro w19 s19 g19))
 refine bodyPost_ret (results_S Tryz.isA rfl _ _ (w.heap.size+1) _ rfl rfl s19) rfl ?_
 exact⟨rfl,HQ.out.2.2.grown g19 HQ.out.2.2.size (fun k e=>by cases e;omega)⟩
theorem toEvent_any (x:Ev) (w:World):
  Calls Tryz.prog 30 #[.agg (evA x)] w fun e w'=>e=.returned (.agg (evA x))∧Below w.heap.size w w':=by
 have CA:Hid (∀wx,Calls Tryz.prog 57 #[.agg #[.int .i64 x.an.st,.string ⟨x.an.tx.toArray⟩]] wx fun e w'=>e=.returned (.agg #[.int .i64 x.an.st,.string ⟨x.an.tx.toArray⟩])∧Below wx.heap.size wx w'):=fun wx=>toAnswer_any x.an wx
 obtain⟨w1,hw1⟩:∃w1,w1=((w.alloc (.cells (evA x) 76)).alloc (.cells zeroEv 82)).alloc (.cells zeroEv 82):=⟨_,rfl⟩
 have HP:Hid (StB w1 w.heap.size 76 (evA x)∧StB w1 (w.heap.size+1) 82 zeroEv∧StB w1 (w.heap.size+1+1) 82 zeroEv∧Below w.heap.size w w1):=by
  have s2:=StB.new (w.alloc (.cells (evA x) 76)) 82 zeroEv
  rw[World.size_alloc]at s2
  have s3:=StB.new ((w.alloc (.cells (evA x) 76)).alloc (.cells zeroEv 82)) 82 zeroEv
  rw[World.size_alloc,World.size_alloc]at s3
  exact⟨by rw[hw1];exact((StB.new w _ _).alloc _).alloc _,by rw[hw1];exact s2.alloc _,by rw[hw1];exact s3,by rw[hw1];exact(((Below.refl _ _).alloc (Nat.le_refl _) _).alloc (by simp) _).alloc (by simp;omega) _⟩
 unfold evA S zeroEv at hw1
 conv in evA x=>unfold evA S
 go_enter Tryz.func30,Tryz.ntmps30
 go_upto_region 2 with fail
 rw[←hw1]
 clear hw1
 have p0:w1.cell? ⟨w.heap.size,0,none⟩=some (.int .i64 x.kd):=HP.out.1.cell 0 rfl
 have p1:w1.cell? ⟨w.heap.size,1,none⟩=some (.int .i64 x.who):=HP.out.1.cell 1 rfl
 have p2:w1.cell? ⟨w.heap.size,2,none⟩=some (.string ⟨x.bs.toArray⟩):=HP.out.1.cell 2 rfl
 have s0:w1.cell? ⟨w.heap.size+1+1,0,none⟩=some (.int .i64 0):=HP.out.2.2.1.cell 0 rfl
 have s1:w1.cell? ⟨w.heap.size+1+1,1,none⟩=some (.int .i64 0):=HP.out.2.2.1.cell 1 rfl
 have s2:w1.cell? ⟨w.heap.size+1+1,2,none⟩=some (.string ⟨#[]⟩):=HP.out.2.2.1.cell 2 rfl
 have f0:=HP.out.2.2.1.frozen 0
 have f1:=HP.out.2.2.1.frozen 1
 have f2:=HP.out.2.2.1.frozen 2
 obtain⟨w2,hw2⟩:∃w2,w2=((w1.setCell ⟨w.heap.size+1+1,0,none⟩ (.int .i64 x.kd)).setCell ⟨w.heap.size+1+1,1,none⟩ (.int .i64 x.who)).setCell ⟨w.heap.size+1+1,2,none⟩ (.string ⟨x.bs.toArray⟩):=⟨_,rfl⟩
 have HQ:Hid (StB w2 (w.heap.size+1+1) 82 #[.int .i64 x.kd,.int .i64 x.who,S x.bs,.int .i64 0,.string ⟨#[]⟩,.int .i64 0]∧StB w2 w.heap.size 76 (evA x)∧StB w2 (w.heap.size+1) 82 zeroEv∧Below w.heap.size w w2):=by
  rw[hw2]
  refine⟨((HP.out.2.2.1.put 0 (.int .i64 x.kd) rfl).put 1 (.int .i64 x.who) rfl).put 2 (.string ⟨x.bs.toArray⟩) rfl,((HP.out.1.other _ _ ?_).other _ _ ?_).other _ _ ?_,((HP.out.2.1.other _ _ ?_).other _ _ ?_).other _ _ ?_,((HP.out.2.2.2.setCell ?_ _).setCell ?_ _).setCell ?_ _⟩
  ·show w.heap.size≠w.heap.size+1+1;omega
  ·show w.heap.size≠w.heap.size+1+1;omega
  ·show w.heap.size≠w.heap.size+1+1;omega
  ·show w.heap.size+1≠w.heap.size+1+1;omega
  ·show w.heap.size+1≠w.heap.size+1+1;omega
  ·show w.heap.size+1≠w.heap.size+1+1;omega
  ·show w.heap.size≤w.heap.size+1+1;omega
  ·show w.heap.size≤w.heap.size+1+1;omega
  ·show w.heap.size≤w.heap.size+1+1;omega
 go_upto_region 5 with fail
 rw[←hw2]
 clear hw2 p0 p1 p2 s0 s1 s2 f0 f1 f2 HP
 have p3:w2.cell? ⟨w.heap.size,3,none⟩=some (.int .i64 x.an.st):=HQ.out.2.1.cell 3 rfl
 have p4:w2.cell? ⟨w.heap.size,4,none⟩=some (.string ⟨x.an.tx.toArray⟩):=HQ.out.2.1.cell 4 rfl
 go_wp2_with fail
 refine(CA.out w2).mono ?_
 rintro e w3 ⟨rfl,b3⟩
 replace HQ:Hid (StB w3 (w.heap.size+1+1) 82 #[.int .i64 x.kd,.int .i64 x.who,S x.bs,.int .i64 0,.string ⟨#[]⟩,.int .i64 0]∧StB w3 w.heap.size 76 (evA x)∧StB w3 (w.heap.size+1) 82 zeroEv∧Below w.heap.size w w3):=⟨HQ.out.1.below b3,HQ.out.2.1.below b3,HQ.out.2.2.1.below b3,HQ.out.2.2.2.trans (b3.mono HQ.out.2.2.2.size)⟩
 clear b3 p3 p4 CA
 have p5:w3.cell? ⟨w.heap.size,5,none⟩=some (.int .i64 x.set):=HQ.out.2.1.cell 5 rfl
 have s3:w3.cell? ⟨w.heap.size+1+1,3,none⟩=some (.int .i64 0):=HQ.out.1.cell 3 rfl
 have s4:w3.cell? ⟨w.heap.size+1+1,4,none⟩=some (.string ⟨#[]⟩):=HQ.out.1.cell 4 rfl
 have s5:w3.cell? ⟨w.heap.size+1+1,5,none⟩=some (.int .i64 0):=HQ.out.1.cell 5 rfl
 have f3:=HQ.out.1.frozen 3
 have f4:=HQ.out.1.frozen 4
 have f5:=HQ.out.1.frozen 5
 obtain⟨w4,hw4⟩:∃w4,w4=((w3.setCell ⟨w.heap.size+1+1,3,none⟩ (.int .i64 x.an.st)).setCell ⟨w.heap.size+1+1,4,none⟩ (.string ⟨x.an.tx.toArray⟩)).setCell ⟨w.heap.size+1+1,5,none⟩ (.int .i64 x.set):=⟨_,rfl⟩
 have H4:Hid (StB w4 (w.heap.size+1+1) 82 (evA x)∧StB w4 (w.heap.size+1) 82 zeroEv∧Below w.heap.size w w4):=by
  rw[hw4]
  refine⟨((HQ.out.1.put 3 (.int .i64 x.an.st) rfl).put 4 (.string ⟨x.an.tx.toArray⟩) rfl).put 5 (.int .i64 x.set) rfl,((HQ.out.2.2.1.other _ _ ?_).other _ _ ?_).other _ _ ?_,((HQ.out.2.2.2.setCell ?_ _).setCell ?_ _).setCell ?_ _⟩
  ·show w.heap.size+1≠w.heap.size+1+1;omega
  ·show w.heap.size+1≠w.heap.size+1+1;omega
  ·show w.heap.size+1≠w.heap.size+1+1;omega
  ·show w.heap.size≤w.heap.size+1+1;omega
  ·show w.heap.size≤w.heap.size+1+1;omega
  ·show w.heap.size≤w.heap.size+1+1;omega
 go_upto_region 7 with fail
 rw[←hw4]
 clear hw4 HQ p5 s3 s4 s5 f3 f4 f5
 go_wp2_with (first|(refine wpList_getS Tryz.isEv rfl _ rfl (w.heap.size+1+1) rfl (evA x) rfl H4.out.1 ?_)|(refine wpList_putS Tryz.isEv rfl _ _ rfl (w.heap.size+1) (evA x) zeroEv rfl rfl rfl rfl (evA_one _) H4.out.2.1 ?_;intro w19 s19 g19))
 refine bodyPost_ret (results_S Tryz.isEv rfl _ _ (w.heap.size+1) _ rfl rfl s19) rfl ?_
 exact⟨rfl,H4.out.2.2.grown g19 H4.out.2.2.size (fun k e=>by cases e;omega)⟩
theorem toEventS_any (v:Value) (es:List Ev) (w:World) (hr:RdE w v es) (hl:es.length≤1048576):
  Calls Tryz.prog 16 #[v] w fun e w'=>∃u,e=.returned u∧OwnE w' w.heap.size u es∧Below w.heap.size w w':=by
 obtain⟨i0,hi,hz0,hz1,hz2⟩:=info_parts Tryz.infoEv
 obtain⟨ao,cap,rfl⟩:=hr.form
 have HR:Hid (∀wx,Below w.heap.size w wx→RdE wx (.slice ao es.length cap) es):=fun wx b=>hr.below b
 obtain⟨-,hnc,hcm, -⟩:=hr.el
 unfold maxLen at hcm
 clear hr
 obtain⟨n,hn⟩:∃n,n=es.length:=⟨_,rfl⟩
 rw[←hn]at HR hnc hl⊢
 have HN:Hid (n=es.length):=hn
 clear hn
 go_enter Tryz.func16,Tryz.ntmps16
 go_wp2_with (refine wpList_make_full _ rfl _ _ 31 rfl w.heap.size 82 i0 (.agg zeroEv) 6 Tryz.underlying31 hi hz0 hz1 _ _ _ _ n rfl rfl rfl rfl (by rw[hz2];omega) (by unfold maxLen;omega) (Nat.le_refl _) ?_)
 intro w1 hown hgr
 have HO:Hid (OwnE w1 w.heap.size (.slice (some ⟨w.heap.size,0,none⟩) n n) (List.replicate n Ev.zero)∧Below w.heap.size w w1):=⟨OwnE.made hown,(Below.refl _ _).grown hgr (Nat.le_refl _) (fun k e=>by cases e)⟩
 clear hown hgr
 go_wp2
 go_loopw [4] (fun i wr=>∃j:Nat,j≤n∧i=.int .i64 j∧Hid (OwnE wr w.heap.size (.slice (some ⟨w.heap.size,0,none⟩) n n) (es.take j++List.replicate (n-j) Ev.zero)∧Below w.heap.size w wr)) (fun i _=>n-(intOf i).toNat)
 case atStart=>exact⟨0,Nat.zero_le _,rfl,by simpa using HO.out.1,HO.out.2⟩
 case round=>
  obtain⟨j,hj,rfl,HI⟩:=hrel
  by_cases hlt:(j:Int)<(n:Int)
  ·obtain⟨b,off,y,he,rfl,hc⟩:=(HR.out wr HI.out.2).el.2.2.2 j (by omega)
   have C:=toEvent_any y wr
   have HC:Hid (∀i,i<6→wr.cell? ⟨b,off+j*6+i,none⟩=(evA y)[i]?):=hc
   have HE:Hid (es[j]?=some y):=he
   have HLQ:Hid (n=(evC (es.take j++List.replicate (n-j) Ev.zero)).length):=by
    rw[Hid,evC_len,List.length_append,List.length_take,List.length_replicate]
    have:=HN.out
    omega
   clear hc he
   go_wp2_with (refine wpList_getO Tryz.isLEv rfl _ rfl b (off+j*6) rfl (evA y) rfl HC.out ?_)
   refine C.mono ?_
   rintro e w2 ⟨rfl,b2⟩
   have HP:Hid (Below w.heap.size w w2):=HI.out.2.trans (b2.mono HI.out.2.size)
   have hrow:OwnRow w2 w.heap.size 82 6 (.slice (some ⟨w.heap.size,0,none⟩) n n) (evC (es.take j++List.replicate (n-j) Ev.zero)):=OwnE.below HI.out.1 b2
   clear C HC b2
   go_wp2_with (refine wpList_putRow Tryz.isEv rfl _ _ rfl w.heap.size w.heap.size n n j (evC (es.take j++List.replicate (n-j) Ev.zero)) (evA y) hrow HLQ.out (by omega) rfl rfl rfl (evA_one y) ?_;intro w4 s4 g4)
   have HQ:Hid (OwnE w4 w.heap.size (.slice (some ⟨w.heap.size,0,none⟩) n n) (es.take (j+1)++List.replicate (n-(j+1)) Ev.zero)∧Below w.heap.size w w4):=by
    refine⟨?_,HP.out.grown g4 HP.out.size (fun x e=>by cases e;exact Nat.le_refl _)⟩
    rw[←fill_evs es n j y HE.out HN.out]
    exact OwnE.setAt s4
   clear hrow s4 g4
   go_wp2
   go_roundw
   case rel=>exact⟨j+1,by omega,by go_num,HQ.out.1,HQ.out.2⟩
   case measure=>simp[intOf];omega
  ·go_wp2
   go_ret
   have h1:=HI.out.1
   rw[List.take_of_length_le (by have:=HN.out;omega),show n-j=0 by omega]at h1
   exact⟨_,rfl,by simpa using h1,HI.out.2⟩
theorem eqNodeS_any (v v2:Value) (ns qs:List Nv) (w:World) (hr:RdNs w v ns) (hr2:RdNs w v2 qs) (he:nsOf ns=nsOf qs) (hs:SmNs ns) (hl:ns.length≤1048576):
  Calls Tryz.prog 19 #[v,v2] w fun e w'=>e=.returned (.bool true)∧Below w.heap.size w w':=by
 have hlen:qs.length=ns.length:=by rw[←nsOf_len,←nsOf_len,he]
 obtain⟨ao,cap,rfl⟩:=hr.form
 obtain⟨ao2,cap2,rfl⟩:=hr2.form
 have HR:Hid (∀wx,Below w.heap.size w wx→RdNs wx (.slice ao ns.length cap) ns):=fun wx b=>hr.below b
 have HR2:Hid (∀wx,Below w.heap.size w wx→RdNs wx (.slice ao2 qs.length cap2) qs):=fun wx b=>hr2.below b
 obtain⟨-,hnc,hcm, -⟩:=hr.el
 obtain⟨-,hnc2,hcm2, -⟩:=hr2.el
 unfold maxLen at hcm hcm2
 rw[hlen]at HR2 hnc2⊢
 clear hr hr2
 obtain⟨n,hn⟩:∃n,n=ns.length:=⟨_,rfl⟩
 rw[←hn]at HR HR2 hnc hnc2 hl⊢
 have HN:Hid (n=ns.length):=hn
 have HSm:Hid (SmNs ns∧nsOf ns=nsOf qs):=⟨hs,he⟩
 clear hn hs he hlen
 go_enter Tryz.func19,Tryz.ntmps19
 go_wp2
 go_loopw [5] (fun i wr=>∃j:Nat,j≤n∧i=.int .i64 j∧Hid (Below w.heap.size w wr)) (fun i _=>n-(intOf i).toNat)
 case atStart=>exact⟨0,Nat.zero_le _,rfl,Below.refl _ _⟩
 case round=>
  obtain⟨j,hj,rfl,HI⟩:=hrel
  by_cases hlt:(j:Int)<(n:Int)
  ·obtain⟨b,off,y,he,rfl,hrk,hc⟩:=(HR.out wr HI.out).el.2.2.2 j (by omega)
   obtain⟨b2,off2,y2,he2,rfl,hrk2,hc2⟩:=(HR2.out wr HI.out).el.2.2.2 j (by omega)
   have hm:y2.n=y.n:=by
    have h1:=nsOf_at he
    have h2:=nsOf_at he2
    rw[HSm.out.2,h2]at h1
    exact Option.some.inj h1
   have C:Hid (∀wx,Below wr.heap.size wr wx→Calls Tryz.prog 34 #[.agg y.A,.agg y2.A] wx fun e w'=>e=.returned (.bool true)∧Below wx.heap.size wx w'):=fun wx bb=>by
    have h2:RdN wx y2.a y2.b y2.k y2.q y2.z y.n:=by rw[←hm];exact RdN.below hrk2 bb
    have hA:y2.A=ndA y2.a y2.b y2.k y2.q y2.z y.n:=by rw[←hm];rfl
    rw[hA]
    exact eqNode_any y.a y.b y.k y.q y.z y2.a y2.b y2.k y2.q y2.z y.n wx (RdN.below hrk bb) h2 (HSm.out.1.at he)
   have c1:Hid (∀wx,Below wr.heap.size wr wx→∀i,i<20→wx.cell? ⟨b,off+j*20+i,none⟩=y.A[i]?):=fun wx bb=>cells_bel (Nat.le_refl 20) hc bb
   have c2:Hid (∀wx,Below wr.heap.size wr wx→∀i,i<20→wx.cell? ⟨b2,off2+j*20+i,none⟩=y2.A[i]?):=fun wx bb=>cells_bel (Nat.le_refl 20) hc2 bb
   have z0:(0:Int)≤(j:Int):=by omega
   clear hc hc2 hrk hrk2 he he2 hm
   go_upto_region 6 with fail
   obtain⟨C',hCd⟩:∃C',C'=fun x=>Below wr.heap.size wr x:=⟨_,rfl⟩
   have HQ:Hid (∀x,C' x→Below wr.heap.size wr x):=by rw[hCd];exact fun _ h=>h
   have HNx:Hid (∀x y,C' x→Later x y→C' y):=by rw[hCd];exact fun _ _ h b=>h.trans (b.mono h.size)
   have H0:Hid (C' wr.drew):=by rw[hCd];exact(Below.refl _ _).drew
   have hne:Nonempty (Kin C'):=⟨⟨_,H0.out⟩⟩
   clear hCd
   refine wp_region_gs (C:=C') (E:=byDst fun d=>if d=25 then some (truth true)else none) (R:=Later) HNx.out (byDst_later (by intro d s hs u x y hx hl;split at hs;(cases hs;exact truthC_later hx hl);cases hs)) (byDst_looks _ _) (by kernel_rfl) (by kernel_rfl) H0.out ?_
   iterate 3 (refine gs_plain rfl (fun K hK=>?_);go_simp;refine hK _ ?_;clear hK K)
   refine gs_loadO Tryz.isNd rfl (by first|rfl|kernel_rfl) _ rfl b (off+j*20) rfl y.A rfl (fun q=>c1.out _ (HQ.out _ q.h)) ?_
   iterate 3 (refine gs_plain rfl (fun K hK=>?_);go_simp;refine hK _ ?_;clear hK K)
   refine gs_loadO Tryz.isNd rfl (by first|rfl|kernel_rfl) _ rfl b2 (off2+j*20) rfl y2.A rfl (fun q=>c2.out _ (HQ.out _ q.h)) ?_
   refine gs_call (truth true) rfl (by first|rfl|kernel_rfl) (fun wq hB=>?_) (fun uq hu=>?_)
   ·go_simp
    refine⟨rfl,?_⟩
    exact truth_of (fun _ h=>h) (C.out _ (HQ.out _ hB.1))
   obtain rfl:=hu
   iterate 1 (refine gs_plain rfl (fun K hK=>?_);go_simp;refine hK _ ?_;clear hK K)
   refine gs_end (fun w5 hz=>?_)
   have HB:Hid (Below w.heap.size w w5):=HI.out.trans ((HQ.out _ hz.1).mono HI.out.size)
   clear hz HQ HNx H0 hne C c1 c2
   go_wp2
   go_roundw
   case rel=>exact⟨j+1,by omega,by go_num,HB.out⟩
   case measure=>simp[intOf];omega
  ·go_wp2
   go_ret
   exact⟨rfl,HI.out⟩
theorem eqEvent_any (x:Ev) (w:World):
  Calls Tryz.prog 36 #[.agg (evA x),.agg (evA x)] w fun e w'=>e=.returned (.bool true)∧Below w.heap.size w w':=by
 have CA:Hid (∀wx,Calls Tryz.prog 67 #[.agg #[.int .i64 x.an.st,.string ⟨x.an.tx.toArray⟩],.agg #[.int .i64 x.an.st,.string ⟨x.an.tx.toArray⟩]] wx fun e w'=>e=.returned (.bool true)∧Below wx.heap.size wx w'):=fun wx=>eqAnswer_self x.an wx
 obtain⟨w1,hw1⟩:∃w1,w1=(w.alloc (.cells (evA x) 82)).alloc (.cells (evA x) 82):=⟨_,rfl⟩
 have b1:Below w.heap.size w w1:=by rw[hw1];exact((Below.refl _ _).alloc (Nat.le_refl _) _).alloc (by simp) _
 have HP:Hid (StB w1 w.heap.size 82 (evA x)∧StB w1 (w.heap.size+1) 82 (evA x)∧Below w.heap.size w w1):=by
  have s2:=StB.new (w.alloc (.cells (evA x) 82)) 82 (evA x)
  rw[World.size_alloc]at s2
  exact⟨by rw[hw1];exact(StB.new w _ _).alloc _,by rw[hw1];exact s2,b1⟩
 clear b1
 unfold evA S at hw1
 unfold evA S
 go_enter Tryz.func36,Tryz.ntmps36
 go_upto_region 1 with fail
 rw[←hw1]
 clear hw1
 have p0:w1.cell? ⟨w.heap.size,0,none⟩=some (.int .i64 x.kd):=HP.out.1.cell 0 rfl
 have r0:w1.cell? ⟨w.heap.size+1,0,none⟩=some (.int .i64 x.kd):=HP.out.2.1.cell 0 rfl
 have p1:w1.cell? ⟨w.heap.size,1,none⟩=some (.int .i64 x.who):=HP.out.1.cell 1 rfl
 have r1:w1.cell? ⟨w.heap.size+1,1,none⟩=some (.int .i64 x.who):=HP.out.2.1.cell 1 rfl
 have p2:w1.cell? ⟨w.heap.size,2,none⟩=some (.string ⟨x.bs.toArray⟩):=HP.out.1.cell 2 rfl
 have r2:w1.cell? ⟨w.heap.size+1,2,none⟩=some (.string ⟨x.bs.toArray⟩):=HP.out.2.1.cell 2 rfl
 have p3:w1.cell? ⟨w.heap.size,3,none⟩=some (.int .i64 x.an.st):=HP.out.1.cell 3 rfl
 have r3:w1.cell? ⟨w.heap.size+1,3,none⟩=some (.int .i64 x.an.st):=HP.out.2.1.cell 3 rfl
 have p4:w1.cell? ⟨w.heap.size,4,none⟩=some (.string ⟨x.an.tx.toArray⟩):=HP.out.1.cell 4 rfl
 have r4:w1.cell? ⟨w.heap.size+1,4,none⟩=some (.string ⟨x.an.tx.toArray⟩):=HP.out.2.1.cell 4 rfl
 go_upto_region 7 with fail
 go_wp2_with fail
 refine(CA.out w1).mono ?_
 rintro e w2 ⟨rfl,b2⟩
 have q5:w2.cell? ⟨w.heap.size,5,none⟩=some (.int .i64 x.set):=(HP.out.1.below b2).cell 5 rfl
 have t5:w2.cell? ⟨w.heap.size+1,5,none⟩=some (.int .i64 x.set):=(HP.out.2.1.below b2).cell 5 rfl
 have HB:Hid (Below w.heap.size w w2):=HP.out.2.2.trans (b2.mono HP.out.2.2.size)
 clear HP b2 CA p0 p1 p2 p3 p4 r0 r1 r2 r3 r4
 go_wp2
 go_ret
 exact⟨rfl,HB.out⟩
theorem eqEventS_any (v v2:Value) (es:List Ev) (w:World) (hr:RdE w v es) (hr2:RdE w v2 es):
  Calls Tryz.prog 21 #[v,v2] w fun e w'=>e=.returned (.bool true)∧Below w.heap.size w w':=by
 obtain⟨ao,cap,rfl⟩:=hr.form
 obtain⟨ao2,cap2,rfl⟩:=hr2.form
 have HR:Hid (∀wx,Below w.heap.size w wx→RdE wx (.slice ao es.length cap) es):=fun wx b=>hr.below b
 have HR2:Hid (∀wx,Below w.heap.size w wx→RdE wx (.slice ao2 es.length cap2) es):=fun wx b=>hr2.below b
 obtain⟨-,hnc,hcm, -⟩:=hr.el
 obtain⟨-,hnc2,hcm2, -⟩:=hr2.el
 unfold maxLen at hcm hcm2
 clear hr hr2
 obtain⟨n,hn⟩:∃n,n=es.length:=⟨_,rfl⟩
 rw[←hn]at HR HR2 hnc hnc2⊢
 have HN:Hid (n=es.length):=hn
 clear hn
 go_enter Tryz.func21,Tryz.ntmps21
 go_wp2
 go_loopw [5] (fun i wr=>∃j:Nat,j≤n∧i=.int .i64 j∧Hid (Below w.heap.size w wr)) (fun i _=>n-(intOf i).toNat)
 case atStart=>exact⟨0,Nat.zero_le _,rfl,Below.refl _ _⟩
 case round=>
  obtain⟨j,hj,rfl,HI⟩:=hrel
  by_cases hlt:(j:Int)<(n:Int)
  ·obtain⟨b,off,y,he,rfl,hc⟩:=(HR.out wr HI.out).el.2.2.2 j (by omega)
   obtain⟨b2,off2,y2,he2,rfl,hc2⟩:=(HR2.out wr HI.out).el.2.2.2 j (by omega)
   have hm:y2=y:=by rw[he2]at he;exact Option.some.inj he
   subst hm
   have C:Hid (∀wx,Below wr.heap.size wr wx→Calls Tryz.prog 36 #[.agg (evA y2),.agg (evA y2)] wx fun e w'=>e=.returned (.bool true)∧Below wx.heap.size wx w'):=fun wx _=>eqEvent_any y2 wx
   have c1:Hid (∀wx,Below wr.heap.size wr wx→∀i,i<6→wx.cell? ⟨b,off+j*6+i,none⟩=(evA y2)[i]?):=fun wx bb=>cells_bel (Nat.le_refl 6) hc bb
   have c2:Hid (∀wx,Below wr.heap.size wr wx→∀i,i<6→wx.cell? ⟨b2,off2+j*6+i,none⟩=(evA y2)[i]?):=fun wx bb=>cells_bel (Nat.le_refl 6) hc2 bb
   have z0:(0:Int)≤(j:Int):=by omega
   clear hc hc2 he he2
   go_upto_region 6 with fail
   obtain⟨C',hCd⟩:∃C',C'=fun x=>Below wr.heap.size wr x:=⟨_,rfl⟩
   have HQ:Hid (∀x,C' x→Below wr.heap.size wr x):=by rw[hCd];exact fun _ h=>h
   have HNx:Hid (∀x y,C' x→Later x y→C' y):=by rw[hCd];exact fun _ _ h b=>h.trans (b.mono h.size)
   have H0:Hid (C' wr.drew):=by rw[hCd];exact(Below.refl _ _).drew
   have hne:Nonempty (Kin C'):=⟨⟨_,H0.out⟩⟩
   clear hCd
   refine wp_region_gs (C:=C') (E:=byDst fun d=>if d=25 then some (truth true)else none) (R:=Later) HNx.out (byDst_later (by intro d s hs u x y hx hl;split at hs;(cases hs;exact truthC_later hx hl);cases hs)) (byDst_looks _ _) (by kernel_rfl) (by kernel_rfl) H0.out ?_
   iterate 3 (refine gs_plain rfl (fun K hK=>?_);go_simp;refine hK _ ?_;clear hK K)
   refine gs_loadO Tryz.isEv rfl (by first|rfl|kernel_rfl) _ rfl b (off+j*6) rfl (evA y2) rfl (fun q=>c1.out _ (HQ.out _ q.h)) ?_
   iterate 3 (refine gs_plain rfl (fun K hK=>?_);go_simp;refine hK _ ?_;clear hK K)
   refine gs_loadO Tryz.isEv rfl (by first|rfl|kernel_rfl) _ rfl b2 (off2+j*6) rfl (evA y2) rfl (fun q=>c2.out _ (HQ.out _ q.h)) ?_
   refine gs_call (truth true) rfl (by first|rfl|kernel_rfl) (fun wq hB=>?_) (fun uq hu=>?_)
   ·go_simp
    refine⟨rfl,?_⟩
    exact truth_of (fun _ h=>h) (C.out _ (HQ.out _ hB.1))
   obtain rfl:=hu
   iterate 1 (refine gs_plain rfl (fun K hK=>?_);go_simp;refine hK _ ?_;clear hK K)
   refine gs_end (fun w5 hz=>?_)
   have HB:Hid (Below w.heap.size w w5):=HI.out.trans ((HQ.out _ hz.1).mono HI.out.size)
   clear hz HQ HNx H0 hne C c1 c2
   go_wp2
   go_roundw
   case rel=>exact⟨j+1,by omega,by go_num,HB.out⟩
   case measure=>simp[intOf];omega
  ·go_wp2
   go_ret
   exact⟨rfl,HI.out⟩
end Go.Proofs.YtflbcjgkdokhiaaGreatDoor
