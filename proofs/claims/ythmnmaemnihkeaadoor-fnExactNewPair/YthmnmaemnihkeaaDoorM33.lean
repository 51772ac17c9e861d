/- A new house isn't great. -/
import Derived.Test.YthmnmaemnihkeaaDoorINodeF
import Derived.Test.YthmnmaemnihkeaaDoorM26
import Derived.Test.YthmnmaemnihkeaaDoorM27
import Derived.Test.YthmnmaemnihkeaaDoorM28
import Derived.Test.YthmnmaemnihkeaaDoorLPost2
import Derived.Test.YthmnmaemnihkeaaDoorGiv
import Derived.Test.YthmnmaemnihkeaaDoorM24
import Derived.Test.YthmnmaemnihkeaaDoorM13
import Derived.Test.YthmnmaemnihkeaaDoorM14
import Derived.Test.YthmnmaemnihkeaaDoorM17
namespace Go.Proofs.YthmnmaemnihkeaaDoor
open Go.ChangeShapes Go.WideShapes Go.ChangeAt Go.RowKit
theorem Nd.new_sm (id bl:Int) (o:Bool):SmN (Nd.new id bl o)∧(Nd.new id bl o).len≤1048576:=by
 cases h:Nd.made id bl with
 |false=>
  rw[Nd.new_no h]
  exact⟨(Fine.sm (.inl rfl)),(Fine.len (.inl rfl))⟩
 |true=>
  rw[Nd.new_yes h]
  have hc:cntOk bl=true:=by
   unfold Nd.made at h
   simp only[Bool.and_eq_true]at h
   exact h.1
  have hz:(zerosI bl).length≤8:=by
   unfold zerosI
   split
   ·rw[List.length_replicate]
    omega
   ·exact Nat.zero_le _
  have hl:=framed_show_len (firstR o) (firstR_ok o)
  exact⟨⟨by show(zerosI bl).length≤_;omega,by show(zerosI bl).length≤_;omega,by show Hd.new.ks.length≤1048576;decide,by show Cp.zero.ts.length≤1048576;decide,by show Sn.zero.ts.length≤1048576;decide,by show(framed (showR (firstR o))).length≤_;omega⟩,by show(zerosI bl).length+(zerosI bl).length+4+0+0≤1048576;omega⟩
end Go.Proofs.YthmnmaemnihkeaaDoor
namespace Go.Proofs.YthmnmaemnihkeaaDoor
open Go.ChangeShapes Go.WideShapes Go.ChangeAt Go.RowKit
def newNs (bl:Int):List Nd:=if Nd.made 0 bl then[Nd.new 0 bl true,Nd.new 1 bl false]else[]
theorem made_is (bl:Int):Nd.made 1 bl=Nd.made 0 bl:=rfl
theorem run_litN (w:World) (x y:Nv):(Instr.buildSlice 22 2 #[(0,.agg x.A),(1,.agg y.A)]).run Tryd.prog w=.ok (.slice (some ⟨w.heap.size,0,none⟩) 2 2) (w.alloc (.cells (x.A++y.A) 44)):=by
 obtain⟨a,b,k,q,z,n⟩:=x
 obtain⟨a',b',k',q',z',n'⟩:=y
 unfold Nv.A ndA
 kernel_rfl
theorem wpList_litN {ops:Array Oper} {rest:List Oper} {o:Oper} {a:Act} {w:World} {Q:Exit→Act→World→Prop} (hgd:o.guard=none) (x1 x2:Operand) (ho:o.op=.buildSlice 22 2 #[(0,x1),(1,x2)]) (x y:Nv) (hx:a.eval x1=.agg x.A) (hy:a.eval x2=.agg y.A)
  (h:wpList Tryd.prog ops Q rest (a.put o.dst (.slice (some ⟨w.heap.size,0,none⟩) 2 2)) (w.alloc (.cells (x.A++y.A) 44))):wpList Tryd.prog ops Q (o::rest) a w:=by
 refine wpList_plain hgd fun K hK=>?_
 have hp:(#[((0:Nat),x1),(1,x2)].map fun q=>(q.1,a.eval q.2))=#[(0,.agg x.A),(1,.agg y.A)]:=by simp[hx,hy]
 unfold Oper.wp execOp
 simp only[ho,hp,Sem.run_bind,run_litN,Result.andThen_ok]
 exact hK _ _ h
theorem OwnNs.two {w:World} {base:Nat} {x y:Nv} (hx:x.mine w base) (hy:y.mine w base) (hb:base≤w.heap.size) (ap:∀b∈x.bl,b∉y.bl):OwnNs (w.alloc (.cells (x.A++y.A) 44)) base (.slice (some ⟨w.heap.size,0,none⟩) 2 2) [x,y]:=by
 have B:Below w.heap.size w (w.alloc (.cells (x.A++y.A) 44)):=(Below.refl _ _).alloc (Nat.le_refl _) _
 have hs:(x.A++y.A).size=2*20:=by rw[Array.size_append];rfl
 refine⟨⟨nsC_sz _,?_⟩,?_,?_⟩
 ·have e:flatC (nsC [x,y])=(x.A++y.A).toList:=by simp[flatC,nsC]
  refine⟨flatC_len _ (nsC_sz _),.inr ⟨w.heap.size,2,x.A++y.A,rfl,hb,heap_alloc_new w _,Nat.le_refl _,by decide,hs,?_⟩⟩
  rw[e,List.take_of_length_le (by rw[Array.length_toList,hs];exact Nat.le_refl _)]
 ·intro p hp
  rcases List.mem_cons.1 hp with rfl|hp
  ·exact MineN.below hx B
  ·rw[List.mem_singleton]at hp
   subst hp
   exact MineN.below hy B
 ·exact List.Pairwise.cons (fun q hq=>by rw[List.mem_singleton]at hq;subst hq;exact ap) (List.pairwise_singleton _ _)
theorem two_blk {w:World} {base:Nat} {x y:Nv} (hx:x.mine w base) (hy:y.mine w base):∀b∈nvB (.slice (some ⟨w.heap.size,0,none⟩) 2 2) [x,y],b≤w.heap.size:=by
 intro b hb
 rcases List.mem_append.1 hb with hb|hb
 ·have:b=w.heap.size:=by simpa[blk,Value.ownBlock]using hb
  omega
 ·obtain⟨p,hp,hq⟩:=List.mem_flatMap.1 hb
  rcases List.mem_cons.1 hp with rfl|hp
  ·exact Nat.le_of_lt (MineN.lt hx hq).2
  ·rw[List.mem_singleton]at hp
   subst hp
   exact Nat.le_of_lt (MineN.lt hy hq).2
theorem OwnPr.nil (w:World) (base:Nat):OwnPr w base (.slice none 0 0) (.slice none 0 0) (.slice none 0 0) [] [] []:=
 ⟨OwnNs.nil _ _,OwnP.nil _ _,OwnE.nil _ _,fun y h=>by simp[nvB,blk,Value.ownBlock,nsB]at h,fun y h=>by simp[nvB,blk,Value.ownBlock,nsB]at h,fun y h=>by simp[psB,blk,Value.ownBlock,kcs]at h⟩
end Go.Proofs.YthmnmaemnihkeaaDoor
set_option maxRecDepth 20000
set_option maxHeartbeats 4000000
namespace Go.Proofs.YthmnmaemnihkeaaDoor
open Go.ChangeShapes Go.WideShapes Go.ChangeAt Go.RowKit
theorem Nd.new_tiny (id bl:Int) (o:Bool):(Nd.new id bl o).len+(Nd.new id bl o).log.length≤1000:=by
 cases h:Nd.made id bl with
 |false=>
  rw[Nd.new_no h]
  decide
 |true=>
  rw[Nd.new_yes h]
  have hc:cntOk bl=true:=by
   unfold Nd.made at h
   simp only[Bool.and_eq_true]at h
   exact h.1
  have hz:(zerosI bl).length≤8:=by
   unfold zerosI
   split
   ·rw[List.length_replicate]
    omega
   ·exact Nat.zero_le _
  have hl:=framed_show_len (firstR o) (firstR_ok o)
  show(zerosI bl).length+(zerosI bl).length+4+0+0+(framed (showR (firstR o))).length≤1000
  omega
theorem newNs_sm {ns:List Nv} {bl:Int} (e:nsOf ns=newNs bl):SmPr ns [] []:=by
 have h1:∀y∈ns,SmN y.n∧y.n.len+y.n.log.length≤1000:=fun y hy=>by
  have hm:y.n∈newNs bl:=by rw[←e];exact List.mem_map_of_mem hy
  unfold newNs at hm
  split at hm
  ·rcases List.mem_cons.1 hm with h|h
   ·rw[h];exact⟨(Nd.new_sm _ _ _).1,Nd.new_tiny _ _ _⟩
   ·rw[List.mem_singleton.1 h];exact⟨(Nd.new_sm _ _ _).1,Nd.new_tiny _ _ _⟩
  ·cases hm
 have h2:ns.length≤2:=by
  have:=congrArg List.length e
  rw[nsOf_len]at this
  rw[this]
  unfold newNs
  split<;>simp
 have h3:totV ns≤2000:=by
  unfold totV
  match ns,h1,h2 with
  |[],_,_=>simp
  |[a],h1,_=>have:=(h1 a (by simp)).2;simp;omega
  |[a,b],h1,_=>have:=(h1 a (by simp)).2;have:=(h1 b (by simp)).2;simp;omega
  |_::_::_::_,_,h2=>simp at h2
 exact⟨fun y hy=>(h1 y hy).1,by omega,fun _ h=>(by cases h),by simp,by simp,by omega,by simp[totK],by simp[totE]⟩
theorem inkPE0 (ns:List Nv):inkPE 1 ns [] []=inkNE 1 ns:=by simp[inkPE,inkE,totK]
theorem heldEvent0_any (ao:Option Addr) (cap:Nat) (k:Int) (w:World):
  Calls Tryd.prog 19 #[.slice ao 0 cap,.int .i64 k] w fun e w'=>e=.returned (.int .i64 k)∧w'=w:=by
 go_enter Tryd.func19,Tryd.ntmps19
 go_wp2
 go_loop [1,5] (fun l i=>i=.int .i64 0∧l=.int .i64 k) (fun _ _=>0)
 case atStart=>exact⟨rfl,rfl⟩
 case round=>
  obtain⟨rfl,rfl⟩:=hrel
  go_wp2
  go_ret
  exact⟨rfl,rfl⟩
theorem heldPair0_any (u v x:Value) (ns:List Nv) (w:World) (hr:RdPr w u v x (inkNL 1 ns) [] []) (hs:SmPr ns [] []):
  Calls Tryd.prog 8 #[PrV u v x,.int .i64 1] w fun e w'=>e=.returned (.int .i64 (inkNE 1 ns))∧Below w.heap.size w w':=by
 have hln:∀y∈ns,y.n.len≤1048576:=fun y hy=>by
  have h1:=len_totV ns y hy
  have h2:=hs.tn
  omega
 have hsum:15*ns.length+(ns.map fun y=>y.n.len).sum≤67108864:=by
  have h1:=totV_len ns
  have h2:=hs.tn
  have h3:=hs.ln
  omega
 have CN:Hid (∀wx,Below w.heap.size w wx→Calls Tryd.prog 17 #[u,.int .i64 1] wx fun e w'=>e=.returned (.int .i64 (inkNE 1 ns))∧Below wx.heap.size wx w'):=fun wx b=>heldNodeS_any u ns 1 wx (hr.below b).rn (by omega) hln (by decide) (by decide)
 obtain⟨k1,hk1⟩:∃k1,k1=inkNE 1 ns:=⟨_,rfl⟩
 have B1:1≤k1∧k1≤67108865:=by rw[hk1];unfold inkNE;omega
 rw[←hk1]at CN⊢
 have CM:Hid (∀wx,Below w.heap.size w wx→Calls Tryd.prog 18 #[v,.int .i64 k1] wx fun e w'=>e=.returned (.int .i64 k1)∧w'=wx):=fun wx b=>by
  have h:=heldMsgS_any v [] k1 wx (hr.below b).rp (by simp[totK]) (fun _ h=>(by cases h)) (by omega) (by omega)
  rwa[show inkE k1 []=k1 by simp[inkE,totK]]at h
 obtain⟨uo,uc,rfl⟩:=hr.rn.form
 obtain⟨vo,vc,rfl⟩:=hr.rp.form
 obtain⟨xo,xc,rfl⟩:=hr.re.form
 rw[inkNL_len]at CN⊢
 have CE:Hid (∀wx,Calls Tryd.prog 19 #[.slice xo 0 xc,.int .i64 k1] wx fun e w'=>e=.returned (.int .i64 k1)∧w'=wx):=fun wx=>heldEvent0_any _ _ _ _
 obtain⟨w1,hw1⟩:∃w1,w1=w.alloc (.cells (prA (.slice uo ns.length uc) (.slice vo 0 vc) (.slice xo 0 xc)) 26):=⟨_,rfl⟩
 have HB:Hid (StB w1 w.heap.size 26 (prA (.slice uo ns.length uc) (.slice vo 0 vc) (.slice xo 0 xc))∧Below w.heap.size w w1):=by rw[hw1];exact⟨StB.new _ _ _,(Below.refl _ _).alloc (Nat.le_refl _) _⟩
 obtain⟨b11,b12⟩:=B1
 clear hr hs hln hsum hk1
 unfold prA at hw1
 show Calls Tryd.prog 8 #[PrV (.slice uo ns.length uc) (.slice vo 0 vc) (.slice xo 0 xc),.int .i64 1] w _
 unfold PrV prA
 go_enter Tryd.func8,Tryd.ntmps8
 go_upto_region 1 with fail
 rw[←hw1]
 clear hw1
 have p0:w1.cell? ⟨w.heap.size,0,none⟩=some (.slice uo ns.length uc):=HB.out.1.cell 0 rfl
 go_wp2_with fail
 refine(CN.out w1 HB.out.2).mono ?_
 rintro e w2 ⟨rfl,b⟩
 replace HB:Hid (StB w2 w.heap.size 26 (prA (.slice uo ns.length uc) (.slice vo 0 vc) (.slice xo 0 xc))∧Below w.heap.size w w2):=⟨HB.out.1.below b,HB.out.2.trans (b.mono HB.out.2.size)⟩
 clear p0 b CN
 have p1:w2.cell? ⟨w.heap.size,1,none⟩=some (.slice vo 0 vc):=HB.out.1.cell 1 rfl
 have p2:w2.cell? ⟨w.heap.size,2,none⟩=some (.slice xo 0 xc):=HB.out.1.cell 2 rfl
 go_wp2_with fail
 refine(CM.out w2 HB.out.2).mono ?_
 rintro e w3 ⟨rfl,hw⟩
 subst w3
 clear CM
 go_wp2_with fail
 refine(CE.out w2).mono ?_
 rintro e w3 ⟨rfl,hw⟩
 subst w3
 clear CE
 go_wp2
 go_ret
 exact⟨rfl,HB.out.2⟩
end Go.Proofs.YthmnmaemnihkeaaDoor
namespace Go.Proofs.YthmnmaemnihkeaaDoor
open Go.ChangeShapes Go.WideShapes Go.ChangeAt Go.RowKit
def CpI (w:World) (g:Nat) (v:Value) (c:Cp):Prop:=StB w g 40 (cpA v c)∧Mine w 0 v c.ts
theorem CpI.below {w w':World} {g:Nat} {v:Value} {c:Cp} (h:CpI w g v c) (b:Below w.heap.size w w'):CpI w' g v c:=⟨h.1.below b,h.2.below b⟩
theorem CpI.reads {w:World} {g:Nat} {v:Value} {c:Cp} (h:CpI w g v c):Reads w v c.ts:=h.2.reads
theorem CpI.new {w:World} {base:Nat} {v:Value} {c:Cp} (h:Mine w base v c.ts):CpI (w.alloc (.cells (cpA v c) 40)) w.heap.size v c:=
 ⟨StB.new w _ _,(h.mono (Nat.zero_le _)).below ((Below.refl _ _).alloc (Nat.le_refl _) _)⟩
theorem CpI.kept {w w':World} {g k:Nat} {v:Value} {c:Cp} {ds:Array Value} (h:CpI w g v c) (hk:StB w k 40 ds) (G:w.grownBy w' (some k)) (hne:g≠k):CpI w' g v c:=
 ⟨h.1.kept G (fun e=>hne (Option.some.inj e)),h.2.putBy hk (by decide) G⟩
theorem CpI.cell {w:World} {g:Nat} {v:Value} {c:Cp} (h:CpI w g v c) (j:Nat) {x:Value} (e:(cpA v c)[j]?=some x):w.cell? ⟨g,j,none⟩=some x:=h.1.cell j e
theorem CpI.at {w:World} {g:Nat} {a:Option Addr} {n cap:Nat} {c:Cp} (h:CpI w g (.slice a n cap) c) (j:Nat) (hj:j<n):∃b off,a=some ⟨b,off,none⟩∧n≤cap∧cap≤maxLen∧w.cell? ⟨b,off+j,none⟩=some (.int .i64 (c.ts.getD j 0)):=by
 obtain⟨-,h1,h2,h3⟩:=reads_cells h.2.reads
 obtain⟨b,off,e,h4⟩:=h3 j hj
 exact⟨b,off,e,h1,h2,h4⟩
end Go.Proofs.YthmnmaemnihkeaaDoor
namespace Go.Proofs.YthmnmaemnihkeaaDoor
open Go.ChangeShapes Go.WideShapes Go.ChangeAt Go.RowKit
theorem wp_region_gs_last {P:Program} {C:World→Prop} {E:Oper→Act→Option GSpec} {R:World→World→Prop} (hC:∀x y,C x→R x y→C y) (hE:∀o a s,E o a=some s→∀u x y,s.F u x→R x y→s.F u y)
  {id:Nat} {Q:Exit→Act→World→Prop} {a:Act} {w:World} {l:List Oper} (hA:∀o a dst v,(∀d,dst=some d→d∉o.looksAt l.toArray)→E o (Act.put a dst v)=E o a) (hm:P.follows .mixedOrders=true) (hB:Region.lexB .any l.toArray=true) (hL:lastOpB l=true) (h1:1≤l.length) (h0:C w.drew)
  (h:GivS P l.toArray C E R (fun a' G=>∀w',Has C G w'→wpOp P l.toArray Q (l.length-1) (fun a'' w''=>Q .normal a'' w'') a' w') l.dropLast a []):(Code.region id l.toArray true).wp P Q a w:=wp_region_giv_last hC hE hA hm hB hL h1 h0 h.out
theorem last_putL {t:TypeId} {n:Nat} (hS:IsS t n) {ops:Array Oper} {i:Nat} {o:Oper} {a:Act} {w:World} {K:Act→World→Prop} {Q:Exit→Act→World→Prop} (hi:ops[i]?=some o) (hgd:o.guard=none) (x y:Operand) (ho:o.op=.store t x y)
  (g:Nat) (cs ds:Array Value) (hx:a.eval x=.pointer (some ⟨g,0,none⟩)) (hy:a.eval y=.agg cs) (hn:cs.size=n) (hd:ds.size=n) (h1:cs.all (·.oneCell')=true) (hr:StB w g t ds)
  (h:∀w',StB w' g t cs→w.grownBy w' (some g)→K (a.put o.dst undef) w'):wpOp Tryd.prog ops Q i K a w:=by
 unfold wpOp
 rw[hi]
 dsimp only
 have hw:Region.wanted o (yielded ops a.tmps)=true:=by simp[Region.wanted,hgd]
 rw[if_pos hw]
 refine .inl ?_
 have:=step_putS (ops:=ops) (Q:=Q) (E:=False) hS hgd x y ho g cs ds hx hy hn hd h1 hr h
 rw[if_pos hw]at this
 exact this
end Go.Proofs.YthmnmaemnihkeaaDoor
namespace Go.Proofs.YthmnmaemnihkeaaDoor
open Go.ChangeShapes Go.WideShapes Go.ChangeAt Go.RowKit
theorem gs_build {ops:Array Oper} {C:World→Prop} {E:Oper→Act→Option GSpec} {R:World→World→Prop} {Q:Act→Known→Prop} {o:Oper} {rest:List Oper} {a:Act} {G:Known} (hs:E o a=none) (hg:o.guard=none) (t:TypeId) (fs:Array (Nat×Operand)) (ho:o.op=.build t fs) (cells:Array Value)
  (hc:Tryd.prog.built t (fs.map fun(i,x)=>(i,a.eval x)).toList=some cells)
  (k:GivS Tryd.prog ops C E R Q rest (a.put o.dst (.agg cells)) G):GivS Tryd.prog ops C E R Q (o::rest) a G:=by
 refine gs_plain hs (fun K hK=>?_)
 have hw:Region.wanted o (yielded ops a.tmps)=true:=by simp[Region.wanted,hg]
 rw[if_pos hw]
 refine⟨.agg cells,fun w _=>?_,hK _ k⟩
 unfold Oper.quietAt execOp
 simp only[ho,Sem.run_bind,run_build w t _ cells hc,Result.andThen_ok]
 exact⟨rfl,rfl⟩
end Go.Proofs.YthmnmaemnihkeaaDoor
namespace Go.Proofs.YthmnmaemnihkeaaDoor
open Go.ChangeShapes Go.WideShapes Go.ChangeAt Go.RowKit
end Go.Proofs.YthmnmaemnihkeaaDoor
namespace Go.Proofs.YthmnmaemnihkeaaDoor
open Go.ChangeShapes Go.WideShapes Go.ChangeAt Go.RowKit
def alG (n:Nat) (t:TypeId) (cs:Array Value):GSpec:=⟨fun u=>∃g,u=.pointer (some ⟨g,0,none⟩),fun u x=>∀g,u=.pointer (some ⟨g,0,none⟩)→StB x g t cs∧n≤g⟩
theorem alG_later {n:Nat} {t:TypeId} {cs:Array Value} {u:Value} {x y:World} (hx:(alG n t cs).F u x) (b:Later x y):(alG n t cs).F u y:=fun g e=>⟨(hx g e).1.below b,(hx g e).2⟩
theorem alG_of {P:Program} {n:Nat} {t:TypeId} {cs:Array Value} {w:World} (hn:n≤w.heap.size):givesUpon P Later (alG n t cs).V (alG n t cs).F w (.ok (.value (.pointer (some ⟨w.heap.size,0,none⟩))) (w.alloc (.cells cs t))):=
 ⟨⟨_,rfl⟩,fun g e=>by cases e;exact⟨StB.new _ _ _,hn⟩,(Below.refl _ _).alloc (Nat.le_refl _) _⟩
end Go.Proofs.YthmnmaemnihkeaaDoor
