import Derived.Test.YtpdggofaobmnlaaGreatDoorM4
import Derived.Below
import Derived.Laws.Tables
import Derived.Laws.ResultCell
import Derived.Test.YtpdggofaobmnlaaGreatDoorM8
import Derived.Test.YtpdggofaobmnlaaGreatDoorM5
import Derived.Deep.DeepCutAuto
import Derived.Test.YtpdggofaobmnlaaGreatDoorM3
import Derived.Test.YtpdggofaobmnlaaGreatDoorM7
import Derived.Laws.OwnMore
import Derived.Deep.AppendLies
import Derived.Deep.QuietTactic
import Derived.OwnWalk
import Derived.Deep.RegionHeld3
/- A command in a block of five cells: loads, stores and answers of the whole struct. -/
namespace Go.Proofs.YtpdggofaobmnlaaGreatDoor
open Go.ChangeShapes Go.WideShapes Go.ChangeAt Go.RowKit
def cmA (c:Cm):Array Value:=#[.int .i64 c.o,.int .i64 c.p,.int .i64 c.a,.int .i64 c.b,.int .i64 c.k]
def CV (c:Cm):Value:=.agg (cmA c)
def sumN (l:Bs) (j:Nat):Int:=(l.take j).foldl (fun n b=>n+byteI b) 0
theorem sumN_step (l:Bs) (j:Nat) (h:j<l.length):sumN l (j+1)=sumN l j+byteI (l.getD j 0):=by
 unfold sumN
 rw[take_snocB l j h,List.foldl_append]
 simp[h]
theorem sumN_bd (l:Bs) (j:Nat):0≤sumN l j∧sumN l j≤256*j:=by
 induction j with
 |zero=>simp[sumN]
 |succ j ih=>
  by_cases h:j<l.length
  ·have:=byteI_bd (l.getD j 0)
   rw[sumN_step l j h];omega
  ·have:sumN l (j+1)=sumN l j:=by unfold sumN;rw[List.take_of_length_le (by omega),List.take_of_length_le (by omega)]
   rw[this];omega
def CmB (w:World) (g:Nat) (t:TypeId) (c:Cm):Prop:=w.heap[g]?=some (.cells (cmA c) t (0,0))
theorem CmB.lt {w:World} {g:Nat} {t:TypeId} {c:Cm} (h:CmB w g t c):g<w.heap.size:=by
 rcases Nat.lt_or_ge g w.heap.size with hlt|hge
 ·exact hlt
 ·rw[CmB,Array.getElem?_eq_none hge]at h;cases h
theorem CmB.new (w:World) (t:TypeId) (c:Cm):CmB (w.alloc (.cells (cmA c) t)) w.heap.size t c:=heap_alloc_new w _
theorem CmB.below {w w':World} {g:Nat} {t:TypeId} {c:Cm} (h:CmB w g t c) (hb:Below w.heap.size w w'):CmB w' g t c:=(hb.block g h.lt).trans h
theorem CmB.kept {w w':World} {g:Nat} {t:TypeId} {c:Cm} {row:Option Nat} (h:CmB w g t c) (hg:w.grownBy w' row) (hne:some g≠row):CmB w' g t c:=(hg.block g h.lt hne).trans h
theorem CmB.alloc {w:World} {g:Nat} {t:TypeId} {c:Cm} (h:CmB w g t c) (o:Obj):CmB (w.alloc o) g t c:=(Below.heap_alloc w o g h.lt).trans h
theorem CmB.cell {w:World} {g:Nat} {t:TypeId} {c:Cm} (h:CmB w g t c) (j:Nat) {x:Value} (e:(cmA c)[j]?=some x):w.cell? ⟨g,j,none⟩=some x:=by rw[cell_of_row w g j _ _ _ h,e]
theorem CmB.frozen {w:World} {g:Nat} {t:TypeId} {c:Cm} (h:CmB w g t c) (j:Nat):w.frozen? ⟨g,j,none⟩=false:=frozen_of_row w g j _ _ h
theorem grownRowC (w:World) (g:Nat) (cs:Array Value):w.grownBy (w.setRow g cs) (some g):=
 ⟨rfl,rfl,rfl,by simp,fun k _ hne=>_root_.Go.setRow_other w g k cs (fun e=>hne (by rw[e]))⟩
theorem cmA_one (c:Cm):(cmA c).all (·.oneCell')=true:=by simp[cmA,Value.oneCell']
theorem Tryz.infoC:(Tryz.prog.info? 32).map (·.size)=some 5:=by kernel_rfl
theorem Tryz.underC:∃fs,Tryz.prog.underlying 32=some (.struct fs):=⟨_,Tryz.underlying32⟩
theorem wpList_getC {ops:Array Oper} {rest:List Oper} {o:Oper} {a:Act} {w:World} {Q:Exit→Act→World→Prop} (hgd:o.guard=none) (x:Operand) (ho:o.op=.load 32 x)
  (g:Nat) (hx:a.eval x=.pointer (some ⟨g,0,none⟩)) (c:Cm) (hr:CmB w g 32 c)
  (h:wpList Tryz.prog ops Q rest (a.put o.dst (CV c)) w):wpList Tryz.prog ops Q (o::rest) a w:=by
 obtain⟨fs,hu⟩:=Tryz.underC
 exact wpList_load_row hgd _ x ho g hx _ _ _ _ hr hu rfl Tryz.infoC h
theorem wpList_putC {ops:Array Oper} {rest:List Oper} {o:Oper} {a:Act} {w:World} {Q:Exit→Act→World→Prop} (hgd:o.guard=none) (x y:Operand) (ho:o.op=.store 32 x y)
  (g:Nat) (c c':Cm) (hx:a.eval x=.pointer (some ⟨g,0,none⟩)) (hy:a.eval y=CV c) (hr:CmB w g 32 c')
  (h:∀w',CmB w' g 32 c→w.grownBy w' (some g)→wpList Tryz.prog ops Q rest (a.put o.dst undef) w'):wpList Tryz.prog ops Q (o::rest) a w:=
 wpList_store_row hgd _ x y ho g (cmA c) hx hy _ _ hr Tryz.infoC rfl (cmA_one c) (h _ (setRow_heap w g _ _ _ _ hr) (grownRowC w g _))
theorem results_C {fn:Func} {p:Tmp} (h:fn.results=#[.cell p 32]) (tmps:Array Value) (w:World) (g:Nat) (c:Cm)
  (hp:tmps.getD p undef=.pointer (some ⟨g,0,none⟩)) (hr:CmB w g 32 c):(results fn tmps).run Tryz.prog w=.ok (CV c) w:=by
 obtain⟨fs,hu⟩:=Tryz.underC
 exact results_cell_row h tmps w g _ _ _ _ hp hr hu rfl Tryz.infoC
theorem results_C2 {fn:Func} {p q:Tmp} (h:fn.results=#[.cell p 32,.tmp q]) (tmps:Array Value) (w:World) (g:Nat) (c:Cm) (x:Value)
  (hp:tmps.getD p undef=.pointer (some ⟨g,0,none⟩)) (hx:tmps.getD q undef=x) (hr:CmB w g 32 c):(results fn tmps).run Tryz.prog w=.ok (.tuple #[CV c,x]) w:=by
 obtain⟨fs,hu⟩:=Tryz.underC
 rw[results_cell_tmp h,hp,hx]
 simp only[asAddr,Sem.run_pure,Result.andThen_ok]
 rw[run_loadVar_row w g _ _ _ _ _ hr hu rfl Tryz.infoC]
 rfl
theorem results_CC {fn:Func} {p q:Tmp} (h:fn.results=#[.cell p 32,.cell q 32]) (tmps:Array Value) (w:World) (g k:Nat) (c d:Cm)
  (hp:tmps.getD p undef=.pointer (some ⟨g,0,none⟩)) (hq:tmps.getD q undef=.pointer (some ⟨k,0,none⟩)) (hc:CmB w g 32 c) (hd:CmB w k 32 d):(results fn tmps).run Tryz.prog w=.ok (.tuple #[CV c,CV d]) w:=by
 obtain⟨fs,hu⟩:=Tryz.underC
 have h1:=run_loadVar_row w g _ _ _ _ _ hc hu rfl Tryz.infoC
 have h2:=run_loadVar_row w k _ _ _ _ _ hd hu rfl Tryz.infoC
 have hp':tmps[p]?.getD undef=.pointer (some ⟨g,0,none⟩):=by simpa using hp
 have hq':tmps[q]?.getD undef=.pointer (some ⟨k,0,none⟩):=by simpa using hq
 simp[results,h,hp',hq',asAddr,h1,h2]
 exact⟨rfl,rfl⟩
theorem code_short {s:Bs} (h:s.length<8):codeC s=1∧readC s=Cm.zero:=by
 have:codeC s=1:=by unfold codeC;rw[if_pos h]
 exact⟨this,readC_not (by rw[this];decide)⟩
theorem code_long {s:Bs} (h:8<s.length):codeC s=2∧readC s=Cm.zero:=by
 have:codeC s=2:=by unfold codeC;rw[if_neg (by omega),if_pos h]
 exact⟨this,readC_not (by rw[this];decide)⟩
theorem code_sum {s:Bs} (h:s.length=8) (h2:byteI (s.getD 7 0)≠sumI (s.take 7)):codeC s=3∧readC s=Cm.zero:=by
 have:codeC s=3:=by unfold codeC;rw[if_neg (by omega),if_neg (by omega),if_pos h2]
 exact⟨this,readC_not (by rw[this];decide)⟩
theorem code_op {s:Bs} (h:s.length=8) (h2:byteI (s.getD 7 0)=sumI (s.take 7)) (h3:inI (cmOf s).o 1 12=false):codeC s=4∧readC s=Cm.zero:=by
 have:codeC s=4:=by unfold codeC;rw[if_neg (by omega),if_neg (by omega),if_neg (by simpa using h2),if_pos h3]
 exact⟨this,readC_not (by rw[this];decide)⟩
theorem code_field {s:Bs} (h:s.length=8) (h2:byteI (s.getD 7 0)=sumI (s.take 7)) (h3:inI (cmOf s).o 1 12=true) (h4:(cmOf s).ok=false):codeC s=5∧readC s=Cm.zero:=by
 have:codeC s=5:=by unfold codeC;rw[if_neg (by omega),if_neg (by omega),if_neg (by simpa using h2),if_neg (by rw[h3];decide),if_pos h4]
 exact⟨this,readC_not (by rw[this];decide)⟩
theorem code_ok {s:Bs} (h:s.length=8) (h2:byteI (s.getD 7 0)=sumI (s.take 7)) (h4:(cmOf s).ok=true):codeC s=0∧readC s=cmOf s:=by
 have:codeC s=0:=by unfold codeC;rw[if_neg (by omega),if_neg (by omega),if_neg (by simpa using h2),if_neg (by rw[told_op h4];decide),if_neg (by rw[h4];decide)]
 exact⟨this,by unfold readC;rw[if_pos this]⟩
end Go.Proofs.YtpdggofaobmnlaaGreatDoor
namespace Go.Proofs.YtpdggofaobmnlaaGreatDoor
open Go.ChangeShapes Go.WideShapes Go.ChangeAt Go.RowKit
theorem Tryz.isA:IsS 36 2:=⟨⟨_,Tryz.underlying36⟩,by kernel_rfl⟩
theorem Tryz.isD:IsS 26 2:=⟨⟨_,Tryz.underlying26⟩,by kernel_rfl⟩
def zeD:Array Value:=#[.slice none 0 0,.slice none 0 0]
def zeA:Array Value:=#[.int .i64 0,.string ⟨#[]⟩]
theorem anA_zero:zeA=anA ⟨0,[]⟩:=rfl
theorem anA_one (x:An):(anA x).all (·.oneCell')=true:=by simp[anA,S,Value.oneCell']
theorem dkA_one {u v:Value} (hu:u.oneCell'=true) (hv:v.oneCell'=true):(#[u,v]:Array Value).all (·.oneCell')=true:=by simp[hu,hv]
theorem results_DA {fn:Func} {p q:Tmp} (h:fn.results=#[.cell p 26,.cell q 36]) (tmps:Array Value) (w:World) (g k:Nat) (cs ds:Array Value) (hc:cs.size=2) (hd:ds.size=2)
  (hp:tmps.getD p undef=.pointer (some ⟨g,0,none⟩)) (hq:tmps.getD q undef=.pointer (some ⟨k,0,none⟩)) (h1:StB w g 26 cs) (h2:StB w k 36 ds):(results fn tmps).run Tryz.prog w=.ok (.tuple #[.agg cs,.agg ds]) w:=by
 have l1:=load_S Tryz.isD w g cs hc h1
 have l2:=load_S Tryz.isA w k ds hd h2
 have hp':tmps[p]?.getD undef=.pointer (some ⟨g,0,none⟩):=by simpa using hp
 have hq':tmps[q]?.getD undef=.pointer (some ⟨k,0,none⟩):=by simpa using hq
 simp[results,h,hp',hq',asAddr,l1,l2]
structure Vl (w wx:World) (u v:Value) (c:Cm) (d:Array Value) (x:An):Prop where
 dk:StB wx w.heap.size 26 #[u,v]
 cm:CmB wx (w.heap.size+1) 32 c
 rd:StB wx (w.heap.size+1+1) 26 d
 ra:StB wx (w.heap.size+1+1+1) 36 (anA x)
 bl:Below w.heap.size w wx
 sz:w.heap.size+4≤wx.heap.size
theorem Vl.start (w:World) (u v:Value) (c:Cm):Vl w ((((w.alloc (.cells #[u,v] 26)).alloc (.cells (cmA c) 32)).alloc (.cells zeD 26)).alloc (.cells (anA ⟨0,[]⟩) 36)) u v c zeD ⟨0,[]⟩:=by
 have a1:=StB.new w 26 #[u,v]
 have a2:=CmB.new (w.alloc (.cells #[u,v] 26)) 32 c
 have a3:=StB.new ((w.alloc (.cells #[u,v] 26)).alloc (.cells (cmA c) 32)) 26 zeD
 have a4:=StB.new (((w.alloc (.cells #[u,v] 26)).alloc (.cells (cmA c) 32)).alloc (.cells zeD 26)) 36 (anA ⟨0,[]⟩)
 simp only[World.size_alloc]at a2 a3 a4
 refine⟨((a1.alloc _).alloc _).alloc _,(a2.alloc _).alloc _,a3.alloc _,a4,?_,by simp⟩
 exact((((Below.refl _ _).alloc (Nat.le_refl _) _).alloc (by simp) _).alloc (by simp;omega) _).alloc (by simp;omega) _
theorem Vl.next {w wx wy:World} {u v:Value} {c:Cm} {d:Array Value} {x:An} (h:Vl w wx u v c d x) (b:Below wx.heap.size wx wy):Vl w wy u v c d x:=
 ⟨h.dk.below b,h.cm.below b,h.rd.below b,h.ra.below b,h.bl.trans (b.mono h.bl.size),Nat.le_trans h.sz b.size⟩
theorem Vl.grown {w wx wy:World} {u v:Value} {c:Cm} {d:Array Value} {x:An} {g:Nat} (h:Vl w wx u v c d x) (b:wx.grownBy wy (some g)) (hg:w.heap.size+4≤g):Vl w wy u v c d x:=
 ⟨h.dk.kept b (by simp;omega),h.cm.kept b (by simp;omega),h.rd.kept b (by simp;omega),h.ra.kept b (by simp;omega),h.bl.grown b h.bl.size (fun k e=>by cases e;omega),Nat.le_trans h.sz b.size⟩
theorem Vl.drew {w wx:World} {u v:Value} {c:Cm} {d:Array Value} {x:An} (h:Vl w wx u v c d x):Vl w wx.drew u v c d x:=
 ⟨h.dk,h.cm,h.rd,h.ra,h.bl.drew,h.sz⟩
end Go.Proofs.YtpdggofaobmnlaaGreatDoor
namespace Go.Proofs.YtpdggofaobmnlaaGreatDoor
open Go.ChangeShapes Go.WideShapes Go.ChangeAt Go.RowKit
theorem bel_size {w wx:World} (h:Below w.heap.size w wx):w.heap.size≤wx.heap.size:=h.size
theorem Sta.add3 {w wx wy:World} {L:List Item} (h:Sta w wx L) (b:Below wx.heap.size wx wy) {g k:Nat} {t s:TypeId} {cs ds:Array Value} {u v:Value} {xs ys:List Int}
  (hg:StB wy g t cs) (hk:StB wy k s ds) (o:OwnD wy wx.heap.size u v xs ys) (lg:wx.heap.size≤g) (lk:wx.heap.size≤k) (ts:t≠s) (ti:t≠2) (si:s≠2):
  Sta w wy (Blk g t cs::Blk k s ds::Dsk u v xs ys::L):=by
 have h':=h.next b
 have sg:=hg.lt
 have sk:=hk.lt
 have hgk:=hg.typ hk ts
 have ob:∀x∈(Dsk u v xs ys).blocks,wx.heap.size≤x∧x<wy.heap.size∧x≠g∧x≠k:=by
  intro x hx
  simp only[Dsk,List.mem_append,Option.mem_toList]at hx
  rcases hx with hx|hx
  ·have:=o.1.lt x hx
   refine⟨this.1,this.2,?_,?_⟩
   ·rintro rfl;exact o.1.ne hg ti hx
   ·rintro rfl;exact o.1.ne hk si hx
  ·have:=o.2.1.lt x hx
   refine⟨this.1,this.2,?_,?_⟩
   ·rintro rfl;exact o.2.1.ne hg ti hx
   ·rintro rfl;exact o.2.1.ne hk si hx
 have hL:∀j∈L,∀x∈j.blocks,x<wx.heap.size:=fun j hj x hx=>(h.bound j hj x hx).2
 have sz:=h.below.size
 refine⟨h'.below,?_,?_,?_,?_,?_,?_,h'.apart⟩
 ·intro i hi
  simp only[List.mem_cons]at hi
  rcases hi with rfl|rfl|rfl|hi
  ·exact Nat.zero_le _
  ·exact Nat.zero_le _
  ·exact Nat.zero_le _
  ·exact h'.olds i hi
 ·intro i hi
  simp only[List.mem_cons]at hi
  rcases hi with rfl|rfl|rfl|hi
  ·exact hg
  ·exact hk
  ·exact⟨o.1.mono (Nat.zero_le _),o.2.1.mono (Nat.zero_le _),o.2.2⟩
  ·exact h'.holds i hi
 ·intro i hi x hx
  simp only[List.mem_cons]at hi
  rcases hi with rfl|rfl|rfl|hi
  ·simp only[Blk,List.mem_singleton]at hx;subst hx;omega
  ·simp only[Blk,List.mem_singleton]at hx;subst hx;omega
  ·have:=ob x hx;omega
  ·exact h'.bound i hi x hx
 ·intro j hj x hx hx'
  simp only[Blk,List.mem_singleton]at hx
  subst hx
  simp only[List.mem_cons]at hj
  rcases hj with rfl|rfl|hj
  ·simp only[Blk,List.mem_singleton]at hx';exact hgk hx'
  ·exact(ob x hx').2.2.1 rfl
  ·have:=hL j hj x hx';omega
 ·intro j hj x hx hx'
  simp only[Blk,List.mem_singleton]at hx
  subst hx
  simp only[List.mem_cons]at hj
  rcases hj with rfl|hj
  ·exact(ob x hx').2.2.2 rfl
  ·have:=hL j hj x hx';omega
 ·intro j hj x hx hx'
  have:=(ob x hx).1
  have:=hL j hj x hx'
  omega
theorem OwnD.bel {w w':World} {base:Nat} {u v:Value} {xs ys:List Int} (h:OwnD w base u v xs ys) (b:Below w.heap.size w w'):OwnD w' base u v xs ys:=⟨h.1.below b,h.2.1.below b,h.2.2⟩
theorem OwnD.mono' {w:World} {base base':Nat} {u v:Value} {xs ys:List Int} (h:OwnD w base u v xs ys) (b:base'≤base):OwnD w base' u v xs ys:=⟨h.1.mono b,h.2.1.mono b,h.2.2⟩
theorem OwnD.putBy {w w':World} {base g:Nat} {u v:Value} {xs ys:List Int} {t:TypeId} {cs:Array Value} (h:OwnD w base u v xs ys) (h':StB w g t cs) (hne:t≠2) (b:w.grownBy w' (some g)):OwnD w' base u v xs ys:=⟨h.1.putBy h' hne b,h.2.1.putBy h' hne b,h.2.2⟩
end Go.Proofs.YtpdggofaobmnlaaGreatDoor
namespace Go.Proofs.YtpdggofaobmnlaaGreatDoor
open Go.ChangeShapes Go.WideShapes Go.ChangeAt Go.RowKit
def ReadsS (w:World) (v:Value) (xs:List Bs):Prop:=
 ∃ao cap,v=.slice ao xs.length cap∧xs.length≤cap∧(cap≤maxLen∧(ao=none→cap=0))∧
  (xs=[]∨∃b off,ao=some ⟨b,off,none⟩∧∀j,j<xs.length→w.cell? ⟨b,off+j,none⟩=some (S (xs.getD j [])))
def OwnS (w:World) (base:Nat) (v:Value) (xs:List Bs):Prop:=
 w.ownsRow base 9 1 v xs.length (xs.map S)
theorem OwnS.nil (w:World) (base:Nat):OwnS w base (.slice none 0 0) []:=World.ownsRow_nil w base _ _
theorem OwnS.reads {w:World} {base:Nat} {v:Value} {xs:List Bs} (h:OwnS w base v xs):ReadsS w v xs:=by
 rcases h.2 with⟨rfl,h0⟩|⟨g,cap,cur,rfl,hb,hg,hnc,hcm,hcs,ht⟩
 ·have e:xs=[]:=List.eq_nil_of_length_eq_zero h0
  subst e
  exact⟨none,0,rfl,Nat.le_refl _,⟨Nat.zero_le _,fun _=>rfl⟩,.inl rfl⟩
 ·refine⟨_,cap,rfl,hnc,⟨hcm,fun e=>by cases e⟩,.inr ⟨g,0,rfl,fun j hj=>?_⟩⟩
  have:=World.ownsRow.cellAt (w:=w) h j (by omega)
  rw[Nat.zero_add,this]
  simp[List.getD,hj]
theorem OwnS.mono {w:World} {base base':Nat} {v:Value} {xs:List Bs} (h:OwnS w base v xs) (hb:base'≤base):OwnS w base' v xs:=by
 refine⟨h.1,?_⟩
 rcases h.2 with h'|⟨g,cap,cur,e,hg,r⟩
 ·exact .inl h'
 ·exact .inr ⟨g,cap,cur,e,Nat.le_trans hb hg,r⟩
theorem OwnS.lt {w:World} {base:Nat} {v:Value} {xs:List Bs} (h:OwnS w base v xs):∀k,v.ownBlock=some k→base≤k∧k<w.heap.size:=World.ownsRow.lt h
theorem OwnS.frame {w w':World} {base:Nat} {v:Value} {xs:List Bs} (h:OwnS w base v xs) (e:∀b∈v.ownBlock.toList,w'.heap[b]?=w.heap[b]?):OwnS w' base v xs:=by
 refine⟨h.1,?_⟩
 rcases h.2 with h'|⟨g,cap,cur,rfl,hb,hg,r⟩
 ·exact .inl h'
 ·exact .inr ⟨g,cap,cur,rfl,hb,(e g (by simp[Value.ownBlock])).trans hg,r⟩
theorem OwnS.below {w w':World} {base:Nat} {v:Value} {xs:List Bs} (h:OwnS w base v xs) (hb:Below w.heap.size w w'):OwnS w' base v xs:=
 h.frame (fun b hm=>hb.block b (h.lt b (by simpa using hm)).2)
theorem OwnS.kept {w w':World} {base:Nat} {v:Value} {row:Option Nat} {xs:List Bs} (h:OwnS w base v xs) (hg:w.grownBy w' row) (hne:v.ownBlock=none∨v.ownBlock≠row):OwnS w' base v xs:=
 World.ownsRow.kept h hg hne
theorem ReadsS.below {w w':World} {B:Nat} {v:Value} {xs:List Bs} (h:ReadsS w v xs) (hb:Below B w w') (hB:w.heap.size≤B):ReadsS w' v xs:=by
 obtain⟨ao,cap,rfl,h1,h2,h3⟩:=h
 refine⟨ao,cap,rfl,h1,h2,?_⟩
 rcases h3 with h3|⟨b,off,rfl,h4⟩
 ·exact .inl h3
 ·refine .inr ⟨b,off,rfl,fun j hj=>?_⟩
  have h5:=h4 j hj
  have h6:=World.block_lt_of_cell? w _ h5
  rw[hb.cell (p:=⟨b,off+j,none⟩) (Nat.lt_of_lt_of_le h6 hB)]
  exact h5
theorem takeS_snoc (xs:List Bs) (j:Nat) (h:j<xs.length):xs.take (j+1)=xs.take j++[xs.getD j []]:=by
 rw[List.take_succ_eq_append_getElem h];simp[List.getD,h]
theorem takeS_step {xs ys:List Bs} {j:Nat} (h:xs.take j=ys.take j) (hx:j<xs.length) (hy:j<ys.length) (e:xs.getD j []=ys.getD j []):xs.take (j+1)=ys.take (j+1):=by
 rw[takeS_snoc xs j hx,takeS_snoc ys j hy,h,e]
theorem neS_of_getD {xs ys:List Bs} {j:Nat} (e:xs.getD j []≠ys.getD j []):xs≠ys:=fun h=>e (by rw[h])
def mtext (k:Nat):Bs:=109::dec k
end Go.Proofs.YtpdggofaobmnlaaGreatDoor
namespace Go.Proofs.YtpdggofaobmnlaaGreatDoor
open Go.ChangeShapes Go.WideShapes Go.ChangeAt Go.RowKit
def marksS (k:Nat) (n:Nat):List Bs:=(List.range n).map fun j=>mtext (k+j)
theorem marksS_length (k n:Nat):(marksS k n).length=n:=by simp[marksS]
theorem marksS_getD (k n j:Nat) (h:j<n):(marksS k n).getD j []=mtext (k+j):=by simp[marksS,List.getD,h]
theorem marksS_step (k:Nat) (xs:List Bs) (j:Nat) (h:j<xs.length):((marksS k j++xs.drop j).set j (mtext (k+j)))=marksS k (j+1)++xs.drop (j+1):=by
 rw[List.set_append_right _ _ (by simp[marksS_length]),marksS_length,Nat.sub_self]
 rw[List.drop_eq_getElem_cons h,List.set_cons_zero]
 simp[marksS,List.range_succ]
theorem marksS_all (k:Nat) (xs:List Bs):marksS k xs.length++xs.drop xs.length=marksS k xs.length:=by simp
theorem OwnS.put {w:World} {base g n cap:Nat} {xs:List Bs} (h:OwnS w base (.slice (some ⟨g,0,none⟩) n cap) xs) (hn:n=xs.length) (j:Nat) (hj:j<n) (x:Bs):
  w.frozen? ⟨g,j,none⟩=false∧(∃y,w.cell? ⟨g,j,none⟩=some y)∧OwnS (w.setCell ⟨g,j,none⟩ (S x)) base (.slice (some ⟨g,0,none⟩) n cap) (xs.set j x):=by
 subst hn
 have hown:w.ownsRow base 9 1 (.slice (some ⟨g,0,none⟩) xs.length cap) xs.length (xs.map S):=h
 refine⟨World.ownsRow.frozenAt hown j,?_,?_⟩
 ·rw[World.ownsRow.cellAt hown j (by omega)]
  exact⟨_,List.getElem?_eq_getElem (by simpa using hj)⟩
 ·have:=(World.ownsRow.stored hown j (S x)).1
  rw[←List.map_set]at this
  unfold OwnS
  rwa[List.length_set]
theorem grownSetS (w:World) (g j:Nat) (x:Value):w.grownBy (w.setCell ⟨g,j,none⟩ x) (some g):=
 ⟨rfl,rfl,rfl,by simp,fun k _ hk=>heap_setCell_other w ⟨g,j,none⟩ k x (fun e=>hk (by simp[e]))⟩
theorem grown_below {w w' w'':World} {row:Option Nat} (h:w.grownBy w' row) (b:Below w'.heap.size w' w''):w.grownBy w'' row:=
 ⟨b.os.trans h.os,b.tape.trans h.tape,b.output.trans h.output,Nat.le_trans h.size b.size,fun k hk hne=>(b.block k (Nat.lt_of_lt_of_le hk h.size)).trans (h.block k hk hne)⟩
end Go.Proofs.YtpdggofaobmnlaaGreatDoor
namespace Go.Proofs.YtpdggofaobmnlaaGreatDoor
open Go.ChangeShapes Go.WideShapes Go.ChangeAt Go.RowKit
def ahead (a:Bs):List Bs→List Bs
 |[]=>[a]
 |p::ps=>(a++p)::ps
def splitB (c:UInt8):Bs→List Bs
 |[]=>[[]]
 |b::t=>if b=c then[]::splitB c t else ahead [b] (splitB c t)
theorem ahead_ahead (a b:Bs) (l:List Bs) (h:l≠[]):ahead a (ahead b l)=ahead (a++b) l:=by
 cases l with
 |nil=>exact absurd rfl h
 |cons p ps=>simp[ahead]
theorem ahead_nil (l:List Bs) (h:l≠[]):ahead [] l=l:=by
 cases l with
 |nil=>exact absurd rfl h
 |cons p ps=>rfl
theorem ahead_ne (a:Bs) (l:List Bs):ahead a l≠[]:=by cases l<;>simp[ahead]
theorem splitB_ne (c:UInt8) (l:Bs):splitB c l≠[]:=by
 cases l with
 |nil=>simp[splitB]
 |cons b t=>rw[splitB];split;simp;exact ahead_ne _ _
def cutB (l:Bs) (a b:Nat):Bs:=(l.take b).drop a
theorem cutB_len (l:Bs) (a b:Nat) (h:b≤l.length):(cutB l a b).length=b-a:=by simp[cutB];omega
theorem cutB_snoc (l:Bs) (a b:Nat) (h:a≤b) (hb:b<l.length):cutB l a (b+1)=cutB l a b++[l[b]]:=by
 unfold cutB
 rw[take_snocB l b hb,List.drop_append_of_le_length (by simp;omega)]
theorem cutB_self (l:Bs) (a:Nat):cutB l a a=[]:=by
 unfold cutB
 rw[List.drop_eq_nil_of_le (by simp;omega)]
theorem extract_cut (l:Bs) (a b:Nat):(⟨l.toArray⟩:ByteArray).extract a b=⟨(cutB l a b).toArray⟩:=by
 apply ByteArray.ext
 rw[ByteArray.data_extract]
 simp[cutB,List.extract_toArray,List.drop_take]
def SplitInv (c:UInt8) (l:Bs) (out:List Bs) (a i:Nat):Prop:=a≤i∧splitB c l=out++ahead (cutB l a i) (splitB c (l.drop i))
theorem SplitInv.start (c:UInt8) (l:Bs):SplitInv c l [] 0 0:=⟨Nat.le_refl _,by rw[cutB_self,List.drop_zero,ahead_nil _ (splitB_ne _ _)];rfl⟩
theorem SplitInv.hit {c:UInt8} {l:Bs} {out:List Bs} {a i:Nat} (h:SplitInv c l out a i) (hi:i<l.length) (hc:l[i]=c):SplitInv c l (out++[cutB l a i]) (i+1) (i+1):=by
 refine⟨Nat.le_refl _,?_⟩
 rw[h.2,List.drop_eq_getElem_cons hi,splitB,if_pos hc,cutB_self,ahead_nil _ (splitB_ne _ _)]
 simp[ahead]
theorem SplitInv.miss {c:UInt8} {l:Bs} {out:List Bs} {a i:Nat} (h:SplitInv c l out a i) (hi:i<l.length) (hc:l[i]≠c):SplitInv c l out a (i+1):=by
 refine⟨by have:=h.1;omega,?_⟩
 rw[h.2,List.drop_eq_getElem_cons hi,splitB,if_neg hc,ahead_ahead _ _ _ (splitB_ne _ _),cutB_snoc l a i h.1 hi]
theorem SplitInv.done {c:UInt8} {l:Bs} {out:List Bs} {a:Nat} (h:SplitInv c l out a l.length):splitB c l=out++[cutB l a l.length]:=by
 rw[h.2]
 simp[splitB,ahead]
theorem Tryz.infoS:(Tryz.prog.info? 9).map (fun i=>(i.zero,i.size,i.bytes))=some (some (.string ⟨#[]⟩),1,16):=by kernel_rfl
theorem litS1 (w:World) (x:Bs):∀j u,([S x])[j]?=some u→(w.alloc (.cells #[S x] 9)).cell? ((⟨w.heap.size,0,none⟩:Addr).add j)=some u:=by
 intro j u hj
 match j,hj with
 |0,hj=>simp at hj;subst hj;simp[Addr.add]
theorem mapS_one (xs:List Bs) (a:Bs):xs.map S++[S a]=(xs++[a]).map S:=by simp
theorem appendS {w wr w':World} {o v':Value} {out:List Bs} {x:Bs} {ob:Obj} (hO:OwnS wr w.heap.size o out) (hB:Below w.heap.size w wr)
  (hown:w'.ownsRow w.heap.size 9 1 v' (out.length+1) (out.map S++[S x])) (hg:(wr.alloc ob).grownBy w' o.ownBlock):OwnS w' w.heap.size v' (out++[x])∧Below w.heap.size w w':=by
 refine⟨?_,(hB.alloc hB.size ob).grown hg (by simp;have:=hB.size;omega) (fun k e=>(hO.lt k e).1)⟩
 unfold OwnS
 rw[←mapS_one]
 simpa using hown
end Go.Proofs.YtpdggofaobmnlaaGreatDoor
