/- Rows of structs in memory, k cells each, whatever the type: who reads one, who owns one; an element is loaded, stored, appended. -/
import Derived.Test.YthmnmaemnihkeaaDoorM5
import Derived.Test.YthmnmaemnihkeaaDoorSta
import Derived.Laws.CopyRow
import Derived.OwnWalk
import Derived.Laws.AppendOwnNone
namespace Go.Proofs.YthmnmaemnihkeaaDoor
open Go.ChangeShapes Go.WideShapes Go.ChangeAt Go.RowKit
def flatC (css:List (Array Value)):List Value:=(css.map Array.toList).flatten
theorem flatC_cons (c:Array Value) (l:List (Array Value)):flatC (c::l)=c.toList++flatC l:=by simp[flatC]
theorem flatC_len {k:Nat}:∀(css:List (Array Value)),(∀cs∈css,cs.size=k)→(flatC css).length=css.length*k
 |[],_=>by simp[flatC]
 |c::l,h=>by
  have hc:c.size=k:=h c (by simp)
  rw[flatC_cons,List.length_append,flatC_len l (fun cs hcs=>h cs (by simp[hcs])),Array.length_toList,hc,List.length_cons,Nat.add_mul]
  omega
theorem flatC_at {k:Nat}:∀(css:List (Array Value)),(∀cs∈css,cs.size=k)→∀j i,j<css.length→i<k→(flatC css)[j*k+i]?=(css.getD j #[])[i]?
 |[],_,_,_,hj,_=>by simp at hj
 |c::l,h,j,i,hj,hi=>by
  have hc:c.size=k:=h c (by simp)
  rw[flatC_cons]
  cases j with
  |zero=>
   rw[List.getElem?_append_left (by rw[Array.length_toList,hc];omega)]
   simp
  |succ j=>
   have e:(j+1)*k+i-c.toList.length=j*k+i:=by
    rw[Array.length_toList,hc,Nat.add_mul]
    omega
   rw[List.getElem?_append_right (by rw[Array.length_toList,hc,Nat.add_mul];omega),e,flatC_at l (fun cs hcs=>h cs (by simp[hcs])) j i (by simpa using hj) hi]
   simp
theorem flatC_set {k:Nat} (css:List (Array Value)) (h:∀cs∈css,cs.size=k) (j:Nat) (hj:j<css.length) (cs:Array Value):
  (flatC css).take (j*k)++cs.toList++(flatC css).drop (j*k+k)=flatC (css.set j cs):=by
 induction css generalizing j with
 |nil=>simp at hj
 |cons c l ih=>
  have h0:c.size=k:=h c (by simp)
  cases j with
  |zero=>
   rw[flatC_cons,List.set_cons_zero,flatC_cons]
   simp only[Nat.zero_mul,List.take_zero,List.nil_append,Nat.zero_add]
   rw[List.drop_append_of_le_length (by rw[Array.length_toList,h0];exact Nat.le_refl _),←h0,←Array.length_toList,List.drop_length]
   simp
  |succ j=>
   rw[List.set_cons_succ,flatC_cons,flatC_cons,←ih (fun cs hcs=>h cs (by simp[hcs])) j (by simpa using hj)]
   have e:(j+1)*k=c.toList.length+j*k:=by rw[Array.length_toList,h0,Nat.add_mul];omega
   rw[e,List.take_length_add_append,Nat.add_assoc,List.drop_length_add_append]
   simp[List.append_assoc]
structure RdRow (w:World) (k:Nat) (v:Value) (css:List (Array Value)):Prop where
 sz:∀cs∈css,cs.size=k
 ex:∃ao cap,v=.slice ao css.length cap∧css.length≤cap∧(cap≤maxLen∧(ao=none→cap=0))∧
  (css=[]∨∃b off,ao=some ⟨b,off,none⟩∧∀j i,j<css.length→i<k→w.cell? ⟨b,off+(j*k+i),none⟩=(css.getD j #[])[i]?)
structure OwnRow (w:World) (base:Nat) (t:TypeId) (k:Nat) (v:Value) (css:List (Array Value)):Prop where
 sz:∀cs∈css,cs.size=k
 ow:w.ownsRow base t k v css.length (flatC css)
theorem OwnRow.nil (w:World) (base:Nat) (t:TypeId) (k:Nat):OwnRow w base t k (.slice none 0 0) []:=⟨by simp,World.ownsRow_nil ..⟩
theorem OwnRow.lit (w:World) (base:Nat) (t:TypeId) (k:Nat) (hb:base≤w.heap.size):OwnRow (w.alloc (.cells #[] t)) base t k (.slice (some ⟨w.heap.size,0,none⟩) 0 0) []:=
 ⟨by simp,by simpa[flatC]using World.ownsRow_made (base:=base) (e:=t) (size:=k) w #[] 0 hb (Nat.zero_le _) (by simp)⟩
theorem OwnRow.rd {w:World} {base:Nat} {t:TypeId} {k:Nat} {v:Value} {css:List (Array Value)} (h:OwnRow w base t k v css):RdRow w k v css:=by
 refine⟨h.sz,?_⟩
 rcases h.ow.2 with⟨rfl,h0⟩|⟨g,cap,cur,rfl,hb,hg,hnc,hcm,hcs,ht⟩
 ·have e:css=[]:=List.eq_nil_of_length_eq_zero h0
  subst e
  exact⟨none,0,rfl,Nat.le_refl _,⟨Nat.zero_le _,fun _=>rfl⟩,.inl rfl⟩
 ·refine⟨_,cap,rfl,hnc,⟨hcm,fun e=>by cases e⟩,.inr ⟨g,0,rfl,fun j i hj hi=>?_⟩⟩
  have hlt:j*k+i<css.length*k:=by
   have:(j+1)*k≤css.length*k:=Nat.mul_le_mul_right k hj
   rw[Nat.add_mul]at this
   omega
  rw[Nat.zero_add,World.ownsRow.cellAt (w:=w) h.ow (j*k+i) hlt,flatC_at css h.sz j i hj hi]
theorem OwnRow.mono {w:World} {base base':Nat} {t:TypeId} {k:Nat} {v:Value} {css:List (Array Value)} (h:OwnRow w base t k v css) (hb:base'≤base):OwnRow w base' t k v css:=by
 refine⟨h.sz,h.ow.1,?_⟩
 rcases h.ow.2 with h'|⟨g,cap,cur,e,hg,r⟩
 ·exact .inl h'
 ·exact .inr ⟨g,cap,cur,e,Nat.le_trans hb hg,r⟩
theorem OwnRow.frame {w w':World} {base:Nat} {t:TypeId} {k:Nat} {v:Value} {css:List (Array Value)} (h:OwnRow w base t k v css) (e:∀b∈v.ownBlock.toList,w'.heap[b]?=w.heap[b]?):OwnRow w' base t k v css:=by
 refine⟨h.sz,h.ow.1,?_⟩
 rcases h.ow.2 with h'|⟨g,cap,cur,rfl,hb,hg,r⟩
 ·exact .inl h'
 ·exact .inr ⟨g,cap,cur,rfl,hb,(e g (by simp[Value.ownBlock])).trans hg,r⟩
theorem OwnRow.lt {w:World} {base:Nat} {t:TypeId} {k:Nat} {v:Value} {css:List (Array Value)} (h:OwnRow w base t k v css):∀x∈v.ownBlock.toList,base≤x∧x<w.heap.size:=by
 intro x hx
 exact World.ownsRow.lt h.ow x (by simpa using hx)
theorem OwnRow.below {w w':World} {base:Nat} {t:TypeId} {k:Nat} {v:Value} {css:List (Array Value)} (h:OwnRow w base t k v css) (hb:Below w.heap.size w w'):OwnRow w' base t k v css:=
 h.frame (fun x hx=>hb.block x (h.lt x hx).2)
theorem OwnRow.kept {w w':World} {base:Nat} {t:TypeId} {k:Nat} {v:Value} {css:List (Array Value)} {row:Option Nat} (h:OwnRow w base t k v css) (hg:w.grownBy w' row) (hne:v.ownBlock=none∨v.ownBlock≠row):OwnRow w' base t k v css:=
 ⟨h.sz,World.ownsRow.kept h.ow hg hne⟩
theorem RdRow.below {w w':World} {B k:Nat} {v:Value} {css:List (Array Value)} (h:RdRow w k v css) (hb:Below B w w') (hB:w.heap.size≤B):RdRow w' k v css:=by
 obtain⟨hs,ao,cap,rfl,h1,h2,h3⟩:=h
 refine⟨hs,ao,cap,rfl,h1,h2,?_⟩
 rcases h3 with h3|⟨b,off,rfl,h4⟩
 ·exact .inl h3
 ·refine .inr ⟨b,off,rfl,fun j i hj hi=>?_⟩
  have h5:=h4 j i hj hi
  have hz:(css.getD j #[]).size=k:=by simp[List.getD,hj];exact hs _ (List.getElem_mem hj)
  have h6:∃y,(css.getD j #[])[i]?=some y:=⟨_,Array.getElem?_eq_getElem (by omega)⟩
  obtain⟨y,hy⟩:=h6
  rw[hy]at h5⊢
  have h7:=World.block_lt_of_cell? w _ h5
  rw[hb.cell (p:=⟨b,off+(j*k+i),none⟩) (Nat.lt_of_lt_of_le h7 hB)]
  exact h5
theorem RdRow.form {w:World} {k:Nat} {v:Value} {css:List (Array Value)} (h:RdRow w k v css):∃ao cap,v=.slice ao css.length cap:=by
 obtain⟨hs,ao,cap,e,_⟩:=h
 exact⟨ao,cap,e⟩
theorem RdRow.el {w:World} {k:Nat} {ao:Option Addr} {n cap:Nat} {css:List (Array Value)} (h:RdRow w k (.slice ao n cap) css):n=css.length∧n≤cap∧cap≤maxLen∧
  ∀j,j<n→∃b off,ao=some ⟨b,off,none⟩∧(css.getD j #[]).size=k∧∀i,i<k→w.cell? ⟨b,off+(j*k+i),none⟩=(css.getD j #[])[i]?:=by
 obtain⟨hs,ao',cap',e,h1,⟨h2, -⟩,h3⟩:=h
 simp only[Value.slice.injEq]at e
 obtain⟨rfl,rfl,rfl⟩:=e
 refine⟨rfl,h1,h2,fun j hj=>?_⟩
 rcases h3 with rfl|⟨b,off,rfl,h4⟩
 ·simp at hj
 ·exact⟨b,off,rfl,by simp[List.getD,hj];exact hs _ (List.getElem_mem hj),fun i hi=>h4 j i hj hi⟩
theorem RdRow.one {w:World} {k:Nat} {b off:Nat} {cs:Array Value} (hs:cs.size=k) (h:∀i,i<k→w.cell? ⟨b,off+i,none⟩=cs[i]?):RdRow w k (.slice (some ⟨b,off,none⟩) 1 1) [cs]:=
 ⟨by simpa using hs,some ⟨b,off,none⟩,1,rfl,Nat.le_refl _,⟨by decide,fun e=>by cases e⟩,.inr ⟨b,off,rfl,fun j i hj hi=>by
  have:j=0:=by simpa using hj
  subst this
  simpa using h i hi⟩⟩
theorem load_at {t:TypeId} {n:Nat} (hS:IsS t n) (w:World) (b off:Nat) (cs:Array Value) (hn:cs.size=n) (hc:∀i,i<n→w.cell? ⟨b,off+i,none⟩=cs[i]?):(loadVar t ⟨b,off,none⟩).run Tryd.prog w=.ok (.agg cs) w:=by
 obtain⟨⟨fs,hu⟩,hi⟩:=hS
 have hl:(loadCells ⟨b,off,none⟩ cs.toList.length).run Tryd.prog w=.ok cs.toList.toArray w:=
  run_loadCells_list (P:=Tryd.prog) w ⟨b,off,none⟩ cs.toList (fun j v hv=>by
   have hadd:(⟨b,off,none⟩:Addr).add j=⟨b,off+j,none⟩:=by unfold Addr.add;split<;>simp_all
   have hj:j<n:=by
    have:j<cs.toList.length:=(List.getElem?_eq_some_iff.1 hv).1
    rw[Array.length_toList]at this
    omega
   rw[hadd,hc j hj]
   simpa using hv)
 cases hq:Tryd.prog.info? t with
 |none=>simp[hq]at hi
 |some i=>
  have hs:i.size=cs.size:=by simp[hq]at hi;omega
  have hagg:(isAgg t).run Tryd.prog w=.ok true w:=by
   unfold isAgg
   rw[Sem.run_bind,run_underlying hu w]
   simp
  simp only[Array.length_toList,Array.toArray_toList]at hl
  simp[loadVar,Sem.run_bind,hagg,sizeOf,typeInfo,hq,hs,hl]
theorem wpList_getO {t:TypeId} {n:Nat} (hS:IsS t n) {ops:Array Oper} {rest:List Oper} {o:Oper} {a:Act} {w:World} {Q:Exit→Act→World→Prop} (hw:Region.wanted o (yielded ops a.tmps)=true) (x:Operand) (ho:o.op=.load t x)
  (b off:Nat) (hx:a.eval x=.pointer (some ⟨b,off,none⟩)) (cs:Array Value) (hn:cs.size=n) (hc:∀i,i<n→w.cell? ⟨b,off+i,none⟩=cs[i]?)
  (h:wpList Tryd.prog ops Q rest (a.put o.dst (.agg cs)) w):wpList Tryd.prog ops Q (o::rest) a w:=by
 refine wpList_step fun K hK=>?_
 rw[if_pos hw]
 unfold Oper.wp execOp
 simp only[ho,hx,Instr.loadAt,Instr.sureAddr,Sem.run_bind,Sem.run_pure,Result.andThen_ok,load_at hS w b off cs hn hc]
 exact hK _ _ h
theorem OwnRow.put {w:World} {base:Nat} {t:TypeId} {k g cap n:Nat} {css:List (Array Value)} (hr:OwnRow w base t k (.slice (some ⟨g,0,none⟩) n cap) css) (hl:n=css.length) (j i:Nat) (hj:j<n) (hi:i<k) (cs:Array Value) (hc:css[j]?=some cs) (x:Value):
  w.frozen? ⟨g,j*k+i,none⟩=false∧(∃y,w.cell? ⟨g,j*k+i,none⟩=some y)∧OwnRow (w.setCell ⟨g,j*k+i,none⟩ x) base t k (.slice (some ⟨g,0,none⟩) n cap) (css.set j (cs.setIfInBounds i x)):=by
 subst hl
 have hle:(j+1)*k≤css.length*k:=Nat.mul_le_mul_right k hj
 rw[Nat.add_mul,Nat.one_mul]at hle
 have hfl:=flatC_len css hr.sz
 have hcs:cs.size=k:=hr.sz cs (List.mem_of_getElem? hc)
 refine⟨World.ownsRow.frozenAt hr.ow _,?_,?_⟩
 ·rw[World.ownsRow.cellAt hr.ow (j*k+i) (by omega)]
  exact⟨_,List.getElem?_eq_getElem (by omega)⟩
 ·have h0:=(World.ownsRow.stored hr.ow (j*k+i) x).1
  have hsz:∀c∈css.set j (cs.setIfInBounds i x),c.size=k:=fun c hc=>by
   rcases List.mem_or_eq_of_mem_set hc with hc|rfl
   ·exact hr.sz c hc
   ·rw[Array.size_setIfInBounds];exact hcs
  refine⟨hsz,?_⟩
  have e:(flatC css).set (j*k+i) x=flatC (css.set j (cs.setIfInBounds i x)):=by
   rw[←flatC_set css hr.sz j hj _]
   have ecs:cs.toList=((flatC css).drop (j*k)).take k:=by
    apply List.ext_getElem?
    intro m
    rw[List.getElem?_take,List.getElem?_drop]
    by_cases hm:m<k
    ·rw[if_pos hm,flatC_at css hr.sz j m hj hm]
     simp[List.getD,hc]
    ·rw[if_neg hm,List.getElem?_eq_none (by rw[Array.length_toList];omega)]
   have ef:flatC css=(flatC css).take (j*k)++cs.toList++(flatC css).drop (j*k+k):=by
    rw[ecs,List.append_assoc,←List.drop_drop,List.take_append_drop,List.take_append_drop]
   have hlt:((flatC css).take (j*k)).length=j*k:=by rw[List.length_take];omega
   conv=>lhs;rw[ef]
   rw[List.append_assoc,List.set_append_right _ _ (by omega),hlt,Nat.add_sub_cancel_left,List.set_append_left _ _ (by rw[Array.length_toList];omega),Array.toList_setIfInBounds,List.append_assoc]
  rw[e]at h0
  rwa[List.length_set]
end Go.Proofs.YthmnmaemnihkeaaDoor
