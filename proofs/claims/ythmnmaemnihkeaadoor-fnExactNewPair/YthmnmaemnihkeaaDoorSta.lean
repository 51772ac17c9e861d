/- The state of a long walk under one name: nothing that was there has turned, and these things lie in memory of the call's own, each in blocks of its own. -/
import Derived.Test.YthmnmaemnihkeaaDoorMem
import Derived.Laws.Tables
import Derived.Laws.ResultCell
namespace Go.Proofs.YthmnmaemnihkeaaDoor
open Go.ChangeShapes Go.WideShapes Go.ChangeAt Go.RowKit
structure Item where
 blocks:List Nat
 old:Nat
 holds:World→Prop
 frame:∀w w':World,(∀b∈blocks,w'.heap[b]?=w.heap[b]?)→Below old w w'→holds w→holds w'
structure Turned (w w':World) (bs:List Nat):Prop where
 os:w'.os=w.os
 tape:w'.tape=w.tape
 output:w'.output=w.output
 size:w.heap.size≤w'.heap.size
 block:∀k,k<w.heap.size→k∉bs→w'.heap[k]?=w.heap[k]?
theorem Turned.of_grown {w w':World} {row:Option Nat} (h:w.grownBy w' row):Turned w w' row.toList:=
 ⟨h.os,h.tape,h.output,h.size,fun k hk hn=>h.block k hk (fun e=>hn (by rw[←e];simp))⟩
theorem Turned.trans {w w' w'':World} {bs cs:List Nat} (h:Turned w w' bs) (h':Turned w' w'' cs):Turned w w'' (bs++cs):=
 ⟨h'.os.trans h.os,h'.tape.trans h.tape,h'.output.trans h.output,Nat.le_trans h.size h'.size,fun k hk hn=>by
  simp at hn
  exact(h'.block k (Nat.lt_of_lt_of_le hk h.size) hn.2).trans (h.block k hk hn.1)⟩
theorem Turned.of_below {w w':World} (h:Below w.heap.size w w'):Turned w w' []:=
 ⟨h.os,h.tape,h.output,h.size,fun k hk _=>h.block k hk⟩
def Apart:List Item→Prop
 |[]=>True
 |i::l=>(∀j∈l,∀b∈i.blocks,b∉j.blocks)∧Apart l
structure Sta (w wx:World) (L:List Item):Prop where
 below:Below w.heap.size w wx
 olds:∀i∈L,i.old≤w.heap.size
 holds:∀i∈L,i.holds wx
 bound:∀i∈L,∀b∈i.blocks,w.heap.size≤b∧b<wx.heap.size
 apart:Apart L
theorem Sta.start (w:World):Sta w w []:=⟨Below.refl _ _,by simp,by simp,by simp,trivial⟩
theorem Sta.next {w wx wy:World} {L:List Item} (h:Sta w wx L) (b:Below wx.heap.size wx wy):Sta w wy L:=
 ⟨h.below.trans (b.mono h.below.size),h.olds,fun i hi=>i.frame wx wy (fun k hk=>b.block k (h.bound i hi k hk).2) (b.mono (Nat.le_trans (h.olds i hi) h.below.size)) (h.holds i hi),fun i hi k hk=>⟨(h.bound i hi k hk).1,Nat.lt_of_lt_of_le (h.bound i hi k hk).2 b.size⟩,h.apart⟩
theorem Sta.drew {w wx wy:World} {L:List Item} {n:Nat} (h:Sta w wx L) (e:wy=wx.drewN n):Sta w wy L:=by
 subst e
 exact⟨below_drewN h.below n,h.olds,fun i hi=>i.frame wx _ (fun _ _=>rfl) (below_drewN (Below.refl _ _) n) (h.holds i hi),h.bound,h.apart⟩
theorem Sta.add {w wx wy:World} {L:List Item} (h:Sta w wx L) (b:Below wx.heap.size wx wy) (i:Item) (hi:i.holds wy) (hb:∀k∈i.blocks,wx.heap.size≤k∧k<wy.heap.size) (ho:i.old≤w.heap.size:=by exact Nat.zero_le _):Sta w wy (i::L):=by
 have h':=h.next b
 refine⟨h'.below,?_,?_,?_,?_,h'.apart⟩
 ·intro j hj
  rcases List.mem_cons.1 hj with rfl|hj
  ·exact ho
  ·exact h'.olds j hj
 ·intro j hj
  rcases List.mem_cons.1 hj with rfl|hj
  ·exact hi
  ·exact h'.holds j hj
 ·intro j hj k hk
  rcases List.mem_cons.1 hj with rfl|hj
  ·exact⟨Nat.le_trans h.below.size (hb k hk).1,(hb k hk).2⟩
  ·exact h'.bound j hj k hk
 ·intro j hj k hk hk'
  have:=(hb k hk).1
  have:=(h.bound j hj k hk').2
  omega
theorem Sta.get {w wx:World} {L:List Item} (h:Sta w wx L) (n:Nat) {i:Item} (e:L[n]?=some i):i.holds wx:=h.holds i (List.mem_of_getElem? e)
theorem Sta.lt {w wx:World} {L:List Item} (h:Sta w wx L) (n:Nat) {i:Item} (e:L[n]?=some i):∀b∈i.blocks,w.heap.size≤b∧b<wx.heap.size:=h.bound i (List.mem_of_getElem? e)
theorem Apart.set {L:List Item} {n:Nat} {i j:Item} (h:Apart L) (e:L[n]?=some i) (hb:j.blocks=i.blocks):Apart (L.set n j):=by
 induction L generalizing n with
 |nil=>simp at e
 |cons a l ih=>
  cases n with
  |zero=>
   simp at e
   subst e
   refine⟨?_,h.2⟩
   rw[hb]
   exact h.1
  |succ n=>
   simp at e
   refine⟨?_,ih h.2 e⟩
   intro x hx b hba
   rcases List.mem_or_eq_of_mem_set hx with hx|rfl
   ·exact h.1 x hx b hba
   ·rw[hb]
    exact h.1 i (List.mem_of_getElem? e) b hba
theorem Apart.ne {L:List Item} {n m:Nat} {i j:Item} (h:Apart L) (e:L[n]?=some i) (e':L[m]?=some j) (hne:n≠m):∀b∈i.blocks,b∉j.blocks:=by
 induction L generalizing n m with
 |nil=>simp at e
 |cons a l ih=>
  cases n with
  |zero=>
   cases m with
   |zero=>exact absurd rfl hne
   |succ m=>
    simp at e e'
    subst e
    exact h.1 j (List.mem_of_getElem? e')
  |succ n=>
   cases m with
   |zero=>
    simp at e e'
    subst e'
    intro b hb hb'
    exact h.1 i (List.mem_of_getElem? e) b hb' hb
   |succ m=>
    simp at e e'
    exact ih h.2 e e' (by omega)
theorem Sta.turn {w wx wy:World} {L:List Item} (h:Sta w wx L) (n:Nat) {i:Item} (e:L[n]?=some i) (t:Turned wx wy i.blocks) (j:Item) (hb:j.blocks=i.blocks) (hj:j.holds wy) (ho:j.old≤w.heap.size:=by exact Nat.zero_le _):Sta w wy (L.set n j):=by
 have hold:Below w.heap.size wx wy:=⟨t.os,t.tape,t.output,t.size,fun k hk=>t.block k (Nat.lt_of_lt_of_le hk h.below.size) (fun hc=>by have:=(h.lt n e k hc).1;omega)⟩
 refine⟨h.below.trans hold,?_,?_,?_,h.apart.set e hb⟩
 ·intro x hx
  rcases List.mem_or_eq_of_mem_set hx with hx|rfl
  ·exact h.olds x hx
  ·exact ho
 ·intro x hx
  obtain⟨m,hm,rfl⟩:=List.mem_iff_getElem.1 hx
  rw[List.getElem_set]
  split
  ·exact hj
  ·rename_i hne
   have hm':m<L.length:=by simpa using hm
   have hx':L[m]?=some L[m]:=List.getElem?_eq_getElem hm'
   refine L[m].frame wx wy (fun k hk=>t.block k (h.lt m hx' k hk).2 (fun hc=>?_)) (hold.mono (h.olds _ (List.mem_of_getElem? hx'))) (h.get m hx')
   exact h.apart.ne hx' e (fun e2=>hne e2.symm) k hk hc
 ·intro x hx k hk
  rcases List.mem_or_eq_of_mem_set hx with hx|rfl
  ·exact⟨(h.bound x hx k hk).1,Nat.lt_of_lt_of_le (h.bound x hx k hk).2 t.size⟩
  ·rw[hb]at hk
   exact⟨(h.lt n e k hk).1,Nat.lt_of_lt_of_le (h.lt n e k hk).2 t.size⟩
theorem Sta.tail {w wx:World} {i:Item} {L:List Item} (h:Sta w wx (i::L)):Sta w wx L:=
 ⟨h.below,fun j hj=>h.olds j (List.mem_cons_of_mem _ hj),fun j hj=>h.holds j (List.mem_cons_of_mem _ hj),fun j hj=>h.bound j (List.mem_cons_of_mem _ hj),h.apart.2⟩
theorem Sta.second {w wx:World} {i j:Item} {L:List Item} (h:Sta w wx (i::j::L)):Sta w wx (i::L):=
 ⟨h.below,fun x hx=>h.olds x (by rcases List.mem_cons.1 hx with rfl|hx<;>simp[*]),fun x hx=>h.holds x (by rcases List.mem_cons.1 hx with rfl|hx<;>simp[*]),fun x hx=>h.bound x (by rcases List.mem_cons.1 hx with rfl|hx<;>simp[*]),fun x hx=>h.apart.1 x (List.mem_cons_of_mem _ hx),h.apart.2.2⟩
theorem Apart.iff {L:List Item}:Apart L↔L.Pairwise (fun i j=>∀b∈i.blocks,b∉j.blocks):=by
 induction L with
 |nil=>simp[Apart]
 |cons a l ih=>rw[List.pairwise_cons,←ih];exact Iff.rfl
theorem Sta.perm {w wx:World} {L M:List Item} (h:Sta w wx L) (p:L.Perm M):Sta w wx M:=
 ⟨h.below,fun i hi=>h.olds i (p.mem_iff.2 hi),fun i hi=>h.holds i (p.mem_iff.2 hi),fun i hi=>h.bound i (p.mem_iff.2 hi),
  Apart.iff.2 ((p.pairwise_iff (fun hxy b hb hb'=>hxy b hb' hb)).1 (Apart.iff.1 h.apart))⟩
theorem Sta.sub {w wx:World} {L M:List Item} (h:Sta w wx L) (p:M.Sublist L):Sta w wx M:=
 ⟨h.below,fun i hi=>h.olds i (p.mem hi),fun i hi=>h.holds i (p.mem hi),fun i hi=>h.bound i (p.mem hi),Apart.iff.2 ((Apart.iff.1 h.apart).sublist p)⟩
theorem erase_perm (L:List Item):∀(n:Nat) (i:Item),L[n]?=some i→(i::L.eraseIdx n).Perm L:=by
 induction L with
 |nil=>intro n i e;simp at e
 |cons a l ih=>
  intro n i e
  cases n with
  |zero=>simp at e;subst e;exact List.Perm.refl _
  |succ n=>
   simp at e
   exact(List.Perm.swap a i _).trans ((ih n i e).cons a)
theorem Sta.front {w wx:World} {L:List Item} (h:Sta w wx L) (n:Nat) {i:Item} (e:L[n]?=some i):Sta w wx (i::L.eraseIdx n):=
 h.perm (erase_perm L n i e).symm
theorem Sta.drop {w wx:World} {L:List Item} (h:Sta w wx L) (n:Nat):Sta w wx (L.eraseIdx n):=h.sub (List.eraseIdx_sublist ..)
theorem Sta.join {w wx:World} {L:List Item} {i j:Item} (h:Sta w wx (i::j::L)) (k:Item) (hb:k.blocks=i.blocks++j.blocks) (hk:k.holds wx) (ho:k.old≤w.heap.size:=by exact Nat.zero_le _):Sta w wx (k::L):=by
 refine⟨h.below,?_,?_,?_,?_,h.apart.2.2⟩
 ·intro x hx
  rcases List.mem_cons.1 hx with rfl|hx
  ·exact ho
  ·exact h.olds x (by simp[hx])
 ·intro x hx
  rcases List.mem_cons.1 hx with rfl|hx
  ·exact hk
  ·exact h.holds x (by simp[hx])
 ·intro x hx b hbb
  rcases List.mem_cons.1 hx with rfl|hx
  ·rw[hb,List.mem_append]at hbb
   rcases hbb with hbb|hbb
   ·exact h.bound i (by simp) b hbb
   ·exact h.bound j (by simp) b hbb
  ·exact h.bound x (by simp[hx]) b hbb
 ·intro x hx b hbb
  rw[hb,List.mem_append]at hbb
  rcases hbb with hbb|hbb
  ·exact h.apart.1 x (by simp[hx]) b hbb
  ·exact h.apart.2.1 x hx b hbb
def Blk (g:Nat) (t:TypeId) (cs:Array Value):Item:=⟨[g],0,fun w=>w.heap[g]?=some (.cells cs t (0,0)),fun w w' e _ h=>(e g (by simp)).trans h⟩
theorem Sta.box {w wx:World} {L:List Item} (h:Sta w wx L) (t:TypeId) (cs:Array Value):Sta w (wx.alloc (.cells cs t)) (Blk wx.heap.size t cs::L):=
 h.add ((Below.refl _ _).alloc (Nat.le_refl _) _) (Blk _ _ _) (heap_alloc_new wx _) (by simp[Blk])
theorem Blk.cell {w:World} {g:Nat} {t:TypeId} {cs:Array Value} (h:(Blk g t cs).holds w) (j:Nat) {x:Value} (e:cs[j]?=some x):w.cell? ⟨g,j,none⟩=some x:=by
 rw[cell_of_row w g j _ _ _ h,e]
theorem Own.frame {w w':World} {base:Nat} {v:Value} {xs:List Int} (h:Own w base v xs) (e:∀b∈v.ownBlock.toList,w'.heap[b]?=w.heap[b]?):Own w' base v xs:=by
 refine⟨h.1,?_⟩
 rcases h.2 with h'|⟨g,cap,cur,rfl,hb,hg,r⟩
 ·exact .inl h'
 ·exact .inr ⟨g,cap,cur,rfl,hb,(e g (by simp[Value.ownBlock])).trans hg,r⟩
def Lst (v:Value) (xs:List Int):Item:=⟨v.ownBlock.toList,0,fun w=>Own w 0 v xs,fun _ _ e _ h=>Own.frame h e⟩
theorem Sta.list {w wx wy:World} {L:List Item} {v:Value} {xs:List Int} (h:Sta w wx L) (o:Own wy wx.heap.size v xs) (b:Below wx.heap.size wx wy):Sta w wy (Lst v xs::L):=
 h.add b (Lst v xs) (o.mono (Nat.zero_le _)) (fun k hk=>o.lt k (by simpa[Lst]using hk))
end Go.Proofs.YthmnmaemnihkeaaDoor
