/- Regions that draw their order, with calls that make memory, new variables and stores into them, whatever the order: what is needed at each step is found by the world's own shape. -/
import Derived.Test.YthldeiojlllkdaaGreatDoorM7
set_option maxRecDepth 20000
set_option maxHeartbeats 2000000
namespace Go.Proofs.YthldeiojlllkdaaGreatDoor
open Go.ChangeShapes Go.WideShapes Go.ChangeAt Go.RowKit
theorem jD {w wx:World} {o:Obj} (h:iO w wx):iO w (wx.alloc o):=h.alloc h.size _
theorem uL {w wx:World} (h:iO w wx):iO w wx.drew:=h.drew
theorem qD {w wx wy:World} (h:iO w wx) (b:iO wx wy):iO w wy:=h.trans (b.mono h.size)
theorem cC {P:Prop} (h:P:=by repeat'(first|with_reducible assumption|with_reducible exact Below.refl _ _|with_reducible refine jD ?_|with_reducible refine uL ?_|with_reducible refine qD ?_ (by with_reducible assumption))):P:=h
theorem aJ {w wx:World} {a:Addr} {v:Value} (h:w.cell? a=some v) (b:iO w wx):wx.cell? a=some v:=by
 rw[b.cell (World.block_lt_of_cell? w _ h)];exact h
theorem StB.dr {w:World} {g:Nat} {t:TypeId} {cs:Array Value} (h:StB w g t cs):StB w.drew g t cs:=h
theorem StB.al {w:World} {g:Nat} {t:TypeId} {cs:Array Value} {o:Obj} (h:StB w g t cs):StB (w.alloc o) g t cs:=h.alloc o
theorem StB.bel {w w':World} {g:Nat} {t:TypeId} {cs:Array Value} (h:StB w g t cs) (b:iO w w'):StB w' g t cs:=h.below b
theorem StB.typ {w:World} {g k:Nat} {t s:TypeId} {cs ds:Array Value} (h:StB w g t cs) (h':StB w k s ds) (hne:t≠s):g≠k:=by
 rintro rfl;unfold StB at h h';rw[h]at h';simp at h';exact hne h'.2
theorem Own.ne {w:World} {base g:Nat} {v:Value} {xs:List Int} {t:TypeId} {cs:Array Value} (h:Own w base v xs) (h':StB w g t cs) (hne:t≠2):v.ownBlock≠some g:=by
 intro e;rcases h.2 with⟨rfl, -⟩|⟨k,cap,cur,rfl, -,hg, -⟩
 ·cases e
 ·simp only[Value.ownBlock,Option.some.injEq]at e
  subst e;unfold StB at h';rw[hg]at h';simp at h';exact hne h'.2.symm
theorem Own.putBy {w w':World} {base g:Nat} {v:Value} {xs:List Int} {t:TypeId} {cs:Array Value} (h:Own w base v xs) (h':StB w g t cs) (hne:t≠2) (b:w.grownBy w' (some g)):Own w' base v xs:=
 h.kept b (.inr (h.ne h' hne))
theorem zO {t:TypeId} {n:Nat} (hS:IsS t n) {ops:Array Oper} {o:Oper} {a:Act} {w:World} {K:Act->World->Prop} {Q:Exit->Act->World->Prop} {E:Prop} (hgd:o.guard=none) (x y:Operand) (ho:o.op=.store t x y)
  (g:Nat) (cs ds:Array Value) (hx:a.eval x=.pointer (some ⟨g,0,none⟩)) (hy:a.eval y=.agg cs) (hn:cs.size=n) (hd:ds.size=n) (h1:cs.all (·.oneCell')=true) (hr:StB w g t ds)
  (h:∀w',StB w' g t cs->w.grownBy w' (some g)->K (a.put o.dst undef) w'):if Region.wanted o (yielded ops a.tmps)=true then Oper.wp Tryz.prog o a w K Q else E:=by
 have hw:Region.wanted o (yielded ops a.tmps)=true:=by simp[Region.wanted,hgd]
 rw[if_pos hw];exact wp_store_row t x y ho g cs hx hy _ _ hr (by rw[hS.2,hn]) (by rw[hd,hn]) h1 (h _ (setRow_heap w g _ _ _ _ hr) (gw w g _))
theorem StB.keptT {w w':World} {g k:Nat} {t s:TypeId} {cs ds:Array Value} (h:StB w k s ds) (h':StB w g t cs) (b:w.grownBy w' (some g)) (ne:t≠s):StB w' k s ds:=h.kept b (fun e=>StB.typ h' h ne (Option.some.inj e).symm)
theorem gn {o:Oper} {a:Act} {w:World} {K:Act->World->Prop} {Q:Exit->Act->World->Prop} (g:Nat) (t:TypeId) (cs ds:Array Value) (hd:ds.size=cs.size) (h1:cs.all (·.oneCell')=true) (hr:StB w g t ds)
  (h:∀w',StB w' g t cs->w.grownBy w' (some g)->Oper.upon Tryz.prog o a K Q (.ok .skip w')):
  Oper.upon Tryz.prog o a K Q (((storeCells ⟨g,0,none⟩ cs.toList).run Tryz.prog w).andThen fun _ w'=>.ok .skip w'):=by
 have e:=run_storeCells_from (P:=Tryz.prog) g t cs.toList 0 ds w hr (by simp;omega) (fun v hv=>(Array.all_eq_true_iff_forall_mem.1 h1) v (by simpa using hv));rw[e];simp only[List.take_zero,List.nil_append,Array.toArray_toList,Result.andThen_ok];exact h _ (setRow_heap w g _ _ _ _ hr) (gw w g _)
def dkA (u v:Value):Array Value:=#[u,v]
def bP (w:World) (base:Nat) (v:Value) (xs:List Int):Prop:=Own w base v xs∨(xs=[]/\∃ao cap,v=.slice ao 0 cap/\cap<=maxLen/\(ao=none->cap=0))
theorem bP.reads {w:World} {base:Nat} {v:Value} {xs:List Int} (h:bP w base v xs):ag w v xs:=by
 rcases h with h|⟨rfl,ao,cap,rfl,h1,h2⟩
 ·exact h.reads
 ·exact⟨ao,cap,rfl,Nat.zero_le _,⟨h1,h2⟩,.inl rfl⟩
theorem ag.mine {w:World} {base:Nat} {v:Value} (h:ag w v []):bP w base v []:=by
 obtain⟨ao,cap,rfl, -,⟨h1,h2⟩, -⟩:=h;exact .inr ⟨rfl,ao,cap,rfl,h1,h2⟩
theorem bP.mono {w:World} {base base':Nat} {v:Value} {xs:List Int} (h:bP w base v xs) (hb:base'<=base):bP w base' v xs:=h.imp (fun h=>h.mono hb) id
theorem bP.below {w w':World} {base:Nat} {v:Value} {xs:List Int} (h:bP w base v xs) (b:iO w w'):bP w' base v xs:=h.imp (fun h=>h.below b) id
theorem bP.keptLt {w w':World} {base g:Nat} {v:Value} {xs:List Int} (h:bP w base v xs) (hg:w.grownBy w' (some g)) (hb:g<base):bP w' base v xs:=h.imp (fun h=>h.keptLt hg hb) id
theorem bP.setLt {w:World} {base g:Nat} {v:Value} {xs:List Int} (h:bP w base v xs) (hb:g<base) (j:Nat) (x:Value):bP (w.setCell ⟨g,j,none⟩ x) base v xs:=h.imp (fun h=>h.setLt hb j x) id
theorem bP.putBy {w w':World} {base g:Nat} {v:Value} {xs:List Int} {t:TypeId} {cs:Array Value} (h:bP w base v xs) (h':StB w g t cs) (hne:t≠2) (b:w.grownBy w' (some g)):bP w' base v xs:=h.imp (fun h=>h.putBy h' hne b) id
theorem bP.set {w:World} {base g j:Nat} {v:Value} {xs:List Int} {t:TypeId} {cs:Array Value} (h:bP w base v xs) (h':StB w g t cs) (hne:t≠2) (x:Value):bP (w.setCell ⟨g,j,none⟩ x) base v xs:=h.putBy h' hne (ai w g j x)
theorem bP.drew {w w':World} {base n:Nat} {v:Value} {xs:List Int} (h:bP w base v xs) (e:w'=w.drewN n):bP w' base v xs:=h.imp (fun h=>h.drew_eq e) id
theorem bP.own {w:World} {base:Nat} {v:Value} {xs:List Int} (h:bP w base v xs) (hx:xs≠[]):Own w base v xs:=h.resolve_right (fun h=>hx h.1)
theorem ag.later {w w':World} {v:Value} (h:ag w v []):ag w' v []:=by
 obtain⟨ao,cap,rfl,h0,h1, -⟩:=h;exact⟨ao,cap,rfl,h0,h1,.inl rfl⟩
def bn (v:Value) (xs:List Int):List Nat:=if xs.length=0 then[]else v.ownBlock.toList
theorem bP.frame {w w':World} {base:Nat} {v:Value} {xs:List Int} (h:bP w base v xs) (e:∀b∈bn v xs,w'.heap[b]?=w.heap[b]?):bP w' base v xs:=by
 rcases h with h|h
 ·by_cases hx:xs.length=0
  ·have e0:xs=[]:=List.eq_nil_of_length_eq_zero hx
   subst e0;exact ag.mine (h.reads.later)
  ·unfold bn at e
   rw[if_neg hx]at e;exact .inl (Own.frame h e)
 ·exact .inr h
theorem eK {u v:Value}:apart u v↔∀x,x∈blk u->x∈blk v->False:=by
 constructor
 ·intro h x h1 h2
  have e1:u.ownBlock=some x:=by simpa[blk]using h1
  have e2:v.ownBlock=some x:=by simpa[blk]using h2
  rcases h.1 with h|h
  ·rw[e1]at h;cases h
  ·exact h (e1.trans e2.symm)
 ·intro h
  constructor
  ·cases hu:u.ownBlock with
   |none=>exact .inl rfl
   |some x=>exact .inr (fun e=>h x (by simp[blk,hu]) (by simp[blk,<-e]))
  ·cases hv:v.ownBlock with
   |none=>exact .inl rfl
   |some x=>exact .inr (fun e=>h x (by simp[blk,<-e]) (by simp[blk,hv]))
theorem dK {v:Value} {xs:List Int} {x:Nat} (h:x∈bn v xs):x∈blk v:=by
 unfold bn at h;split at h
 ·cases h
 ·exact h
theorem eL {w:World} {B:Nat} {v:Value} {xs:List Int} (h:bP w B v xs) {x:Nat} (hx:x∈bn v xs):B<=x/\x<w.heap.size:=by
 have e:xs≠[]:=fun e=>by rw[e]at hx;simp[bn]at hx
 exact aN (h.own e) x (dK hx)
structure C7 (l1 l2 l3 l4 l5:List Nat):Prop where
 h12:∀x,x∈l1->x∈l2->False
 h13:∀x,x∈l1->x∈l3->False
 h14:∀x,x∈l1->x∈l4->False
 h15:∀x,x∈l1->x∈l5->False
 h23:∀x,x∈l2->x∈l3->False
 h24:∀x,x∈l2->x∈l4->False
 h25:∀x,x∈l2->x∈l5->False
 h34:∀x,x∈l3->x∈l4->False
 h35:∀x,x∈l3->x∈l5->False
 h45:∀x,x∈l4->x∈l5->False
structure aP (w:World) (base:Nat) (a b k q z:Value) (n:Nd):Prop where
 oa:Own w base a n.xs
 ob:Own w base b n.ys
 ok:Own w base k n.h.ks
 oq:bP w base q n.c.ts
 oz:bP w base z n.s.ts
 ap:C7 (blk a) (blk b) (blk k) (bn q n.c.ts) (bn z n.s.ts)
def me (a b k q z:Value) (n:Nd):List Nat:=blk a++(blk b++(blk k++(bn q n.c.ts++bn z n.s.ts)))
theorem eU {a b k q z:Value} {n:Nd} {x:Nat}:x∈me a b k q z n↔x∈blk a∨x∈blk b∨x∈blk k∨x∈bn q n.c.ts∨x∈bn z n.s.ts:=by
 unfold me;simp only[List.mem_append]
theorem cG.mine {w:World} {base:Nat} {a b k q z:Value} {n:Nd} (h:cG w base a b k q z n):aP w base a b k q z n:=by
 have p:(apart z q/\apart z k/\apart z b/\apart z a)/\(apart q k/\apart q b/\apart q a)/\(apart k b/\apart k a)/\apart b a:=by
  have:=h.ap;simpa[List.pairwise_cons]using this
 obtain⟨⟨p1,p2,p3,p4⟩,⟨p5,p6,p7⟩,⟨p8,p9⟩,p0⟩:=p;simp only[eK]at*;exact⟨h.oa,h.ob,h.ok,.inl h.oq,.inl h.oz,⟨fun x h1 h2=>p0 x h2 h1,fun x h1 h2=>p9 x h2 h1,fun x h1 h2=>p7 x (dK h2) h1,fun x h1 h2=>p4 x (dK h2) h1,fun x h1 h2=>p8 x h2 h1,fun x h1 h2=>p6 x (dK h2) h1,fun x h1 h2=>p3 x (dK h2) h1,fun x h1 h2=>p5 x (dK h2) h1,fun x h1 h2=>p2 x (dK h2) h1,fun x h1 h2=>p1 x (dK h2) (dK h1)⟩⟩
theorem aP.reads {w:World} {base:Nat} {a b k q z:Value} {n:Nd} (h:aP w base a b k q z n):RdN w a b k q z n:=⟨h.oa.reads,h.ob.reads,h.ok.reads,h.oq.reads,h.oz.reads⟩
theorem aP.mono {w:World} {base base':Nat} {a b k q z:Value} {n:Nd} (h:aP w base a b k q z n) (hb:base'<=base):aP w base' a b k q z n:=⟨h.oa.mono hb,h.ob.mono hb,h.ok.mono hb,h.oq.mono hb,h.oz.mono hb,h.ap⟩
theorem aP.below {w w':World} {base:Nat} {a b k q z:Value} {n:Nd} (h:aP w base a b k q z n) (B:iO w w'):aP w' base a b k q z n:=⟨h.oa.below B,h.ob.below B,h.ok.below B,h.oq.below B,h.oz.below B,h.ap⟩
theorem aP.keptLt {w w':World} {base g:Nat} {a b k q z:Value} {n:Nd} (h:aP w base a b k q z n) (hg:w.grownBy w' (some g)) (hb:g<base):aP w' base a b k q z n:=⟨h.oa.keptLt hg hb,h.ob.keptLt hg hb,h.ok.keptLt hg hb,h.oq.keptLt hg hb,h.oz.keptLt hg hb,h.ap⟩
theorem aP.putBy {w w':World} {base g:Nat} {a b k q z:Value} {n:Nd} {t:TypeId} {cs:Array Value} (h:aP w base a b k q z n) (s:StB w g t cs) (ty:t≠2) (G:w.grownBy w' (some g)):aP w' base a b k q z n:=
 ⟨h.oa.putBy s ty G,h.ob.putBy s ty G,h.ok.putBy s ty G,h.oq.putBy s ty G,h.oz.putBy s ty G,h.ap⟩
theorem aP.lt {w:World} {base:Nat} {a b k q z:Value} {n:Nd} (h:aP w base a b k q z n) {x:Nat} (hx:x∈me a b k q z n):base<=x/\x<w.heap.size:=by
 rcases eU.1 hx with hx|hx|hx|hx|hx
 ·exact aN h.oa x hx
 ·exact aN h.ob x hx
 ·exact aN h.ok x hx
 ·exact eL h.oq hx
 ·exact eL h.oz hx
theorem aP.nil (w:World) (base:Nat):aP w base (.slice none 0 0) (.slice none 0 0) (.slice none 0 0) (.slice none 0 0) (.slice none 0 0) Nd.zero:=
 ⟨Own.nil _ _,Own.nil _ _,Own.nil _ _,.inl (Own.nil _ _),.inl (Own.nil _ _),by constructor<;>(intro x h;cases h)⟩
theorem aP.frame {w w':World} {base:Nat} {a b k q z:Value} {n:Nd} (h:aP w base a b k q z n) (e:∀x∈me a b k q z n,w'.heap[x]?=w.heap[x]?):aP w' base a b k q z n:=
 ⟨h.oa.frame (fun x hx=>e x (eU.2 (.inl hx))),h.ob.frame (fun x hx=>e x (eU.2 (.inr (.inl hx)))),h.ok.frame (fun x hx=>e x (eU.2 (.inr (.inr (.inl hx))))),h.oq.frame (fun x hx=>e x (eU.2 (.inr (.inr (.inr (.inl hx)))))),h.oz.frame (fun x hx=>e x (eU.2 (.inr (.inr (.inr (.inr hx)))))),h.ap⟩
def NdI (a b k q z:Value) (n:Nd):cW:=⟨me a b k q z n,0,fun w=>aP w 0 a b k q z n,fun _ _ e _ h=>h.frame e⟩
theorem Sta.house {w wx wy:World} {L:List cW} {a b k q z:Value} {n:Nd} (h:Sta w wx L) (o:aP wy wx.heap.size a b k q z n) (B:iO wx wy):Sta w wy (NdI a b k q z n::L):=
 h.add B (NdI a b k q z n) (o.mono (Nat.zero_le _)) (fun x hx=>o.lt hx)
theorem Sta.rdN {w wx:World} {L:List cW} {a b k q z:Value} {n:Nd} (h:Sta w wx L) (i:Nat) (e:L[i]?=some (NdI a b k q z n)):RdN wx a b k q z n:=(h.get i e).reads
def Nd.inked (n:Nd) (k:Int):Nd:={n with xs:=aS k n.xs.length,ys:=aS (k+n.xs.length) n.ys.length,h:={n.h with ks:=aS (k+n.xs.length+n.ys.length) n.h.ks.length},c:={n.c with ts:=aS (k+n.xs.length+n.ys.length+n.h.ks.length) n.c.ts.length},s:={n.s with ts:=aS (k+n.xs.length+n.ys.length+n.h.ks.length+n.c.ts.length) n.s.ts.length}}
def Nd.len (n:Nd):Nat:=n.xs.length+n.ys.length+n.h.ks.length+n.c.ts.length+n.s.ts.length
theorem aw.sub {w w':World} {bs cs:List Nat} (h:aw w w' bs) (hs:∀b∈bs,b∈cs):aw w w' cs:=
 ⟨h.os,h.tape,h.output,h.size,fun k hk hn=>h.block k hk (fun e=>hn (hs k e))⟩
theorem aw.then {w w' w'':World} {bs:List Nat} (h:aw w w' bs) (h':aw w' w'' bs):aw w w'' bs:=(h.trans h').sub Fg
theorem aw.refl (w:World) (bs:List Nat):aw w w bs:=(aw.of_below (Below.refl _ _)).sub Fg
theorem aw.below {w w':World} (bs:List Nat) (h:iO w w'):aw w w' bs:=(aw.of_below h).sub Fg
theorem aw.belowAt {B:Nat} {w w':World} {bs:List Nat} (h:aw w w' bs) (hb:∀b∈bs,B<=b) (hB:B<=w.heap.size):Below B w w':=
 ⟨h.os,h.tape,h.output,h.size,fun k hk=>h.block k (Nat.lt_of_lt_of_le hk hB) (fun e=>by have:=hb k e;omega)⟩
theorem Own.up {w:World} {base base':Nat} {v:Value} {xs:List Int} (h:Own w base v xs) (hb:∀k,v.ownBlock=some k->base'<=k):Own w base' v xs:=by
 refine⟨h.1,?_⟩;rcases h.2 with h'|⟨g,cap,cur,rfl,hg,r⟩
 ·exact .inl h'
 ·exact .inr ⟨g,cap,cur,rfl,hb g rfl,r⟩
theorem StB.turned {w w':World} {g:Nat} {t:TypeId} {cs:Array Value} {bs:List Nat} (h:StB w g t cs) (ht:aw w w' bs) (hn:g∉bs):StB w' g t cs:=(ht.block g h.lt hn).trans h
structure CpB (w:World) (g off:Nat) (t:TypeId) (cs:Array Value) (v:Value) (c:Cp):Prop where
 st:StB w g t cs
 i0:cs[off]?=some (.int .i64 c.tr)
 i1:cs[off+1]?=some (.bool c.op)
 i2:cs[off+2]?=some (.int .i64 c.di)
 i3:cs[off+3]?=some (.int .i64 c.wa)
 i4:cs[off+4]?=some v
 own:Own w 0 v c.ts
 ne:v.ownBlock≠some g
def fj (cs:Array Value) (off:Nat) (d w:Int):Array Value:=(cs.setIfInBounds (off+2) (.int .i64 d)).setIfInBounds (off+3) (.int .i64 w)
theorem nL {cs:Array Value} {j:Nat} {x:Value} (h:cs[j]?=some x):cs.setIfInBounds j x=cs:=by
 apply Array.ext_getElem?;intro i;rw[Array.getElem?_setIfInBounds];split
 ·rename_i e;subst e
  have hlt:j<cs.size:=by
   rcases Nat.lt_or_ge j cs.size with hlt|hge
   ·exact hlt
   ·rw[Array.getElem?_eq_none hge]at h;cases h
  simp[hlt]at h⊢;exact h.symm
 ·rfl
theorem vt {cs:Array Value} {off:Nat} {d w:Int} (h2:cs[off+2]?=some (.int .i64 d)) (h3:cs[off+3]?=some (.int .i64 w)):fj cs off d w=cs:=by
 unfold fj;rw[nL h2,nL h3]
theorem DJ {cs:Array Value} {j:Nat} {x y:Value} (h:cs[j]?=some x):(cs.setIfInBounds j y)[j]?=some y:=by
 have hlt:j<cs.size:=by
  rcases Nat.lt_or_ge j cs.size with hlt|hge
  ·exact hlt
  ·rw[Array.getElem?_eq_none hge]at h;cases h
 simp[hlt]
theorem gz {cs:Array Value} {i j:Nat} {y:Value} (h:j≠i):(cs.setIfInBounds j y)[i]?=cs[i]?:=by
 rw[Array.getElem?_setIfInBounds_ne h]
theorem Av {cs:Array Value} {off:Nat} {d w:Int} (h3:cs[off+3]?=some (.int .i64 w)):cs.setIfInBounds (off+2) (.int .i64 d)=fj cs off d w:=by
 unfold fj;exact(nL (by rw[gz Ff];exact h3)).symm
theorem CpB.below {w w':World} {g off:Nat} {t:TypeId} {cs:Array Value} {v:Value} {c:Cp} (h:CpB w g off t cs v c) (b:iO w w'):CpB w' g off t cs v c:=
 ⟨h.st.below b,h.i0,h.i1,h.i2,h.i3,h.i4,h.own.below b,h.ne⟩
theorem CpB.putD {w:World} {g off:Nat} {t:TypeId} {cs:Array Value} {v:Value} {c:Cp} (h:CpB w g off t cs v c) (d:Int):
  CpB (w.setCell ⟨g,off+2,none⟩ (.int .i64 d)) g off t (fj cs off d c.wa) v {c with di:=d}/\aw w (w.setCell ⟨g,off+2,none⟩ (.int .i64 d)) (g::v.ownBlock.toList):=by
 have e:=Av (d:=d) h.i3;refine⟨⟨h.st.put (off+2) _ e,?_,?_,?_,?_,?_,h.own.kept (ai w g _ _) (.inr h.ne),h.ne⟩,(aw.of_grown (ai w g _ _)).sub Fg⟩
 ·rw[<-e,gz Ff];exact h.i0
 ·rw[<-e,gz Ff];exact h.i1
 ·rw[<-e];exact DJ h.i2
 ·rw[<-e,gz Ff];exact h.i3
 ·rw[<-e,gz Ff];exact h.i4
theorem CpB.same {w:World} {g off:Nat} {t:TypeId} {cs:Array Value} {v:Value} {c:Cp} (h:CpB w g off t cs v c):CpB w g off t (fj cs off c.di c.wa) v c:=by
 rw[vt h.i2 h.i3];exact h
theorem CpB.cell {w:World} {g off:Nat} {t:TypeId} {cs:Array Value} {v:Value} {c:Cp} (h:CpB w g off t cs v c):
  w.cell? ⟨g,off,none⟩=some (.int .i64 c.tr)/\w.cell? ⟨g,off+1,none⟩=some (.bool c.op)/\w.cell? ⟨g,off+2,none⟩=some (.int .i64 c.di)/\w.cell? ⟨g,off+3,none⟩=some (.int .i64 c.wa)/\w.cell? ⟨g,off+4,none⟩=some v:=
 ⟨h.st.cell off h.i0,h.st.cell _ h.i1,h.st.cell _ h.i2,h.st.cell _ h.i3,h.st.cell _ h.i4⟩
theorem yD (g off:Nat) (t:TypeId) (cs:Array Value) (v:Value) (c:Cp) (i:Int) (w:World) (d:CpB w g off t cs v c):
  Calls Tryz.prog 60 #[.pointer (some ⟨g,off,none⟩),.int .i64 i] w fun e w'=>e=.returned (.tuple #[])/\CpB w' g off t (fj cs off (c.mark i).di (c.mark i).wa) v (c.mark i)/\aw w w' (g::v.ownBlock.toList):=by
 have c1:=BB v c i w d.own.reads;have HE:Hid (c.mark i=if c.has i then{c with di:=cv c.di i}else c):=rfl;obtain⟨m,hm⟩:=Fe (c.mark i)
 rw[<-hm]at HE⊢;obtain⟨b,hb⟩:=Fe (c.has i)
 rw[<-hb]at HE c1;clear hm hb;obtain⟨ao,cap,rfl⟩:=aa d.own.reads;obtain⟨k0,k1,k2,k3,k4⟩:=d.cell;have HD:Hid (CpB w g off t cs (.slice ao c.ts.length cap) c):=d;unfold CpV cpA at c1;clear d;go_enter Tryz.func60,Tryz.ntmps60;go_wp2_with fail
 refine c1.mono ?_;rintro e w1 ⟨rfl,b1⟩;have D1:=HD.out.below b1;have HT:Hid (aw w w1 (g::(Value.slice ao c.ts.length cap).ownBlock.toList)):=aw.below _ b1;clear c1 b1 k0 k1 k2 k3 k4 HD;cases b with
 |false=>
  have HP:Hid (CpB w1 g off t (fj cs off m.di m.wa) (.slice ao c.ts.length cap) m):=by
   have e:m=c:=by rw[HE.out];simp
   rw[e];exact D1.same
  clear D1;go_wp2
  go_end0
  exact⟨rfl,HP.out,HT.out⟩
 |true=>
  obtain⟨P1,T1⟩:=D1.putD (cv c.di i);have HP:Hid (CpB (w1.setCell ⟨g,off+2,none⟩ (.int .i64 (cv c.di i))) g off t (fj cs off m.di m.wa) (.slice ao c.ts.length cap) m/\aw w (w1.setCell ⟨g,off+2,none⟩ (.int .i64 (cv c.di i))) (g::(Value.slice ao c.ts.length cap).ownBlock.toList)):=by
   have e:m={c with di:=cv c.di i}:=by rw[HE.out];simp
   rw[e];exact⟨P1,HT.out.then T1⟩
  obtain⟨-, -,k2, -, -⟩:=D1.cell;have f2:=D1.st.frozen (off+2);have c2:=Ad c.di i w1;clear D1 P1 T1 HT HE;go_wp2_with fail
  refine Fd c2 ?_;clear c2;go_wp2
  go_end0
  exact⟨rfl,HP.out⟩
theorem sb (v:Value) (c:Cp) (k:Int) (w:World) (hr:ag w v c.ts) (h0:0<=k) (h1:k<=1048576):
  Calls Tryz.prog 14 #[CpV v c,.int .i64 k] w fun e w'=>e=.returned (.int .i64 (szI k c.ts.length))/\iO w w':=by
 have B1:iO w (w.alloc (.cells (cpA v c) 30)):=Fc;have c1:=po v c.ts k _ (hr.below B1 (Nat.le_refl _)) h0 h1;have hs:szI k c.ts.length= -1∨0<=szI k c.ts.length:=by unfold szI;split<;>omega
 obtain⟨x,hx⟩:=Fe (szI k c.ts.length)
 rw[<-hx]at c1 hs⊢;obtain⟨ao,cap,rfl⟩:=aa hr;clear hx hr;unfold CpV cpA at*;rcases hs with hs|hs
 ·subst hs
  go_enter Tryz.func14,Tryz.ntmps14;go_wp2_with fail
  refine Fd c1 ?_;go_wp2;go_ret;exact⟨rfl,B1⟩
 ·go_enter Tryz.func14,Tryz.ntmps14
  go_wp2_with fail
  refine Fd c1 ?_;go_wp2;go_ret;exact⟨rfl,B1⟩
theorem sc (v:Value) (c:Cp) (w:World) (hr:ag w v c.ts) (hl:c.ts.length<=1099511627776):
  Calls Tryz.prog 22 #[CpV v c] w fun e w'=>∃u,e=.returned (CpV u c)/\Own w' w.heap.size u c.ts/\iO w w':=by
 obtain⟨w1,hw1⟩:=Fe (((w.alloc (.cells (cpA v c) 30)).alloc (.cells cS 39)).alloc (.cells #[.int .i64 c.tr,.bool c.op,.int .i64 c.di,.int .i64 c.wa,.slice none 0 0] 39))
 have q0:StB w1 (w.heap.size+1) 39 cS:=by
  rw[hw1];have:=(StB.new (w.alloc (.cells (cpA v c) 30)) 39 cS).alloc (.cells #[.int .i64 c.tr,.bool c.op,.int .i64 c.di,.int .i64 c.wa,.slice none 0 0] 39)
  rwa[World.size_alloc]at this
 have r0:StB w1 (w.heap.size+1+1) 39 #[.int .i64 c.tr,.bool c.op,.int .i64 c.di,.int .i64 c.wa,.slice none 0 0]:=by
  rw[hw1];have:=StB.new ((w.alloc (.cells (cpA v c) 30)).alloc (.cells cS 39)) 39 #[.int .i64 c.tr,.bool c.op,.int .i64 c.di,.int .i64 c.wa,.slice none 0 0]
  rwa[World.size_alloc,World.size_alloc]at this
 have b1:iO w w1:=by rw[hw1];exact(Fc.alloc Fg _).alloc (by simp;omega) _
 have c1:=oK v c.ts w1 (hr.below b1 (Nat.le_refl _)) hl;have hs1:=r0.lt;obtain⟨ao,cap,rfl⟩:=aa hr;have HW:Hid (w1=((w.alloc (.cells #[.int .i64 c.tr,.bool c.op,.int .i64 c.di,.int .i64 c.wa,.slice ao c.ts.length cap] 30)).alloc (.cells #[.int .i64 0,.bool false,.int .i64 0,.int .i64 0,.slice none 0 0] 39)).alloc (.cells #[.int .i64 c.tr,.bool c.op,.int .i64 c.di,.int .i64 c.wa,.slice none 0 0] 39)):=hw1;clear hw1 hr hl;unfold CpV;conv in cpA (.slice ao c.ts.length cap) c=>unfold cpA
 go_enter Tryz.func22,Tryz.ntmps22;go_wp2_with fail
 rw[<-HW.out];clear HW;refine c1.mono ?_;rintro e w3 ⟨u,rfl,o3,b3⟩;replace q0:=q0.below b3;replace r0:=r0.below b3;have B3:=b1.trans (b3.mono b1.size);obtain⟨ab,cb,rfl⟩:=aa o3.reads;have m4:w3.cell? ⟨w.heap.size+1+1,4,none⟩=some (.slice none 0 0):=r0.cell 4 rfl;have f4:=r0.frozen 4;have R4:=r0.put 4 (.slice ab c.ts.length cb) (ds:=cpA (.slice ab c.ts.length cb) c) rfl;have Q4:=q0.other ⟨w.heap.size+1+1,4,none⟩ (.slice ab c.ts.length cb) Fg;have HP:Hid (Own (w3.setCell ⟨w.heap.size+1+1,4,none⟩ (.slice ab c.ts.length cb)) w1.heap.size (.slice ab c.ts.length cb) c.ts/\iO w (w3.setCell ⟨w.heap.size+1+1,4,none⟩ (.slice ab c.ts.length cb))):=⟨o3.setLt Ff 4 _,B3.setCell (by simp;omega) _⟩
 clear q0 r0 c1 o3 b3 b1 B3;go_upto_region 7 with fail
 obtain⟨w4,hw4⟩:=Fe (w3.setCell ⟨w.heap.size+1+1,4,none⟩ (.slice ab c.ts.length cb))
 rw[<-hw4]at R4 Q4 HP⊢;clear hw4 m4 f4;go_wp2_with (first|(refine ah GH rfl _ rfl (w.heap.size+1+1) rfl (cpA (.slice ab c.ts.length cb) c) rfl R4 ?_)|(refine ae GH rfl _ _ rfl (w.heap.size+1) (cpA (.slice ab c.ts.length cb) c) cS rfl rfl rfl rfl (lC c rfl) Q4 ?_;intro w8 s8 g8))
 refine bodyPost_ret (aj GH rfl _ _ (w.heap.size+1) _ rfl rfl s8) rfl ?_;exact⟨_,rfl,(HP.out.1.keptLt g8 Ff).mono Ff,HP.out.2.grown g8 HP.out.2.size (fun k e=>by cases e;omega)⟩
theorem sd (u v:Value) (c:Cp) (w:World) (hu:ag w u c.ts) (hv:ag w v c.ts) (hl:c.ts.length<=1099511627776):
  Calls Tryz.prog 33 #[CpV u c,CpV v c] w fun e w'=>e=.returned (.bool true)/\iO w w':=by
 obtain⟨w1,hw1⟩:=Fe ((w.alloc (.cells (cpA u c) 39)).alloc (.cells (cpA v c) 39))
 have HB:Hid (iO w w1):=by rw[hw1];exact Fc.alloc Fg _
 have c1:=oM u v c.ts c.ts w1 (hu.below HB.out (Nat.le_refl _)) (hv.below HB.out (Nat.le_refl _)) hl;rw[show decide (c.ts=c.ts)=true by simp]at c1;obtain⟨ao,ca,rfl⟩:=aa hu;obtain⟨bo,cb,rfl⟩:=aa hv;have HW:Hid (w1=(w.alloc (.cells #[.int .i64 c.tr,.bool c.op,.int .i64 c.di,.int .i64 c.wa,.slice ao c.ts.length ca] 39)).alloc (.cells #[.int .i64 c.tr,.bool c.op,.int .i64 c.di,.int .i64 c.wa,.slice bo c.ts.length cb] 39)):=hw1;clear hw1 hu hv hl;unfold CpV cpA;go_enter Tryz.func33,Tryz.ntmps33;go_wp2_with fail
 rw[<-HW.out];clear HW;refine c1.mono ?_;rintro e w3 ⟨rfl,n3,hw3⟩;have B3:Hid (iO w w3):=by rw[hw3];exact below_drewN HB.out n3
 clear hw3 c1 HB;go_wp2;go_ret;exact⟨rfl,B3.out⟩
theorem oH (v:Value) (c:Cp) (k:Int) (w:World) (base:Nat) (ho:Own w base v c.ts) (hl:c.ts.length<=1048576) (h0:0<=k) (h1:k<=4194304):
  Calls Tryz.prog 37 #[CpV v c,.int .i64 k] w fun e w'=>e=.returned (.int .i64 (k+c.ts.length))/\Own w' base v (aS k c.ts.length)/\w.grownBy w' v.ownBlock:=by
 have B1:iO w (w.alloc (.cells (cpA v c) 39)):=Fc;have G1:w.grownBy (w.alloc (.cells (cpA v c) 39)) v.ownBlock:=World.grownBy_alloc w _ _;have c1:=je v c.ts k _ base (ho.below B1) Ff h0 Ff;obtain⟨ao,cap,rfl⟩:=aa ho.reads;have hl':(c.ts.length:Int)<=1048576:=by omega
 clear ho hl;unfold CpV cpA at*;go_enter Tryz.func37,Tryz.ntmps37;go_wp2_with fail
 refine c1.mono ?_;rintro e w2 ⟨rfl,o2,g2⟩;have HC:Hid (Own w2 base (.slice ao c.ts.length cap) (aS k c.ts.length)/\w.grownBy w2 (Value.slice ao c.ts.length cap).ownBlock):=⟨o2,G1.trans g2⟩
 clear o2 g2 G1 B1 c1;go_wp2;go_ret;exact⟨rfl,HC.out⟩
theorem oI (v:Value) (c:Cp) (n:Nat) (k:Int) (w:World) (hn:n=c.ts.length) (hr:ag w v (aS k n)) (hl:n<=1048576) (h0:0<=k) (h1:k<=4194304):
  Calls Tryz.prog 41 #[CpV v c,.int .i64 k] w fun e w'=>e=.returned (.int .i64 (k+n))/\iO w w':=by
 have B1:iO w (w.alloc (.cells (cpA v c) 39)):=Fc;have c1:=gM v n k _ (hr.below B1 (Nat.le_refl _)) Ff h0 Ff;obtain⟨ao,cap,rfl⟩:=aa hr;have hl':(n:Int)<=1048576:=by omega
 clear hr hl hn;unfold CpV cpA at*;go_enter Tryz.func41,Tryz.ntmps41;go_wp2_with fail
 refine Fd c1 ?_;go_wp2;go_ret;exact⟨rfl,B1⟩
theorem qw (v:Value) (k:Int) (w:World) (h:ag w v []):
  Calls Tryz.prog 81 #[v,.int .i64 k] w fun e w'=>e=.returned (.int .i64 k)/\w'=w:=by
 obtain⟨ao,cap,e⟩:=aa h;simp only[List.length_nil]at e;subst e;clear h;go_enter Tryz.func81,Tryz.ntmps81;go_wp2;go_loop [1,5] (fun q i=>i=.int .i64 0/\q=.int .i64 k) (fun _ _=>0)
 case atStart=>exact⟨rfl,rfl⟩
 case round=>
  obtain⟨rfl,rfl⟩:=hrel;go_wp2;go_ret;exact⟨rfl,rfl⟩
theorem mY (v:Value) (c:Cp) (k:Int) (w:World) (hr:ag w v c.ts) (h0:c.ts=[]):
  Calls Tryz.prog 37 #[CpV v c,.int .i64 k] w fun e w'=>e=.returned (.int .i64 k)/\iO w w':=by
 have B1:iO w (w.alloc (.cells (cpA v c) 39)):=Fc;rw[h0]at hr;have c1:=qw v k (w.alloc (.cells (cpA v c) 39)) (hr.below B1 (Nat.le_refl _));obtain⟨ao,cap,e⟩:=aa hr;simp only[List.length_nil]at e;subst e;clear hr h0;unfold CpV cpA at*;go_enter Tryz.func37,Tryz.ntmps37;go_wp2_with fail
 refine c1.mono ?_;rintro e w2 ⟨rfl,hw⟩;subst w2;clear c1;go_wp2;go_ret;exact⟨rfl,B1⟩
theorem mZ (v:Value) (c:Cp) (k:Int) (w:World) (base:Nat) (ho:bP w base v c.ts) (hl:c.ts.length<=1048576) (h0:0<=k) (h1:k<=4194304):
  Calls Tryz.prog 37 #[CpV v c,.int .i64 k] w fun e w'=>e=.returned (.int .i64 (k+c.ts.length))/\bP w' base v (aS k c.ts.length)/\aw w w' (bn v c.ts):=by
 by_cases hx:c.ts=[]
 ·refine(mY v c k w ho.reads hx).mono ?_
  rintro e w' ⟨rfl,b⟩;rw[hx];refine⟨by simp,?_,aw.of_below b⟩;have hr:=ho.reads;rw[hx]at hr;exact ag.mine hr.later
 ·refine(oH v c k w base (ho.own hx) hl h0 h1).mono ?_
  rintro e w' ⟨rfl,o,g⟩;refine⟨rfl,.inl o,?_⟩;unfold bn;rw[if_neg (fun e=>hx (List.eq_nil_of_length_eq_zero e))];exact aw.of_grown g
theorem wL (v:Value) (c:Sn) (k:Int) (w:World) (hr:ag w v c.ts) (h0:0<=k) (h1:k<=1048576):
  Calls Tryz.prog 15 #[SnV v c,.int .i64 k] w fun e w'=>e=.returned (.int .i64 (szI k c.ts.length))/\iO w w':=by
 have B1:iO w (w.alloc (.cells (snA v c) 32)):=Fc;have c1:=po v c.ts k _ (hr.below B1 (Nat.le_refl _)) h0 h1;have hs:szI k c.ts.length= -1∨0<=szI k c.ts.length:=by unfold szI;split<;>omega
 obtain⟨x,hx⟩:=Fe (szI k c.ts.length)
 rw[<-hx]at c1 hs⊢;obtain⟨ao,cap,rfl⟩:=aa hr;clear hx hr;unfold SnV snA at*;rcases hs with hs|hs
 ·subst hs
  go_enter Tryz.func15,Tryz.ntmps15;go_wp2_with fail
  refine Fd c1 ?_;go_wp2;go_ret;exact⟨rfl,B1⟩
 ·go_enter Tryz.func15,Tryz.ntmps15
  go_wp2_with fail
  refine Fd c1 ?_;go_wp2;go_ret;exact⟨rfl,B1⟩
theorem wM (v:Value) (c:Sn) (w:World) (hr:ag w v c.ts) (hl:c.ts.length<=1099511627776):
  Calls Tryz.prog 23 #[SnV v c] w fun e w'=>∃u,e=.returned (SnV u c)/\Own w' w.heap.size u c.ts/\iO w w':=by
 obtain⟨w1,hw1⟩:=Fe (((w.alloc (.cells (snA v c) 32)).alloc (.cells fw 40)).alloc (.cells #[.int .i64 c.tr,.slice none 0 0] 40))
 have q0:StB w1 (w.heap.size+1) 40 fw:=by
  rw[hw1];have:=(StB.new (w.alloc (.cells (snA v c) 32)) 40 fw).alloc (.cells #[.int .i64 c.tr,.slice none 0 0] 40)
  rwa[World.size_alloc]at this
 have r0:StB w1 (w.heap.size+1+1) 40 #[.int .i64 c.tr,.slice none 0 0]:=by
  rw[hw1];have:=StB.new ((w.alloc (.cells (snA v c) 32)).alloc (.cells fw 40)) 40 #[.int .i64 c.tr,.slice none 0 0]
  rwa[World.size_alloc,World.size_alloc]at this
 have b1:iO w w1:=by rw[hw1];exact(Fc.alloc Fg _).alloc (by simp;omega) _
 have c1:=oK v c.ts w1 (hr.below b1 (Nat.le_refl _)) hl;have hs1:=r0.lt;obtain⟨ao,cap,rfl⟩:=aa hr;have HW:Hid (w1=((w.alloc (.cells #[.int .i64 c.tr,.slice ao c.ts.length cap] 32)).alloc (.cells #[.int .i64 0,.slice none 0 0] 40)).alloc (.cells #[.int .i64 c.tr,.slice none 0 0] 40)):=hw1;clear hw1 hr hl;unfold SnV;conv in snA (.slice ao c.ts.length cap) c=>unfold snA
 go_enter Tryz.func23,Tryz.ntmps23;go_wp2_with fail
 rw[<-HW.out];clear HW;refine c1.mono ?_;rintro e w3 ⟨u,rfl,o3,b3⟩;replace q0:=q0.below b3;replace r0:=r0.below b3;have B3:=b1.trans (b3.mono b1.size);obtain⟨ab,cb,rfl⟩:=aa o3.reads;have m4:w3.cell? ⟨w.heap.size+1+1,1,none⟩=some (.slice none 0 0):=r0.cell 1 rfl;have f4:=r0.frozen 1;have R4:=r0.put 1 (.slice ab c.ts.length cb) (ds:=snA (.slice ab c.ts.length cb) c) rfl;have Q4:=q0.other ⟨w.heap.size+1+1,1,none⟩ (.slice ab c.ts.length cb) Fg;have HP:Hid (Own (w3.setCell ⟨w.heap.size+1+1,1,none⟩ (.slice ab c.ts.length cb)) w1.heap.size (.slice ab c.ts.length cb) c.ts/\iO w (w3.setCell ⟨w.heap.size+1+1,1,none⟩ (.slice ab c.ts.length cb))):=⟨o3.setLt Ff 1 _,B3.setCell (by simp;omega) _⟩
 clear q0 r0 c1 o3 b3 b1 B3;go_upto_region 4 with fail
 obtain⟨w4,hw4⟩:=Fe (w3.setCell ⟨w.heap.size+1+1,1,none⟩ (.slice ab c.ts.length cb))
 rw[<-hw4]at R4 Q4 HP⊢;clear hw4 m4 f4;go_wp2_with (first|(refine ah GS rfl _ rfl (w.heap.size+1+1) rfl (snA (.slice ab c.ts.length cb) c) rfl R4 ?_)|(refine ae GS rfl _ _ rfl (w.heap.size+1) (snA (.slice ab c.ts.length cb) c) fw rfl rfl rfl rfl (sx c rfl) Q4 ?_;intro w8 s8 g8))
 refine bodyPost_ret (aj GS rfl _ _ (w.heap.size+1) _ rfl rfl s8) rfl ?_;exact⟨_,rfl,(HP.out.1.keptLt g8 Ff).mono Ff,HP.out.2.grown g8 HP.out.2.size (fun k e=>by cases e;omega)⟩
theorem wN (u v:Value) (c:Sn) (w:World) (hu:ag w u c.ts) (hv:ag w v c.ts) (hl:c.ts.length<=1099511627776):
  Calls Tryz.prog 34 #[SnV u c,SnV v c] w fun e w'=>e=.returned (.bool true)/\iO w w':=by
 obtain⟨w1,hw1⟩:=Fe ((w.alloc (.cells (snA u c) 40)).alloc (.cells (snA v c) 40))
 have HB:Hid (iO w w1):=by rw[hw1];exact Fc.alloc Fg _
 have c1:=oM u v c.ts c.ts w1 (hu.below HB.out (Nat.le_refl _)) (hv.below HB.out (Nat.le_refl _)) hl;rw[show decide (c.ts=c.ts)=true by simp]at c1;obtain⟨ao,ca,rfl⟩:=aa hu;obtain⟨bo,cb,rfl⟩:=aa hv;have HW:Hid (w1=(w.alloc (.cells #[.int .i64 c.tr,.slice ao c.ts.length ca] 40)).alloc (.cells #[.int .i64 c.tr,.slice bo c.ts.length cb] 40)):=hw1;clear hw1 hu hv hl;unfold SnV snA;go_enter Tryz.func34,Tryz.ntmps34;go_wp2_with fail
 rw[<-HW.out];clear HW;refine c1.mono ?_;rintro e w3 ⟨rfl,n3,hw3⟩;have B3:Hid (iO w w3):=by rw[hw3];exact below_drewN HB.out n3
 clear hw3 c1 HB;go_wp2;go_ret;exact⟨rfl,B3.out⟩
theorem sf (v:Value) (c:Sn) (k:Int) (w:World) (base:Nat) (ho:Own w base v c.ts) (hl:c.ts.length<=1048576) (h0:0<=k) (h1:k<=4194304):
  Calls Tryz.prog 38 #[SnV v c,.int .i64 k] w fun e w'=>e=.returned (.int .i64 (k+c.ts.length))/\Own w' base v (aS k c.ts.length)/\w.grownBy w' v.ownBlock:=by
 have B1:iO w (w.alloc (.cells (snA v c) 40)):=Fc;have G1:w.grownBy (w.alloc (.cells (snA v c) 40)) v.ownBlock:=World.grownBy_alloc w _ _;have c1:=je v c.ts k _ base (ho.below B1) Ff h0 Ff;obtain⟨ao,cap,rfl⟩:=aa ho.reads;have hl':(c.ts.length:Int)<=1048576:=by omega
 clear ho hl;unfold SnV snA at*;go_enter Tryz.func38,Tryz.ntmps38;go_wp2_with fail
 refine c1.mono ?_;rintro e w2 ⟨rfl,o2,g2⟩;have HC:Hid (Own w2 base (.slice ao c.ts.length cap) (aS k c.ts.length)/\w.grownBy w2 (Value.slice ao c.ts.length cap).ownBlock):=⟨o2,G1.trans g2⟩
 clear o2 g2 G1 B1 c1;go_wp2;go_ret;exact⟨rfl,HC.out⟩
theorem sh (v:Value) (c:Sn) (n:Nat) (k:Int) (w:World) (hn:n=c.ts.length) (hr:ag w v (aS k n)) (hl:n<=1048576) (h0:0<=k) (h1:k<=4194304):
  Calls Tryz.prog 42 #[SnV v c,.int .i64 k] w fun e w'=>e=.returned (.int .i64 (k+n))/\iO w w':=by
 have B1:iO w (w.alloc (.cells (snA v c) 40)):=Fc;have c1:=gM v n k _ (hr.below B1 (Nat.le_refl _)) Ff h0 Ff;obtain⟨ao,cap,rfl⟩:=aa hr;have hl':(n:Int)<=1048576:=by omega
 clear hr hl hn;unfold SnV snA at*;go_enter Tryz.func42,Tryz.ntmps42;go_wp2_with fail
 refine Fd c1 ?_;go_wp2;go_ret;exact⟨rfl,B1⟩
theorem pS (v:Value) (c:Sn) (k:Int) (w:World) (hr:ag w v c.ts) (h0:c.ts=[]):
  Calls Tryz.prog 38 #[SnV v c,.int .i64 k] w fun e w'=>e=.returned (.int .i64 k)/\iO w w':=by
 have B1:iO w (w.alloc (.cells (snA v c) 40)):=Fc;rw[h0]at hr;have c1:=qw v k (w.alloc (.cells (snA v c) 40)) (hr.below B1 (Nat.le_refl _));obtain⟨ao,cap,e⟩:=aa hr;simp only[List.length_nil]at e;subst e;clear hr h0;unfold SnV snA at*;go_enter Tryz.func38,Tryz.ntmps38;go_wp2_with fail
 refine c1.mono ?_;rintro e w2 ⟨rfl,hw⟩;subst w2;clear c1;go_wp2;go_ret;exact⟨rfl,B1⟩
theorem pT (v:Value) (c:Sn) (k:Int) (w:World) (base:Nat) (ho:bP w base v c.ts) (hl:c.ts.length<=1048576) (h0:0<=k) (h1:k<=4194304):
  Calls Tryz.prog 38 #[SnV v c,.int .i64 k] w fun e w'=>e=.returned (.int .i64 (k+c.ts.length))/\bP w' base v (aS k c.ts.length)/\aw w w' (bn v c.ts):=by
 by_cases hx:c.ts=[]
 ·refine(pS v c k w ho.reads hx).mono ?_
  rintro e w' ⟨rfl,b⟩;rw[hx];refine⟨by simp,?_,aw.of_below b⟩;have hr:=ho.reads;rw[hx]at hr;exact ag.mine hr.later
 ·refine(sf v c k w base (ho.own hx) hl h0 h1).mono ?_
  rintro e w' ⟨rfl,o,g⟩;refine⟨rfl,.inl o,?_⟩;unfold bn;rw[if_neg (fun e=>hx (List.eq_nil_of_length_eq_zero e))];exact aw.of_grown g
def Dsk (u v:Value) (xs ys:List Int):cW:=⟨u.ownBlock.toList++v.ownBlock.toList,0,fun w=>aV w 0 u v xs ys,fun _ _ e _ h=>⟨h.1.frame (fun b hb=>e b (List.mem_append_left _ hb)),h.2.1.frame (fun b hb=>e b (List.mem_append_right _ hb)),h.2.2⟩⟩
theorem Sta.disk {w wx wy:World} {L:List cW} {u v:Value} {xs ys:List Int} (h:Sta w wx L) (o:aV wy wx.heap.size u v xs ys) (b:iO wx wy):Sta w wy (Dsk u v xs ys::L):=
 h.add b (Dsk u v xs ys) ⟨o.1.mono (Nat.zero_le _),o.2.1.mono (Nat.zero_le _),o.2.2⟩ (fun k hk=>by
  simp only[Dsk,List.mem_append,Option.mem_toList]at hk;rcases hk with hk|hk
  ·exact o.1.lt k hk
  ·exact o.2.1.lt k hk)
theorem iB.turned {w w':World} {u v:Value} (h:iB w w' u v):aw w w' (u.ownBlock.toList++v.ownBlock.toList):=by
 obtain⟨w1,g1,g2⟩:=h;exact(aw.of_grown g1).trans (aw.of_grown g2)
theorem Sta.marked {w wx wy:World} {L:List cW} {u v:Value} {xs ys zs ts:List Int} (h:Sta w wx L) (n:Nat) (e:L[n]?=some (Dsk u v xs ys)) (o:aV wy 0 u v zs ts) (m:iB wx wy u v):Sta w wy (L.set n (Dsk u v zs ts)):=
 h.turn n e m.turned (Dsk u v zs ts) rfl o
theorem Sta.readsU {w wx:World} {L:List cW} {u v:Value} {xs ys:List Int} (h:Sta w wx L) (n:Nat) (e:L[n]?=some (Dsk u v xs ys)):ag wx u xs:=(h.get n e).1.reads
theorem Sta.readsV {w wx:World} {L:List cW} {u v:Value} {xs ys:List Int} (h:Sta w wx L) (n:Nat) (e:L[n]?=some (Dsk u v xs ys)):ag wx v ys:=(h.get n e).2.1.reads
theorem Sta.ones {w wx:World} {L:List cW} {u v:Value} {xs ys:List Int} (h:Sta w wx L) (n:Nat) (e:L[n]?=some (Dsk u v xs ys)):(#[u,v]:Array Value).all (·.oneCell')=true:=sQ (h.readsU n e).one (h.readsV n e).one
theorem rD {i j:List Nat} {u v:Value} (hi:i=u.ownBlock.toList) (hj:j=v.ownBlock.toList) (h:∀b∈i,b∉j):apart u v:=by
 subst hi hj;refine⟨?_,?_⟩
 ·by_cases e:u.ownBlock=none
  ·exact .inl e
  ·refine .inr fun e2=>?_
   obtain⟨g,hg⟩:=Option.ne_none_iff_exists'.1 e;exact h g (by simp[hg]) (by simp[<-e2,hg])
 ·by_cases e:v.ownBlock=none
  ·exact .inl e
  ·refine .inr fun e2=>?_
   obtain⟨g,hg⟩:=Option.ne_none_iff_exists'.1 e;exact h g (by simp[<-e2,hg]) (by simp[hg])
theorem Sta.two {w wx:World} {L:List cW} {u v:Value} {xs ys:List Int} (h:Sta w wx (Lst u xs::Lst v ys::L)):Sta w wx (Dsk u v xs ys::L):=
 h.join (Dsk u v xs ys) rfl ⟨h.get 0 rfl,h.get 1 rfl,rD rfl rfl (h.apart.1 (Lst v ys) Fg)⟩
end Go.Proofs.YthldeiojlllkdaaGreatDoor
