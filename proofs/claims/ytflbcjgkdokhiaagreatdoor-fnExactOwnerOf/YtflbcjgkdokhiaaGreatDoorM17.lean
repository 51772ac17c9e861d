/- The model's hands on a holding of its own, behind a pointer: l9Turn, l9Free, l9Take, l9Register, l9Reserve, l9Release, l9Clear; l8Copy. -/
import Derived.Test.YtflbcjgkdokhiaaGreatDoorM5
import Derived.Test.YtflbcjgkdokhiaaGreatDoorM16
import Derived.Deep.DeepCutAuto
import Derived.Test.YtflbcjgkdokhiaaGreatDoorM15
namespace Go.Proofs.YtflbcjgkdokhiaaGreatDoor
open Go.ChangeShapes Go.WideShapes Go.ChangeAt Go.RowKit
def PQ (w:World) (base g q cap:Nat) (h:Hd):Prop:=
 StB w g 48 (hdA (.slice (some ⟨q,0,none⟩) 4 cap) h)∧Own w base (.slice (some ⟨q,0,none⟩) 4 cap) h.ks∧(g≠q∧base≤g∧base≤q∧h.ks.length=4)
def PB (w:World) (base g:Nat) (h:Hd):Prop:=∃q cap,PQ w base g q cap h
theorem PQ.put {w:World} {base g q cap:Nat} {h:Hd} (d:PQ w base g q cap h) (j:Nat) (x:Int) (f:Hd) (hk:f.ks=h.ks) (e:(hdA (.slice (some ⟨q,0,none⟩) 4 cap) h).setIfInBounds j (.int .i64 x)=hdA (.slice (some ⟨q,0,none⟩) 4 cap) f):
  PQ (w.setCell ⟨g,j,none⟩ (.int .i64 x)) base g q cap f∧Below base w (w.setCell ⟨g,j,none⟩ (.int .i64 x)):=by
 obtain⟨h1,h2,h3⟩:=d
 have G:=grownSet w g j (.int .i64 x)
 refine⟨⟨h1.put j _ e,?_,?_⟩,(Below.refl base w).setCell h3.2.1 _⟩
 ·rw[hk];exact h2.kept G (.inr (by intro e;have:q=g:=Option.some.inj e;omega))
 ·rw[hk];exact h3
theorem PQ.key {w:World} {base g q cap:Nat} {h:Hd} (d:PQ w base g q cap h) (j:Nat) (hj:j<4) (x:Int):
  w.frozen? ⟨q,j,none⟩=false∧w.cell? ⟨q,j,none⟩=some (.int .i64 (h.ks.getD j 0))∧PQ (w.setCell ⟨q,j,none⟩ (.int .i64 x)) base g q cap ⟨h.ks.set j x,h.kd,h.ho,h.tu⟩∧Below base w (w.setCell ⟨q,j,none⟩ (.int .i64 x)):=by
 obtain⟨h1,h2,h3⟩:=d
 obtain⟨f, -,o⟩:=h2.put h3.2.2.2.symm j hj x
 have G:=grownSet w q j (.int .i64 x)
 obtain⟨-, -, -,hc⟩:=reads_cells h2.reads
 obtain⟨b,off,e,hcell⟩:=hc j hj
 simp only[Option.some.injEq,Addr.mk.injEq]at e
 obtain⟨rfl,rfl, -⟩:=e
 rw[Nat.zero_add]at hcell
 refine⟨f,hcell,⟨h1.kept G ?_,o,?_⟩,(Below.refl base w).setCell h3.2.2.1 _⟩
 ·intro e;have:=Option.some.inj e;omega
 ·simpa using h3
theorem PQ.below {w w':World} {base g q cap:Nat} {h:Hd} (d:PQ w base g q cap h) (b:Below w.heap.size w w'):PQ w' base g q cap h:=
 ⟨d.1.below b,d.2.1.below b,d.2.2⟩
theorem PQ.lt {w:World} {base g q cap:Nat} {h:Hd} (d:PQ w base g q cap h):base≤w.heap.size:=by
 have:=d.1.lt;have:=d.2.2.2.1;omega
theorem PB.below {w w':World} {base g:Nat} {h:Hd} (d:PB w base g h) (b:Below w.heap.size w w'):PB w' base g h:=by
 obtain⟨q,cap,d⟩:=d
 exact⟨q,cap,d.below b⟩
theorem PB.lt {w:World} {base g:Nat} {h:Hd} (d:PB w base g h):base≤w.heap.size:=by
 obtain⟨q,cap,d⟩:=d
 exact d.lt
end Go.Proofs.YtflbcjgkdokhiaaGreatDoor
namespace Go.Proofs.YtflbcjgkdokhiaaGreatDoor
open Go.ChangeShapes Go.WideShapes Go.ChangeAt Go.RowKit
def Bx (w wx:World) (v:Value) (h:Hd):Prop:=StB wx w.heap.size 48 (hdA v h)∧StB wx (w.heap.size+1) 48 #[.slice none 0 0,.int .i64 0,.int .i64 0,.int .i64 0]∧Below w.heap.size w wx∧w.heap.size+2≤wx.heap.size∧Reads wx v h.ks
theorem Bx.next {w wx wy:World} {v:Value} {h:Hd} (d:Bx w wx v h) (b:Below wx.heap.size wx wy):Bx w wy v h:=
 ⟨d.1.below b,d.2.1.below b,d.2.2.1.trans (b.mono d.2.2.1.size),Nat.le_trans d.2.2.2.1 b.size,d.2.2.2.2.below b (Nat.le_refl _)⟩
end Go.Proofs.YtflbcjgkdokhiaaGreatDoor
namespace Go.Proofs.YtflbcjgkdokhiaaGreatDoor
open Go.ChangeShapes Go.WideShapes Go.ChangeAt Go.RowKit
def blk (v:Value):List Nat:=v.ownBlock.toList
theorem blk_new {w:World} {B:Nat} {v:Value} {xs:List Int} (h:Own w B v xs):∀x∈blk v,B≤x∧x<w.heap.size:=fun x hx=>h.lt x (by simpa[blk]using hx)
theorem apart_old {u v:Value} {w:World} {B:Nat} {xs:List Int} (hb:∀y∈blk u,y<B) (h:Own w B v xs):apart v u:=by
 have key:∀y,u.ownBlock=some y→v.ownBlock=some y→False:=by
  intro y h1 h2
  have a1:=hb y (by unfold blk;rw[h1];simp)
  have a2:=(h.lt y h2).1
  omega
 constructor
 ·cases hv:v.ownBlock with
  |none=>exact .inl rfl
  |some y=>exact .inr (fun e=>key y e.symm hv)
 ·cases hu:u.ownBlock with
  |none=>exact .inl rfl
  |some y=>exact .inr (fun e=>key y hu e.symm)
theorem pair_more {l:List Value} {v:Value} {w:World} {B:Nat} {xs:List Int} (hl:l.Pairwise apart) (hb:∀x∈l,∀y∈blk x,y<B) (h:Own w B v xs):(v::l).Pairwise apart:=
 List.Pairwise.cons (fun x hx=>apart_old (hb x hx) h) hl
theorem pair_two {a b:Value} (h:apart a b):[b,a].Pairwise apart:=List.Pairwise.cons (fun x hx=>by simp only[List.mem_singleton]at hx;subst hx;exact⟨h.2,h.1⟩) (List.Pairwise.cons (fun x hx=>by cases hx) List.Pairwise.nil)
structure OwnN (w:World) (base:Nat) (a b k q z:Value) (n:Nd):Prop where
 oa:Own w base a n.xs
 ob:Own w base b n.ys
 ok:Own w base k n.h.ks
 oq:Own w base q n.c.ts
 oz:Own w base z n.s.ts
 ap:[z,q,k,b,a].Pairwise apart
theorem OwnN.reads {w:World} {base:Nat} {a b k q z:Value} {n:Nd} (h:OwnN w base a b k q z n):RdN w a b k q z n:=⟨h.oa.reads,h.ob.reads,h.ok.reads,h.oq.reads,h.oz.reads⟩
theorem OwnN.mono {w:World} {base base':Nat} {a b k q z:Value} {n:Nd} (h:OwnN w base a b k q z n) (hb:base'≤base):OwnN w base' a b k q z n:=⟨h.oa.mono hb,h.ob.mono hb,h.ok.mono hb,h.oq.mono hb,h.oz.mono hb,h.ap⟩
theorem OwnN.below {w w':World} {base:Nat} {a b k q z:Value} {n:Nd} (h:OwnN w base a b k q z n) (B:Below w.heap.size w w'):OwnN w' base a b k q z n:=⟨h.oa.below B,h.ob.below B,h.ok.below B,h.oq.below B,h.oz.below B,h.ap⟩
theorem OwnN.keptLt {w w':World} {base g:Nat} {a b k q z:Value} {n:Nd} (h:OwnN w base a b k q z n) (hg:w.grownBy w' (some g)) (hb:g<base):OwnN w' base a b k q z n:=⟨h.oa.keptLt hg hb,h.ob.keptLt hg hb,h.ok.keptLt hg hb,h.oq.keptLt hg hb,h.oz.keptLt hg hb,h.ap⟩
def zeroNd:Array Value:=#[.int .i64 0,.bool false,.slice none 0 0,.slice none 0 0,.slice none 0 0,.int .i64 0,.int .i64 0,.int .i64 0,.string ⟨#[]⟩,.int .i64 0,.int .i64 0,.int .i64 0,.int .i64 0,.int .i64 0,.bool false,.int .i64 0,.int .i64 0,.slice none 0 0,.int .i64 0,.slice none 0 0]
theorem ndA_one {a b k q z:Value} (n:Nd) (ha:a.oneCell'=true) (hb:b.oneCell'=true) (hk:k.oneCell'=true) (hq:q.oneCell'=true) (hz:z.oneCell'=true):(ndA a b k q z n).all (·.oneCell')=true:=by
 unfold ndA
 simp[ha,hb,hk,hq,hz,S,show∀k n,(Value.int k n).oneCell'=true from fun _ _=>rfl,show∀b,(Value.bool b).oneCell'=true from fun _=>rfl,show∀s,(Value.string s).oneCell'=true from fun _=>rfl]
structure NS (w wx:World) (g:Nat) (a b k q z:Value) (n:Nd) (cs:Array Value):Prop where
 p:StB wx w.heap.size 56 (ndA a b k q z n)
 r:StB wx (w.heap.size+1) 56 zeroNd
 o:StB wx g 56 cs
 b:Below w.heap.size w wx
 l:w.heap.size+1<g
theorem NS.below {w wx wy:World} {g:Nat} {a b k q z:Value} {n:Nd} {cs:Array Value} (h:NS w wx g a b k q z n cs) (B:Below wx.heap.size wx wy):NS w wy g a b k q z n cs:=
 ⟨h.p.below B,h.r.below B,h.o.below B,h.b.trans (B.mono h.b.size),h.l⟩
theorem NS.put {w wx:World} {g:Nat} {a b k q z:Value} {n:Nd} {cs ds:Array Value} (h:NS w wx g a b k q z n cs) (j:Nat) (x:Value) (e:cs.setIfInBounds j x=ds):NS w (wx.setCell ⟨g,j,none⟩ x) g a b k q z n ds:=
 ⟨h.p.other _ _ (by have:=h.l;show w.heap.size≠g;omega),h.r.other _ _ (by have:=h.l;show w.heap.size+1≠g;omega),h.o.put j x e,h.b.setCell (by have:=h.l;show w.heap.size≤g;omega) _,h.l⟩
end Go.Proofs.YtflbcjgkdokhiaaGreatDoor
namespace Go.Proofs.YtflbcjgkdokhiaaGreatDoor
open Go.ChangeShapes Go.WideShapes Go.ChangeAt Go.RowKit
theorem apart_iff {u v:Value}:apart u v↔∀x,x∈blk u→x∈blk v→False:=by
 constructor
 ·intro h x h1 h2
  have e1:u.ownBlock=some x:=by simpa[blk]using h1
  have e2:v.ownBlock=some x:=by simpa[blk]using h2
  rcases h.1 with h|h
  ·rw[e1]at h;cases h
  ·exact h (e1.trans e2.symm)
 ·intro h
  constructor
  ·cases hu:u.ownBlock with
   |none=>exact .inl rfl
   |some x=>exact .inr (fun e=>h x (by simp[blk,hu]) (by simp[blk,←e]))
  ·cases hv:v.ownBlock with
   |none=>exact .inl rfl
   |some x=>exact .inr (fun e=>h x (by simp[blk,←e]) (by simp[blk,hv]))
theorem mineOf_sub {v:Value} {xs:List Int} {x:Nat} (h:x∈mineOf v xs):x∈blk v:=by
 unfold mineOf at h
 split at h
 ·cases h
 ·exact h
theorem mineOf_lt {w:World} {B:Nat} {v:Value} {xs:List Int} (h:Mine w B v xs) {x:Nat} (hx:x∈mineOf v xs):B≤x∧x<w.heap.size:=by
 have e:xs≠[]:=fun e=>by rw[e]at hx;simp[mineOf]at hx
 exact blk_new (h.own e) x (mineOf_sub hx)
structure Five (l1 l2 l3 l4 l5:List Nat):Prop where
 h12:∀x,x∈l1→x∈l2→False
 h13:∀x,x∈l1→x∈l3→False
 h14:∀x,x∈l1→x∈l4→False
 h15:∀x,x∈l1→x∈l5→False
 h23:∀x,x∈l2→x∈l3→False
 h24:∀x,x∈l2→x∈l4→False
 h25:∀x,x∈l2→x∈l5→False
 h34:∀x,x∈l3→x∈l4→False
 h35:∀x,x∈l3→x∈l5→False
 h45:∀x,x∈l4→x∈l5→False
structure MineN (w:World) (base:Nat) (a b k q z:Value) (n:Nd):Prop where
 oa:Own w base a n.xs
 ob:Own w base b n.ys
 ok:Own w base k n.h.ks
 oq:Mine w base q n.c.ts
 oz:Mine w base z n.s.ts
 ap:Five (blk a) (blk b) (blk k) (mineOf q n.c.ts) (mineOf z n.s.ts)
def own5 (a b k q z:Value) (n:Nd):List Nat:=blk a++(blk b++(blk k++(mineOf q n.c.ts++mineOf z n.s.ts)))
theorem own5_in {a b k q z:Value} {n:Nd} {x:Nat}:x∈own5 a b k q z n↔x∈blk a∨x∈blk b∨x∈blk k∨x∈mineOf q n.c.ts∨x∈mineOf z n.s.ts:=by
 unfold own5
 simp only[List.mem_append]
theorem OwnN.mine {w:World} {base:Nat} {a b k q z:Value} {n:Nd} (h:OwnN w base a b k q z n):MineN w base a b k q z n:=by
 have p:(apart z q∧apart z k∧apart z b∧apart z a)∧(apart q k∧apart q b∧apart q a)∧(apart k b∧apart k a)∧apart b a:=by
  have:=h.ap
  simpa[List.pairwise_cons]using this
 obtain⟨⟨p1,p2,p3,p4⟩,⟨p5,p6,p7⟩,⟨p8,p9⟩,p0⟩:=p
 simp only[apart_iff]at*
 exact⟨h.oa,h.ob,h.ok,.inl h.oq,.inl h.oz,⟨fun x h1 h2=>p0 x h2 h1,fun x h1 h2=>p9 x h2 h1,fun x h1 h2=>p7 x (mineOf_sub h2) h1,fun x h1 h2=>p4 x (mineOf_sub h2) h1,fun x h1 h2=>p8 x h2 h1,fun x h1 h2=>p6 x (mineOf_sub h2) h1,fun x h1 h2=>p3 x (mineOf_sub h2) h1,fun x h1 h2=>p5 x (mineOf_sub h2) h1,fun x h1 h2=>p2 x (mineOf_sub h2) h1,fun x h1 h2=>p1 x (mineOf_sub h2) (mineOf_sub h1)⟩⟩
theorem MineN.reads {w:World} {base:Nat} {a b k q z:Value} {n:Nd} (h:MineN w base a b k q z n):RdN w a b k q z n:=⟨h.oa.reads,h.ob.reads,h.ok.reads,h.oq.reads,h.oz.reads⟩
theorem MineN.mono {w:World} {base base':Nat} {a b k q z:Value} {n:Nd} (h:MineN w base a b k q z n) (hb:base'≤base):MineN w base' a b k q z n:=⟨h.oa.mono hb,h.ob.mono hb,h.ok.mono hb,h.oq.mono hb,h.oz.mono hb,h.ap⟩
theorem MineN.below {w w':World} {base:Nat} {a b k q z:Value} {n:Nd} (h:MineN w base a b k q z n) (B:Below w.heap.size w w'):MineN w' base a b k q z n:=⟨h.oa.below B,h.ob.below B,h.ok.below B,h.oq.below B,h.oz.below B,h.ap⟩
theorem MineN.keptLt {w w':World} {base g:Nat} {a b k q z:Value} {n:Nd} (h:MineN w base a b k q z n) (hg:w.grownBy w' (some g)) (hb:g<base):MineN w' base a b k q z n:=⟨h.oa.keptLt hg hb,h.ob.keptLt hg hb,h.ok.keptLt hg hb,h.oq.keptLt hg hb,h.oz.keptLt hg hb,h.ap⟩
theorem MineN.lt {w:World} {base:Nat} {a b k q z:Value} {n:Nd} (h:MineN w base a b k q z n) {x:Nat} (hx:x∈own5 a b k q z n):base≤x∧x<w.heap.size:=by
 rcases own5_in.1 hx with hx|hx|hx|hx|hx
 ·exact blk_new h.oa x hx
 ·exact blk_new h.ob x hx
 ·exact blk_new h.ok x hx
 ·exact mineOf_lt h.oq hx
 ·exact mineOf_lt h.oz hx
theorem MineN.nil (w:World) (base:Nat):MineN w base (.slice none 0 0) (.slice none 0 0) (.slice none 0 0) (.slice none 0 0) (.slice none 0 0) Nd.zero:=
 ⟨Own.nil _ _,Own.nil _ _,Own.nil _ _,.inl (Own.nil _ _),.inl (Own.nil _ _),by constructor<;>(intro x h;cases h)⟩
theorem MineN.frame {w w':World} {base:Nat} {a b k q z:Value} {n:Nd} (h:MineN w base a b k q z n) (e:∀x∈own5 a b k q z n,w'.heap[x]?=w.heap[x]?):MineN w' base a b k q z n:=
 ⟨h.oa.frame (fun x hx=>e x (own5_in.2 (.inl hx))),h.ob.frame (fun x hx=>e x (own5_in.2 (.inr (.inl hx)))),h.ok.frame (fun x hx=>e x (own5_in.2 (.inr (.inr (.inl hx))))),h.oq.frame (fun x hx=>e x (own5_in.2 (.inr (.inr (.inr (.inl hx)))))),h.oz.frame (fun x hx=>e x (own5_in.2 (.inr (.inr (.inr (.inr hx)))))),h.ap⟩
def NdI (a b k q z:Value) (n:Nd):Item:=⟨own5 a b k q z n,0,fun w=>MineN w 0 a b k q z n,fun _ _ e _ h=>h.frame e⟩
theorem Sta.house {w wx wy:World} {L:List Item} {a b k q z:Value} {n:Nd} (h:Sta w wx L) (o:MineN wy wx.heap.size a b k q z n) (B:Below wx.heap.size wx wy):Sta w wy (NdI a b k q z n::L):=
 h.add B (NdI a b k q z n) (o.mono (Nat.zero_le _)) (fun x hx=>o.lt hx)
def Nd.len (n:Nd):Nat:=n.xs.length+n.ys.length+n.h.ks.length+n.c.ts.length+n.s.ts.length
end Go.Proofs.YtflbcjgkdokhiaaGreatDoor
namespace Go.Proofs.YtflbcjgkdokhiaaGreatDoor
open Go.ChangeShapes Go.WideShapes Go.ChangeAt Go.RowKit
theorem mine_nil (w:World) (base:Nat):Mine w base (.slice none 0 0) []:=.inl (Own.nil w base)
theorem mineOf_nil (v:Value):mineOf v []=[]:=by simp[mineOf]
def msC (ps:List (Value×Mg)):List (Array Value):=ps.map fun p=>mgA p.1 p.2
def msOf (ps:List (Value×Mg)):List Mg:=ps.map (·.2)
def kcs (ps:List (Value×Mg)):List Nat:=ps.flatMap fun p=>mineOf p.1 p.2.h.ks
theorem msC_len (ps:List (Value×Mg)):(msC ps).length=ps.length:=by simp[msC]
theorem msOf_len (ps:List (Value×Mg)):(msOf ps).length=ps.length:=by simp[msOf]
theorem msC_sz (ps:List (Value×Mg)):∀cs∈msC ps,cs.size=11:=by
 intro cs h
 obtain⟨p,_,rfl⟩:=List.mem_map.1 h
 rfl
structure RdP (w:World) (v:Value) (ps:List (Value×Mg)):Prop where
 row:RdRow w 11 v (msC ps)
 key:∀p∈ps,Reads w p.1 p.2.h.ks
theorem RdP.below {w w':World} {v:Value} {ps:List (Value×Mg)} (h:RdP w v ps) (b:Below w.heap.size w w'):RdP w' v ps:=
 ⟨h.row.below b (Nat.le_refl _),fun p hp=>(h.key p hp).below b (Nat.le_refl _)⟩
theorem RdP.form {w:World} {v:Value} {ps:List (Value×Mg)} (h:RdP w v ps):∃ao cap,v=.slice ao ps.length cap:=by
 obtain⟨ao,cap,e⟩:=h.row.form
 rw[msC_len]at e
 exact⟨ao,cap,e⟩
theorem RdP.el {w:World} {ao:Option Addr} {n cap:Nat} {ps:List (Value×Mg)} (h:RdP w (.slice ao n cap) ps):n=ps.length∧n≤cap∧cap≤maxLen∧
  ∀j,j<n→∃b off u m,ps[j]?=some (u,m)∧ao=some ⟨b,off,none⟩∧Reads w u m.h.ks∧∀i,i<11→w.cell? ⟨b,off+j*11+i,none⟩=(mgA u m)[i]?:=by
 obtain⟨h1,h2,h3,h4⟩:=h.row.el
 rw[msC_len]at h1
 refine⟨h1,h2,h3,fun j hj=>?_⟩
 obtain⟨b,off,e,_,hc⟩:=h4 j hj
 have hp:ps[j]?=some ps[j]:=List.getElem?_eq_getElem (by omega)
 refine⟨b,off,ps[j].1,ps[j].2,hp,e,h.key _ (List.getElem_mem (by omega)),fun i hi=>?_⟩
 rw[Nat.add_assoc,hc i hi]
 simp[msC,List.getD,hp]
def SmP (ps:List (Value×Mg)):Prop:=∀p∈ps,p.2.h.ks.length≤1048576
theorem SmP.at {ps:List (Value×Mg)} (h:SmP ps) {j:Nat} {u:Value} {m:Mg} (e:ps[j]?=some (u,m)):m.h.ks.length≤1048576:=h _ (List.mem_of_getElem? e)
structure OwnP (w:World) (base:Nat) (v:Value) (ps:List (Value×Mg)):Prop where
 row:OwnRow w base 85 11 v (msC ps)
 key:∀p∈ps,Mine w base p.1 p.2.h.ks
 ap:ps.Pairwise fun p q=>∀x∈mineOf p.1 p.2.h.ks,x∉mineOf q.1 q.2.h.ks
theorem OwnP.rd {w:World} {base:Nat} {v:Value} {ps:List (Value×Mg)} (h:OwnP w base v ps):RdP w v ps:=⟨h.row.rd,fun p hp=>(h.key p hp).reads⟩
theorem OwnP.nil (w:World) (base:Nat):OwnP w base (.slice none 0 0) []:=⟨OwnRow.nil _ _ _ _,by simp,List.Pairwise.nil⟩
def psB (v:Value) (ps:List (Value×Mg)):List Nat:=blk v++kcs ps
theorem OwnP.mono {w:World} {base base':Nat} {v:Value} {ps:List (Value×Mg)} (h:OwnP w base v ps) (hb:base'≤base):OwnP w base' v ps:=⟨h.row.mono hb,fun p hp=>(h.key p hp).mono hb,h.ap⟩
theorem kcs_in {ps:List (Value×Mg)} {p:Value×Mg} (hp:p∈ps) {x:Nat} (hx:x∈mineOf p.1 p.2.h.ks):x∈kcs ps:=List.mem_flatMap.2 ⟨p,hp,hx⟩
theorem OwnP.frame {w w':World} {base:Nat} {v:Value} {ps:List (Value×Mg)} (h:OwnP w base v ps) (e:∀x∈psB v ps,w'.heap[x]?=w.heap[x]?):OwnP w' base v ps:=
 ⟨h.row.frame (fun x hx=>e x (List.mem_append_left _ hx)),fun p hp=>(h.key p hp).frame (fun x hx=>e x (List.mem_append_right _ (kcs_in hp hx))),h.ap⟩
theorem OwnP.lt {w:World} {base:Nat} {v:Value} {ps:List (Value×Mg)} (h:OwnP w base v ps):∀x∈psB v ps,base≤x∧x<w.heap.size:=by
 intro x hx
 rcases List.mem_append.1 hx with hx|hx
 ·exact h.row.lt x hx
 ·obtain⟨p,hp,hx⟩:=List.mem_flatMap.1 hx
  exact mineOf_lt (h.key p hp) hx
theorem OwnP.below {w w':World} {base:Nat} {v:Value} {ps:List (Value×Mg)} (h:OwnP w base v ps) (b:Below w.heap.size w w'):OwnP w' base v ps:=h.frame (fun x hx=>b.block x (h.lt x hx).2)
theorem OwnP.drew {w w':World} {base n:Nat} {v:Value} {ps:List (Value×Mg)} (h:OwnP w base v ps) (e:w'=w.drewN n):OwnP w' base v ps:=by subst e;exact h.frame (fun _ _=>rfl)
theorem Mine.besides {w:World} {base B:Nat} {t:TypeId} {k:Nat} {u v:Value} {xs:List Int} {css:List (Array Value)} (h:Mine w base u xs) (r:OwnRow w B t k v css) (ht:t≠2):∀x∈mineOf u xs,x∉blk v:=by
 intro x hx hv
 have hne:xs≠[]:=fun e=>by rw[e]at hx;simp[mineOf]at hx
 have ho:=h.own hne
 have hu:u.ownBlock=some x:=by
  have:=mineOf_sub hx
  simpa[blk]using this
 have hv':v.ownBlock=some x:=by simpa[blk]using hv
 rcases ho.2 with⟨rfl,_⟩|⟨g,cap,cur,rfl,_,hg,_⟩
 ·simp[Value.ownBlock]at hu
 ·rcases r.ow.2 with⟨rfl,_⟩|⟨g',cap',cur',rfl,_,hg',_⟩
  ·simp[Value.ownBlock]at hv'
  ·simp only[Value.ownBlock,Option.some.injEq]at hu hv'
   subst hu
   subst hv'
   rw[hg]at hg'
   simp only[Option.some.injEq,Obj.cells.injEq]at hg'
   exact ht hg'.2.1.symm
theorem Mine.keptRow {w w':World} {base B:Nat} {t:TypeId} {k:Nat} {u v:Value} {xs:List Int} {css:List (Array Value)} (h:Mine w base u xs) (r:OwnRow w B t k v css) (ht:t≠2) (g:w.grownBy w' v.ownBlock):Mine w' base u xs:=
 h.frame (fun x hx=>g.block x (mineOf_lt h hx).2 (fun e=>h.besides r ht x hx (by simp[blk,←e])))
theorem addr_add (b off j:Nat):(⟨b,off,none⟩:Addr).add j=⟨b,off+j,none⟩:=by unfold Addr.add;split<;>simp_all
def PsI (v:Value) (ps:List (Value×Mg)):Item:=⟨psB v ps,0,fun w=>OwnP w 0 v ps,fun _ _ e _ h=>h.frame e⟩
theorem Sta.post {w wx wy:World} {L:List Item} {v:Value} {ps:List (Value×Mg)} (h:Sta w wx L) (o:OwnP wy wx.heap.size v ps) (b:Below wx.heap.size wx wy):Sta w wy (PsI v ps::L):=
 h.add b (PsI v ps) (o.mono (Nat.zero_le _)) o.lt
def postOk (ms:List Mg):Bool:=decide (ms.length≤40)&&ms.all Mg.ok
theorem all_take_ok (ms:List Mg) (j:Nat) (m:Mg) (e:ms[j]?=some m) (h0:(ms.take j).all Mg.ok=true) (hx:m.ok=true):(ms.take (j+1)).all Mg.ok=true:=by
 obtain⟨hj,rfl⟩:=List.getElem?_eq_some_iff.1 e
 rw[List.take_succ_eq_append_getElem hj,List.all_append,h0]
 simp[hx]
theorem all_not_ok (ms:List Mg) (j:Nat) (m:Mg) (e:ms[j]?=some m) (hx:m.ok=false):ms.all Mg.ok=false:=by
 rw[List.all_eq_false]
 exact⟨m,List.mem_of_getElem? e,by simp[hx]⟩
theorem msOf_at {ps:List (Value×Mg)} {j:Nat} {u:Value} {m:Mg} (e:ps[j]?=some (u,m)):(msOf ps)[j]?=some m:=by simp[msOf,e]
theorem len_of {ps qs:List (Value×Mg)} (e:msOf qs=msOf ps):qs.length=ps.length:=by rw[←msOf_len,←msOf_len,e]
theorem smp_of {ps qs:List (Value×Mg)} (e:msOf qs=msOf ps) (h:SmP ps):SmP qs:=by
 intro p hp
 have h1:p.2∈msOf qs:=List.mem_map.2 ⟨p,hp,rfl⟩
 rw[e]at h1
 obtain⟨q,hq,e2⟩:=List.mem_map.1 h1
 rw[←e2]
 exact h q hq
end Go.Proofs.YtflbcjgkdokhiaaGreatDoor
