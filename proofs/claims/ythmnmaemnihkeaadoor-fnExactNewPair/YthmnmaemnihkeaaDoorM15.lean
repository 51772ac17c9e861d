/- The model's hands on a holding of its own, behind a pointer: l9Turn, l9Free, l9Take, l9Register, l9Reserve, l9Release, l9Clear; l8Copy. -/
import Derived.Test.YthmnmaemnihkeaaDoorM4
import Derived.Test.YthmnmaemnihkeaaDoorM14
import Derived.Deep.DeepCutAuto
import Derived.Test.YthmnmaemnihkeaaDoorM13
namespace Go.Proofs.YthmnmaemnihkeaaDoor
open Go.ChangeShapes Go.WideShapes Go.ChangeAt Go.RowKit
def PQ (w:World) (base g q cap:Nat) (h:Hd):Prop:=
 StB w g 36 (hdA (.slice (some ⟨q,0,none⟩) 4 cap) h)∧Own w base (.slice (some ⟨q,0,none⟩) 4 cap) h.ks∧(g≠q∧base≤g∧base≤q∧h.ks.length=4)
def PB (w:World) (base g:Nat) (h:Hd):Prop:=∃q cap,PQ w base g q cap h
theorem PQ.put {w:World} {base g q cap:Nat} {h:Hd} (d:PQ w base g q cap h) (j:Nat) (x:Int) (f:Hd) (hk:f.ks=h.ks) (e:(hdA (.slice (some ⟨q,0,none⟩) 4 cap) h).setIfInBounds j (.int .i64 x)=hdA (.slice (some ⟨q,0,none⟩) 4 cap) f):
  PQ (w.setCell ⟨g,j,none⟩ (.int .i64 x)) base g q cap f∧Below base w (w.setCell ⟨g,j,none⟩ (.int .i64 x)):=by
 obtain⟨h1,h2,h3⟩:=d
 have G:=grownSet w g j (.int .i64 x)
 refine⟨⟨h1.put j _ e,?_,?_⟩,(Below.refl base w).setCell h3.2.1 _⟩
 ·rw[hk];exact h2.kept G (.inr (by intro e;have:q=g:=Option.some.inj e;omega))
 ·rw[hk];exact h3
theorem PQ.key {w:World} {base g q cap:Nat} {h:Hd} (d:PQ w base g q cap h) (j:Nat) (hj:j<4) (x:Int):
  w.frozen? ⟨q,j,none⟩=false∧w.cell? ⟨q,j,none⟩=some (.int .i64 (h.ks.getD j 0))∧PQ (w.setCell ⟨q,j,none⟩ (.int .i64 x)) base g q cap ⟨h.ks.set j x,h.kd,h.ho,h.tu⟩∧Below base w (w.setCell ⟨q,j,none⟩ (.int .i64 x)):=by
 obtain⟨h1,h2,h3⟩:=d
 obtain⟨f, -,o⟩:=h2.put h3.2.2.2.symm j hj x
 have G:=grownSet w q j (.int .i64 x)
 obtain⟨-, -, -,hc⟩:=reads_cells h2.reads
 obtain⟨b,off,e,hcell⟩:=hc j hj
 simp only[Option.some.injEq,Addr.mk.injEq]at e
 obtain⟨rfl,rfl, -⟩:=e
 rw[Nat.zero_add]at hcell
 refine⟨f,hcell,⟨h1.kept G ?_,o,?_⟩,(Below.refl base w).setCell h3.2.2.1 _⟩
 ·intro e;have:=Option.some.inj e;omega
 ·simpa using h3
theorem PQ.below {w w':World} {base g q cap:Nat} {h:Hd} (d:PQ w base g q cap h) (b:Below w.heap.size w w'):PQ w' base g q cap h:=
 ⟨d.1.below b,d.2.1.below b,d.2.2⟩
theorem PQ.lt {w:World} {base g q cap:Nat} {h:Hd} (d:PQ w base g q cap h):base≤w.heap.size:=by
 have:=d.1.lt;have:=d.2.2.2.1;omega
theorem PB.below {w w':World} {base g:Nat} {h:Hd} (d:PB w base g h) (b:Below w.heap.size w w'):PB w' base g h:=by
 obtain⟨q,cap,d⟩:=d
 exact⟨q,cap,d.below b⟩
theorem PB.lt {w:World} {base g:Nat} {h:Hd} (d:PB w base g h):base≤w.heap.size:=by
 obtain⟨q,cap,d⟩:=d
 exact d.lt
end Go.Proofs.YthmnmaemnihkeaaDoor
namespace Go.Proofs.YthmnmaemnihkeaaDoor
open Go.ChangeShapes Go.WideShapes Go.ChangeAt Go.RowKit
def Bx (w wx:World) (v:Value) (h:Hd):Prop:=StB wx w.heap.size 36 (hdA v h)∧StB wx (w.heap.size+1) 36 #[.slice none 0 0,.int .i64 0,.int .i64 0,.int .i64 0]∧Below w.heap.size w wx∧w.heap.size+2≤wx.heap.size∧Reads wx v h.ks
theorem Bx.next {w wx wy:World} {v:Value} {h:Hd} (d:Bx w wx v h) (b:Below wx.heap.size wx wy):Bx w wy v h:=
 ⟨d.1.below b,d.2.1.below b,d.2.2.1.trans (b.mono d.2.2.1.size),Nat.le_trans d.2.2.2.1 b.size,d.2.2.2.2.below b (Nat.le_refl _)⟩
end Go.Proofs.YthmnmaemnihkeaaDoor
namespace Go.Proofs.YthmnmaemnihkeaaDoor
open Go.ChangeShapes Go.WideShapes Go.ChangeAt Go.RowKit
def blk (v:Value):List Nat:=v.ownBlock.toList
theorem blk_new {w:World} {B:Nat} {v:Value} {xs:List Int} (h:Own w B v xs):∀x∈blk v,B≤x∧x<w.heap.size:=fun x hx=>h.lt x (by simpa[blk]using hx)
theorem apart_old {u v:Value} {w:World} {B:Nat} {xs:List Int} (hb:∀y∈blk u,y<B) (h:Own w B v xs):apart v u:=by
 have key:∀y,u.ownBlock=some y→v.ownBlock=some y→False:=by
  intro y h1 h2
  have a1:=hb y (by unfold blk;rw[h1];simp)
  have a2:=(h.lt y h2).1
  omega
 constructor
 ·cases hv:v.ownBlock with
  |none=>exact .inl rfl
  |some y=>exact .inr (fun e=>key y e.symm hv)
 ·cases hu:u.ownBlock with
  |none=>exact .inl rfl
  |some y=>exact .inr (fun e=>key y hu e.symm)
structure OwnN (w:World) (base:Nat) (a b k q z:Value) (n:Nd):Prop where
 oa:Own w base a n.xs
 ob:Own w base b n.ys
 ok:Own w base k n.h.ks
 oq:Own w base q n.c.ts
 oz:Own w base z n.s.ts
 ap:[z,q,k,b,a].Pairwise apart
theorem OwnN.reads {w:World} {base:Nat} {a b k q z:Value} {n:Nd} (h:OwnN w base a b k q z n):RdN w a b k q z n:=⟨h.oa.reads,h.ob.reads,h.ok.reads,h.oq.reads,h.oz.reads⟩
theorem OwnN.mono {w:World} {base base':Nat} {a b k q z:Value} {n:Nd} (h:OwnN w base a b k q z n) (hb:base'≤base):OwnN w base' a b k q z n:=⟨h.oa.mono hb,h.ob.mono hb,h.ok.mono hb,h.oq.mono hb,h.oz.mono hb,h.ap⟩
theorem OwnN.below {w w':World} {base:Nat} {a b k q z:Value} {n:Nd} (h:OwnN w base a b k q z n) (B:Below w.heap.size w w'):OwnN w' base a b k q z n:=⟨h.oa.below B,h.ob.below B,h.ok.below B,h.oq.below B,h.oz.below B,h.ap⟩
theorem OwnN.keptLt {w w':World} {base g:Nat} {a b k q z:Value} {n:Nd} (h:OwnN w base a b k q z n) (hg:w.grownBy w' (some g)) (hb:g<base):OwnN w' base a b k q z n:=⟨h.oa.keptLt hg hb,h.ob.keptLt hg hb,h.ok.keptLt hg hb,h.oq.keptLt hg hb,h.oz.keptLt hg hb,h.ap⟩
def zeroNd:Array Value:=#[.int .i64 0,.bool false,.slice none 0 0,.slice none 0 0,.slice none 0 0,.int .i64 0,.int .i64 0,.int .i64 0,.string ⟨#[]⟩,.int .i64 0,.int .i64 0,.int .i64 0,.int .i64 0,.int .i64 0,.bool false,.int .i64 0,.int .i64 0,.slice none 0 0,.int .i64 0,.slice none 0 0]
theorem zeroNd_one:zeroNd.all (·.oneCell')=true:=by simp[zeroNd,Value.oneCell']
theorem ndA_one {a b k q z:Value} (n:Nd) (ha:a.oneCell'=true) (hb:b.oneCell'=true) (hk:k.oneCell'=true) (hq:q.oneCell'=true) (hz:z.oneCell'=true):(ndA a b k q z n).all (·.oneCell')=true:=by
 unfold ndA
 simp[ha,hb,hk,hq,hz,S,show∀k n,(Value.int k n).oneCell'=true from fun _ _=>rfl,show∀b,(Value.bool b).oneCell'=true from fun _=>rfl,show∀s,(Value.string s).oneCell'=true from fun _=>rfl]
structure NS (w wx:World) (g:Nat) (a b k q z:Value) (n:Nd) (cs:Array Value):Prop where
 p:StB wx w.heap.size 44 (ndA a b k q z n)
 r:StB wx (w.heap.size+1) 44 zeroNd
 o:StB wx g 44 cs
 b:Below w.heap.size w wx
 l:w.heap.size+1<g
theorem NS.below {w wx wy:World} {g:Nat} {a b k q z:Value} {n:Nd} {cs:Array Value} (h:NS w wx g a b k q z n cs) (B:Below wx.heap.size wx wy):NS w wy g a b k q z n cs:=
 ⟨h.p.below B,h.r.below B,h.o.below B,h.b.trans (B.mono h.b.size),h.l⟩
theorem NS.put {w wx:World} {g:Nat} {a b k q z:Value} {n:Nd} {cs ds:Array Value} (h:NS w wx g a b k q z n cs) (j:Nat) (x:Value) (e:cs.setIfInBounds j x=ds):NS w (wx.setCell ⟨g,j,none⟩ x) g a b k q z n ds:=
 ⟨h.p.other _ _ (by have:=h.l;show w.heap.size≠g;omega),h.r.other _ _ (by have:=h.l;show w.heap.size+1≠g;omega),h.o.put j x e,h.b.setCell (by have:=h.l;show w.heap.size≤g;omega) _,h.l⟩
end Go.Proofs.YthmnmaemnihkeaaDoor
