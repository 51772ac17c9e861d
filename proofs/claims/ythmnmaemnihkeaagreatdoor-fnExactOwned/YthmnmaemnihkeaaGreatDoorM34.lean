/- Stores and disks that a call answers, in a region that draws its order. -/
import Derived.Test.YthmnmaemnihkeaaGreatDoorGiv
import Derived.Test.YthmnmaemnihkeaaGreatDoorM33
import Derived.Test.YthmnmaemnihkeaaGreatDoorM14
import Derived.Test.YthmnmaemnihkeaaGreatDoorM25
import Derived.Test.YthmnmaemnihkeaaGreatDoorM10
import Derived.Test.YthmnmaemnihkeaaGreatDoorM16
import Derived.Test.YthmnmaemnihkeaaGreatDoorM15
import Derived.Test.YthmnmaemnihkeaaGreatDoorM29
import Derived.Test.YthmnmaemnihkeaaGreatDoorM23
import Derived.Test.YthmnmaemnihkeaaGreatDoorM7
import Derived.Test.YthmnmaemnihkeaaGreatDoorM8
import Derived.Test.YthmnmaemnihkeaaGreatDoorM11
namespace Go.Proofs.YthmnmaemnihkeaaGreatDoor
open Go.ChangeShapes Go.WideShapes Go.ChangeAt Go.RowKit
def alG (n:Nat) (t:TypeId) (cs:Array Value):GSpec:=⟨fun u=>∃g,u=.pointer (some ⟨g,0,none⟩),fun u x=>∀g,u=.pointer (some ⟨g,0,none⟩)→StB x g t cs∧n≤g⟩
theorem alG_later {n:Nat} {t:TypeId} {cs:Array Value} {u:Value} {x y:World} (hx:(alG n t cs).F u x) (b:Later x y):(alG n t cs).F u y:=fun g e=>⟨(hx g e).1.below b,(hx g e).2⟩
theorem alG_of {P:Program} {n:Nat} {t:TypeId} {cs:Array Value} {w:World} (hn:n≤w.heap.size):givesUpon P Later (alG n t cs).V (alG n t cs).F w (.ok (.value (.pointer (some ⟨w.heap.size,0,none⟩))) (w.alloc (.cells cs t))):=
 ⟨⟨_,rfl⟩,fun g e=>by cases e;exact⟨StB.new _ _ _,hn⟩,(Below.refl _ _).alloc (Nat.le_refl _) _⟩
end Go.Proofs.YthmnmaemnihkeaaGreatDoor
namespace Go.Proofs.YthmnmaemnihkeaaGreatDoor
open Go.ChangeShapes Go.WideShapes Go.ChangeAt Go.RowKit
def CpI (w:World) (g:Nat) (v:Value) (c:Cp):Prop:=StB w g 55 (cpA v c)∧Mine w 0 v c.ts
theorem CpI.below {w w':World} {g:Nat} {v:Value} {c:Cp} (h:CpI w g v c) (b:Below w.heap.size w w'):CpI w' g v c:=⟨h.1.below b,h.2.below b⟩
theorem CpI.reads {w:World} {g:Nat} {v:Value} {c:Cp} (h:CpI w g v c):Reads w v c.ts:=h.2.reads
theorem CpI.new {w:World} {base:Nat} {v:Value} {c:Cp} (h:Mine w base v c.ts):CpI (w.alloc (.cells (cpA v c) 55)) w.heap.size v c:=
 ⟨StB.new w _ _,(h.mono (Nat.zero_le _)).below ((Below.refl _ _).alloc (Nat.le_refl _) _)⟩
theorem CpI.kept {w w':World} {g k:Nat} {v:Value} {c:Cp} {ds:Array Value} (h:CpI w g v c) (hk:StB w k 55 ds) (G:w.grownBy w' (some k)) (hne:g≠k):CpI w' g v c:=
 ⟨h.1.kept G (fun e=>hne (Option.some.inj e)),h.2.putBy hk (by decide) G⟩
theorem CpI.cell {w:World} {g:Nat} {v:Value} {c:Cp} (h:CpI w g v c) (j:Nat) {x:Value} (e:(cpA v c)[j]?=some x):w.cell? ⟨g,j,none⟩=some x:=h.1.cell j e
theorem CpI.at {w:World} {g:Nat} {a:Option Addr} {n cap:Nat} {c:Cp} (h:CpI w g (.slice a n cap) c) (j:Nat) (hj:j<n):∃b off,a=some ⟨b,off,none⟩∧n≤cap∧cap≤maxLen∧w.cell? ⟨b,off+j,none⟩=some (.int .i64 (c.ts.getD j 0)):=by
 obtain⟨-,h1,h2,h3⟩:=reads_cells h.2.reads
 obtain⟨b,off,e,h4⟩:=h3 j hj
 exact⟨b,off,e,h1,h2,h4⟩
end Go.Proofs.YthmnmaemnihkeaaGreatDoor
namespace Go.Proofs.YthmnmaemnihkeaaGreatDoor
open Go.ChangeShapes Go.WideShapes Go.ChangeAt Go.RowKit
theorem wp_region_gs_last {P:Program} {C:World→Prop} {E:Oper→Act→Option GSpec} {R:World→World→Prop} (hC:∀x y,C x→R x y→C y) (hE:∀o a s,E o a=some s→∀u x y,s.F u x→R x y→s.F u y)
  {id:Nat} {Q:Exit→Act→World→Prop} {a:Act} {w:World} {l:List Oper} (hA:∀o a dst v,(∀d,dst=some d→d∉o.looksAt l.toArray)→E o (Act.put a dst v)=E o a) (hm:P.follows .mixedOrders=true) (hB:Region.lexB .any l.toArray=true) (hL:lastOpB l=true) (h1:1≤l.length) (h0:C w.drew)
  (h:GivS P l.toArray C E R (fun a' G=>∀w',Has C G w'→wpOp P l.toArray Q (l.length-1) (fun a'' w''=>Q .normal a'' w'') a' w') l.dropLast a []):(Code.region id l.toArray true).wp P Q a w:=wp_region_giv_last hC hE hA hm hB hL h1 h0 h.out
theorem last_putL {t:TypeId} {n:Nat} (hS:IsS t n) {ops:Array Oper} {i:Nat} {o:Oper} {a:Act} {w:World} {K:Act→World→Prop} {Q:Exit→Act→World→Prop} (hi:ops[i]?=some o) (hgd:o.guard=none) (x y:Operand) (ho:o.op=.store t x y)
  (g:Nat) (cs ds:Array Value) (hx:a.eval x=.pointer (some ⟨g,0,none⟩)) (hy:a.eval y=.agg cs) (hn:cs.size=n) (hd:ds.size=n) (h1:cs.all (·.oneCell')=true) (hr:StB w g t ds)
  (h:∀w',StB w' g t cs→w.grownBy w' (some g)→K (a.put o.dst undef) w'):wpOp Tryz.prog ops Q i K a w:=by
 unfold wpOp
 rw[hi]
 dsimp only
 have hw:Region.wanted o (yielded ops a.tmps)=true:=by simp[Region.wanted,hgd]
 rw[if_pos hw]
 refine .inl ?_
 have:=step_putS (ops:=ops) (Q:=Q) (E:=False) hS hgd x y ho g cs ds hx hy hn hd h1 hr h
 rw[if_pos hw]at this
 exact this
end Go.Proofs.YthmnmaemnihkeaaGreatDoor
namespace Go.Proofs.YthmnmaemnihkeaaGreatDoor
open Go.ChangeShapes Go.WideShapes Go.ChangeAt Go.RowKit
end Go.Proofs.YthmnmaemnihkeaaGreatDoor
namespace Go.Proofs.YthmnmaemnihkeaaGreatDoor
open Go.ChangeShapes Go.WideShapes Go.ChangeAt Go.RowKit
def Sure (P:Program) (o:Oper) (a:Act) (w:World) (K:World→Prop):Prop:=∃w',(execOp a.eval o).run P w=.ok .skip w'∧K w'
theorem Sure.mono {P:Program} {o:Oper} {a:Act} {w:World} {K K':World→Prop} (h:Sure P o a w K) (k:∀w,K w→K' w):Sure P o a w K':=by
 obtain⟨w',e,h⟩:=h
 exact⟨w',e,k _ h⟩
theorem Sure.op {P:Program} {ops:Array Oper} {Q:Exit→Act→World→Prop} {i:Nat} {o:Oper} {a:Act} {w:World} {K:Act→World→Prop} (hi:ops[i]?=some o) (hg:o.guard=none) (hd:o.dst=none) (h:Sure P o a w (K a)):wpOp P ops Q i K a w:=by
 obtain⟨w',e,h⟩:=h
 have hw:Region.wanted o (yielded ops a.tmps)=true:=by simp[Region.wanted,hg]
 unfold wpOp
 rw[hi]
 dsimp only
 rw[if_pos hw]
 refine .inl ?_
 unfold Oper.wp
 rw[e]
 simp only[Oper.upon,hd,Act.put]
 exact h
section
variable {P:Program} {md:Region.Mode} {ops:Array Oper} {C:World→Prop} {E:Oper→Act→Option GSpec} {R:World→World→Prop}
end
end Go.Proofs.YthmnmaemnihkeaaGreatDoor
namespace Go.Proofs.YthmnmaemnihkeaaGreatDoor
open Go.ChangeShapes Go.WideShapes Go.ChangeAt Go.RowKit
def isG (v:Value):GSpec:=⟨fun u=>u=v,fun _ _=>True⟩
theorem isG_of {P:Program} {f:FuncId} {args:Array Value} {w:World} {v:Value} (hc:Calls P f args w fun e w'=>e=.returned v∧Below w.heap.size w w'):Calls P f args w (fun e w''=>∃u,e=.returned u∧(isG v).V u∧(isG v).F u w''∧Later w w''):=hc.mono fun _ _ ⟨he,b⟩=>⟨_,he,rfl,trivial,b⟩
end Go.Proofs.YthmnmaemnihkeaaGreatDoor
namespace Go.Proofs.YthmnmaemnihkeaaGreatDoor
open Go.ChangeShapes Go.WideShapes Go.ChangeAt Go.RowKit
structure NdB (w:World) (g off:Nat) (t:TypeId) (cs:Array Value) (a b k q z:Value) (n:Nd):Prop where
 st:StB w g t cs
 sz:off+20≤cs.size
 el:∀j,j<20→cs[off+j]?=(ndA a b k q z n)[j]?
theorem NdB.below {w w':World} {g off:Nat} {t:TypeId} {cs:Array Value} {a b k q z:Value} {n:Nd} (h:NdB w g off t cs a b k q z n) (B:Below w.heap.size w w'):NdB w' g off t cs a b k q z n:=⟨h.st.below B,h.sz,h.el⟩
theorem NdB.turned {w w':World} {g off:Nat} {t:TypeId} {cs:Array Value} {a b k q z:Value} {n:Nd} {bs:List Nat} (h:NdB w g off t cs a b k q z n) (ht:Turned w w' bs) (hn:g∉bs):NdB w' g off t cs a b k q z n:=⟨h.st.turned ht hn,h.sz,h.el⟩
theorem NdB.cell {w:World} {g off:Nat} {t:TypeId} {cs:Array Value} {a b k q z:Value} {n:Nd} (h:NdB w g off t cs a b k q z n) (j:Nat) (hj:j<20) {x:Value} (e:(ndA a b k q z n)[j]?=some x):w.cell? ⟨g,off+j,none⟩=some x:=h.st.cell (off+j) (by rw[h.el j hj,e])
theorem NdB.put {w:World} {g off:Nat} {t:TypeId} {cs:Array Value} {a b k q z a' b' k' q' z':Value} {n n':Nd} (h:NdB w g off t cs a b k q z n) (j:Nat) (hj:j<20) (x:Value) (e:(ndA a b k q z n).setIfInBounds j x=ndA a' b' k' q' z' n'):
  NdB (w.setCell ⟨g,off+j,none⟩ x) g off t (cs.setIfInBounds (off+j) x) a' b' k' q' z' n':=by
 refine⟨h.st.put (off+j) x rfl,by rw[Array.size_setIfInBounds];exact h.sz,fun i hi=>?_⟩
 rw[←e,Array.getElem?_setIfInBounds,Array.getElem?_setIfInBounds]
 by_cases hij:j=i
 ·subst hij
  have h1:off+j<cs.size:=by have:=h.sz;omega
  have h2:j<(ndA a b k q z n).size:=hj
  simp[h1,h2]
 ·rw[if_neg (by omega),if_neg hij]
  exact h.el i hi
structure Only (cs cs':Array Value) (off:Nat):Prop where
 sz:cs'.size=cs.size
 el:∀i,i<off∨off+20≤i→cs'[i]?=cs[i]?
theorem Only.refl (cs:Array Value) (off:Nat):Only cs cs off:=⟨rfl,fun _ _=>rfl⟩
theorem Only.trans {cs ds es:Array Value} {off:Nat} (h:Only cs ds off) (h':Only ds es off):Only cs es off:=⟨h'.sz.trans h.sz,fun i hi=>(h'.el i hi).trans (h.el i hi)⟩
theorem Only.put (cs:Array Value) (off j:Nat) (hj:j<20) (x:Value):Only cs (cs.setIfInBounds (off+j) x) off:=⟨Array.size_setIfInBounds,fun i hi=>by rw[Array.getElem?_setIfInBounds_ne (by omega)]⟩
def lists5 (a b k q z:Value):List Nat:=(((blk a++blk b)++blk k)++blk q)++blk z
structure Hop (w w':World) (g off:Nat) (cs cs':Array Value) (L L':List Nat):Prop where
 on:Only cs cs' off
 tu:Turned w w' (g::L)
 nw:∀x∈L',x∈L∨w.heap.size≤x
theorem Hop.trans {w w1 w2:World} {g off:Nat} {cs cs1 cs2:Array Value} {L L1 L2:List Nat} (h:Hop w w1 g off cs cs1 L L1) (h':Hop w1 w2 g off cs1 cs2 L1 L2):Hop w w2 g off cs cs2 L L2:=by
 refine⟨h.on.trans h'.on,⟨h'.tu.os.trans h.tu.os,h'.tu.tape.trans h.tu.tape,h'.tu.output.trans h.tu.output,Nat.le_trans h.tu.size h'.tu.size,fun k hk hn=>?_⟩,fun x hx=>?_⟩
 ·rw[h'.tu.block k (Nat.lt_of_lt_of_le hk h.tu.size) (fun e=>?_),h.tu.block k hk hn]
  simp only[List.mem_cons]at e hn
  rcases e with e|e
  ·exact hn (.inl e)
  ·rcases h.nw k e with e|e
   ·exact hn (.inr e)
   ·omega
 ·rcases h'.nw x hx with e|e
  ·exact h.nw x e
  ·exact .inr (Nat.le_trans h.tu.size e)
theorem Hop.below {w w1 w2:World} {g off:Nat} {cs cs1:Array Value} {L L1:List Nat} (h:Hop w w1 g off cs cs1 L L1) (B:Below w1.heap.size w1 w2):Hop w w2 g off cs cs1 L L1:=
 h.trans ⟨Only.refl _ _,Turned.below _ B,fun _ h=>.inl h⟩
structure Hs (w:World) (g off:Nat) (t:TypeId) (cs:Array Value) (a b k q z:Value) (n:Nd):Prop where
 nb:NdB w g off t cs a b k q z n
 ow:OwnN w 0 a b k q z n
 ty:t≠2
theorem Hs.below {w w':World} {g off:Nat} {t:TypeId} {cs:Array Value} {a b k q z:Value} {n:Nd} (h:Hs w g off t cs a b k q z n) (B:Below w.heap.size w w'):Hs w' g off t cs a b k q z n:=⟨h.nb.below B,h.ow.below B,h.ty⟩
theorem OwnN.set {w:World} {base g j:Nat} {t:TypeId} {cs:Array Value} {a b k q z:Value} {n:Nd} (h:OwnN w base a b k q z n) (s:StB w g t cs) (ty:t≠2) (x:Value):OwnN (w.setCell ⟨g,j,none⟩ x) base a b k q z n:=
 ⟨h.oa.putBy s ty (grownSet w g j x),h.ob.putBy s ty (grownSet w g j x),h.ok.putBy s ty (grownSet w g j x),h.oq.putBy s ty (grownSet w g j x),h.oz.putBy s ty (grownSet w g j x),h.ap⟩
end Go.Proofs.YthmnmaemnihkeaaGreatDoor
namespace Go.Proofs.YthmnmaemnihkeaaGreatDoor
open Go.ChangeShapes Go.WideShapes Go.ChangeAt Go.RowKit
theorem pair5 {a b k q z:Value}:[z,q,k,b,a].Pairwise apart↔(apart z q∧apart z k∧apart z b∧apart z a)∧(apart q k∧apart q b∧apart q a)∧(apart k b∧apart k a)∧apart b a:=by
 simp[List.pairwise_cons]
theorem apart_sym {u v:Value} (h:apart u v):apart v u:=⟨h.2,h.1⟩
theorem apart_nil (u:Value) (n c:Nat):apart u (.slice none n c):=⟨by cases h:u.ownBlock with|none=>exact .inl rfl|some x=>exact .inr (by simp[Value.ownBlock]),.inl rfl⟩
theorem OwnN.disk {w w':World} {a b k q z u v:Value} {n n':Nd} (h:OwnN w 0 a b k q z n) (B:Below w.heap.size w w') (o:OwnD w' w.heap.size u v n'.xs n'.ys) (hk:n'.h.ks=n.h.ks) (hq:n'.c.ts=n.c.ts) (hz:n'.s.ts=n.s.ts):OwnN w' 0 u v k q z n':=by
 obtain⟨⟨p1,p2,p3,p4⟩,⟨p5,p6,p7⟩,⟨p8,p9⟩,p0⟩:=pair5.1 h.ap
 have ak:=fun y hy=>(blk_new h.ok y hy).2
 have aq:=fun y hy=>(blk_new h.oq y hy).2
 have az:=fun y hy=>(blk_new h.oz y hy).2
 exact⟨o.1.mono (Nat.zero_le _),o.2.1.mono (Nat.zero_le _),by rw[hk];exact h.ok.below B,by rw[hq];exact h.oq.below B,by rw[hz];exact h.oz.below B,
  pair5.2 ⟨⟨p1,p2,apart_sym (apart_old az o.2.1),apart_sym (apart_old az o.1)⟩,⟨p5,apart_sym (apart_old aq o.2.1),apart_sym (apart_old aq o.1)⟩,⟨apart_sym (apart_old ak o.2.1),apart_sym (apart_old ak o.1)⟩,apart_sym o.2.2⟩⟩
theorem OwnN.drop {w:World} {a b k q z:Value} {n:Nd} (h:OwnN w 0 a b k q z n):OwnN w 0 a b k (.slice none 0 0) z {n with c:=Cp.zero}:=by
 obtain⟨⟨p1,p2,p3,p4⟩,⟨p5,p6,p7⟩,⟨p8,p9⟩,p0⟩:=pair5.1 h.ap
 exact⟨h.oa,h.ob,h.ok,Own.nil _ _,h.oz,pair5.2 ⟨⟨apart_nil _ _ _,p2,p3,p4⟩,⟨apart_sym (apart_nil _ _ _),apart_sym (apart_nil _ _ _),apart_sym (apart_nil _ _ _)⟩,⟨p8,p9⟩,p0⟩⟩
theorem Hs.put {w:World} {g off:Nat} {t:TypeId} {cs:Array Value} {a b k q z a' b' k' q' z':Value} {n n':Nd} (h:Hs w g off t cs a b k q z n) (j:Nat) (hj:j<20) (x:Value) (e:(ndA a b k q z n).setIfInBounds j x=ndA a' b' k' q' z' n') (o:OwnN w 0 a' b' k' q' z' n'):
  Hs (w.setCell ⟨g,off+j,none⟩ x) g off t (cs.setIfInBounds (off+j) x) a' b' k' q' z' n':=⟨h.nb.put j hj x e,o.set h.nb.st h.ty x,h.ty⟩
theorem NdB.as {w:World} {g off:Nat} {t:TypeId} {cs:Array Value} {a b k q z a' b' k' q' z':Value} {n n':Nd} (h:NdB w g off t cs a b k q z n) (e:ndA a b k q z n=ndA a' b' k' q' z' n'):NdB w g off t cs a' b' k' q' z' n':=⟨h.st,h.sz,fun j hj=>by rw[←e];exact h.el j hj⟩
end Go.Proofs.YthmnmaemnihkeaaGreatDoor
namespace Go.Proofs.YthmnmaemnihkeaaGreatDoor
open Go.ChangeShapes Go.WideShapes Go.ChangeAt Go.RowKit
end Go.Proofs.YthmnmaemnihkeaaGreatDoor
namespace Go.Proofs.YthmnmaemnihkeaaGreatDoor
open Go.ChangeShapes Go.WideShapes Go.ChangeAt Go.RowKit
end Go.Proofs.YthmnmaemnihkeaaGreatDoor
namespace Go.Proofs.YthmnmaemnihkeaaGreatDoor
open Go.ChangeShapes Go.WideShapes Go.ChangeAt Go.RowKit
structure FS (w wx:World) (cs:Array Value):Prop where
 p:StB wx w.heap.size 59 cs
 r:StB wx (w.heap.size+1) 59 zeroNd
 b:Below w.heap.size w wx
theorem FS.below {w wx wy:World} {cs:Array Value} (h:FS w wx cs) (B:Below wx.heap.size wx wy):FS w wy cs:=⟨h.p.below B,h.r.below B,h.b.trans (B.mono h.b.size)⟩
theorem FS.put {w wx:World} {cs ds:Array Value} (h:FS w wx cs) (j:Nat) (x:Value) (e:cs.setIfInBounds j x=ds):FS w (wx.setCell ⟨w.heap.size,j,none⟩ x) ds:=
 ⟨h.p.put j x e,h.r.other _ _ (by show w.heap.size+1≠w.heap.size;omega),h.b.setCell (Nat.le_refl _) _⟩
theorem FS.lt {w wx:World} {cs:Array Value} (h:FS w wx cs):w.heap.size+1<wx.heap.size:=h.r.lt
end Go.Proofs.YthmnmaemnihkeaaGreatDoor
namespace Go.Proofs.YthmnmaemnihkeaaGreatDoor
open Go.ChangeShapes Go.WideShapes Go.ChangeAt Go.RowKit
theorem Hop.lists {w w':World} {g off:Nat} {cs:Array Value} {L L':List Nat} (B:Below w.heap.size w w') (h:∀x∈L',x∈L∨w.heap.size≤x):Hop w w' g off cs cs L L':=⟨Only.refl _ _,Turned.below _ B,h⟩
theorem mem5 {a b k q z:Value} {x:Nat}:x∈lists5 a b k q z↔x∈blk a∨x∈blk b∨x∈blk k∨x∈blk q∨x∈blk z:=by
 unfold lists5
 simp only[List.mem_append]
 constructor
 ·rintro((((h|h)|h)|h)|h)
  ·exact .inl h
  ·exact .inr (.inl h)
  ·exact .inr (.inr (.inl h))
  ·exact .inr (.inr (.inr (.inl h)))
  ·exact .inr (.inr (.inr (.inr h)))
 ·rintro(h|h|h|h|h)
  ·exact .inl (.inl (.inl (.inl h)))
  ·exact .inl (.inl (.inl (.inr h)))
  ·exact .inl (.inl (.inr h))
  ·exact .inl (.inr h)
  ·exact .inr h
theorem OwnN.as {w:World} {base:Nat} {a b k q z:Value} {n n':Nd} (h:OwnN w base a b k q z n) (hx:n'.xs=n.xs) (hy:n'.ys=n.ys) (hk:n'.h.ks=n.h.ks) (hq:n'.c.ts=n.c.ts) (hz:n'.s.ts=n.s.ts):OwnN w base a b k q z n':=
 ⟨by rw[hx];exact h.oa,by rw[hy];exact h.ob,by rw[hk];exact h.ok,by rw[hq];exact h.oq,by rw[hz];exact h.oz,h.ap⟩
end Go.Proofs.YthmnmaemnihkeaaGreatDoor
namespace Go.Proofs.YthmnmaemnihkeaaGreatDoor
open Go.ChangeShapes Go.WideShapes Go.ChangeAt Go.RowKit
theorem NdB.whole {w:World} {g:Nat} {t:TypeId} {cs:Array Value} {a b k q z:Value} {n:Nd} (h:NdB w g 0 t cs a b k q z n) (hs:cs.size=20):StB w g t (ndA a b k q z n):=by
 have e:cs=ndA a b k q z n:=by
  apply Array.ext_getElem?
  intro i
  by_cases hi:i<20
  ·have:=h.el i hi
   rwa[Nat.zero_add]at this
  ·rw[Array.getElem?_eq_none (by omega),Array.getElem?_eq_none (by show 20≤i;omega)]
 have:=h.st
 rwa[e]at this
theorem OwnN.up {w:World} {base:Nat} {a b k q z:Value} {n:Nd} (h:OwnN w 0 a b k q z n) (hb:∀x∈lists5 a b k q z,base≤x):OwnN w base a b k q z n:=
 ⟨h.oa.up (fun x e=>hb x (mem5.2 (.inl (by simp[blk,e])))),h.ob.up (fun x e=>hb x (mem5.2 (.inr (.inl (by simp[blk,e]))))),h.ok.up (fun x e=>hb x (mem5.2 (.inr (.inr (.inl (by simp[blk,e])))))),h.oq.up (fun x e=>hb x (mem5.2 (.inr (.inr (.inr (.inl (by simp[blk,e]))))))),h.oz.up (fun x e=>hb x (mem5.2 (.inr (.inr (.inr (.inr (by simp[blk,e]))))))),h.ap⟩
structure CS (w wx:World) (ps:Array Value) (g:Nat) (cs:Array Value) (a b k q z:Value) (n:Nd):Prop where
 f:FS w wx ps
 hs:Hs wx g 0 59 cs a b k q z n
 sz:cs.size=20
 lg:w.heap.size+2≤g
 ll:∀x∈lists5 a b k q z,w.heap.size+2≤x
theorem CS.below {w wx wy:World} {ps:Array Value} {g:Nat} {cs:Array Value} {a b k q z:Value} {n:Nd} (h:CS w wx ps g cs a b k q z n) (B:Below wx.heap.size wx wy):CS w wy ps g cs a b k q z n:=⟨h.f.below B,h.hs.below B,h.sz,h.lg,h.ll⟩
theorem CS.hop {w wx wy:World} {ps:Array Value} {g:Nat} {cs cs':Array Value} {a b k q z a' b' k' q' z':Value} {n n':Nd} (h:CS w wx ps g cs a b k q z n) (H:Hs wy g 0 59 cs' a' b' k' q' z' n') (O:Hop wx wy g 0 cs cs' (lists5 a b k q z) (lists5 a' b' k' q' z')):CS w wy ps g cs' a' b' k' q' z' n':=by
 have hn:∀x∈g::lists5 a b k q z,w.heap.size+2≤x:=fun x hx=>by
  rcases List.mem_cons.1 hx with rfl|hx
  ·exact h.lg
  ·exact h.ll x hx
 have hsz:=h.f.b.size
 refine⟨⟨h.f.p.turned O.tu (fun e=>by have:=hn _ e;omega),h.f.r.turned O.tu (fun e=>by have:=hn _ e;omega),h.f.b.trans (O.tu.belowAt (fun x hx=>by have:=hn x hx;omega) hsz)⟩,H,O.on.sz.trans h.sz,h.lg,fun x hx=>?_⟩
 rcases O.nw x hx with e|e
 ·exact h.ll x e
 ·have:=h.f.lt;omega
theorem CS.whole {w wx:World} {ps:Array Value} {g:Nat} {cs:Array Value} {a b k q z:Value} {n:Nd} (h:CS w wx ps g cs a b k q z n):StB wx g 59 (ndA a b k q z n):=h.hs.nb.whole h.sz
theorem CS.own {w wx:World} {ps:Array Value} {g:Nat} {cs:Array Value} {a b k q z:Value} {n:Nd} (h:CS w wx ps g cs a b k q z n):OwnN wx (w.heap.size+2) a b k q z n:=h.hs.ow.up h.ll
theorem OwnN.one {w:World} {base:Nat} {a b k q z:Value} {n:Nd} (h:OwnN w base a b k q z n):(ndA a b k q z n).all (·.oneCell')=true:=ndA_one n (reads_one h.oa.reads) (reads_one h.ob.reads) (reads_one h.ok.reads) (reads_one h.oq.reads) (reads_one h.oz.reads)
end Go.Proofs.YthmnmaemnihkeaaGreatDoor
namespace Go.Proofs.YthmnmaemnihkeaaGreatDoor
open Go.ChangeShapes Go.WideShapes Go.ChangeAt Go.RowKit
theorem OwnN.nil (w:World) (base:Nat):OwnN w base (.slice none 0 0) (.slice none 0 0) (.slice none 0 0) (.slice none 0 0) (.slice none 0 0) Nd.zero:=
 ⟨Own.nil _ _,Own.nil _ _,Own.nil _ _,Own.nil _ _,Own.nil _ _,pair5.2 ⟨⟨apart_nil _ _ _,apart_nil _ _ _,apart_nil _ _ _,apart_nil _ _ _⟩,⟨apart_nil _ _ _,apart_nil _ _ _,apart_nil _ _ _⟩,⟨apart_nil _ _ _,apart_nil _ _ _⟩,apart_nil _ _ _⟩⟩
end Go.Proofs.YthmnmaemnihkeaaGreatDoor
