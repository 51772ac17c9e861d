/- Houses by the model: l15Down. -/
import Derived.Test.YthmnmaemnihkeaaDoorM31
import Derived.Test.YthmnmaemnihkeaaDoorM7
import Derived.Test.YthmnmaemnihkeaaDoorM30
import Derived.Test.YthmnmaemnihkeaaDoorM29
namespace Go.Proofs.YthmnmaemnihkeaaDoor
open Go.ChangeShapes Go.WideShapes Go.ChangeAt Go.RowKit
theorem pair5 {a b k q z:Value}:[z,q,k,b,a].Pairwise apart↔(apart z q∧apart z k∧apart z b∧apart z a)∧(apart q k∧apart q b∧apart q a)∧(apart k b∧apart k a)∧apart b a:=by
 simp[List.pairwise_cons]
theorem apart_sym {u v:Value} (h:apart u v):apart v u:=⟨h.2,h.1⟩
theorem apart_nil (u:Value) (n c:Nat):apart u (.slice none n c):=⟨by cases h:u.ownBlock with|none=>exact .inl rfl|some x=>exact .inr (by simp[Value.ownBlock]),.inl rfl⟩
theorem OwnN.disk {w w':World} {a b k q z u v:Value} {n n':Nd} (h:OwnN w 0 a b k q z n) (B:Below w.heap.size w w') (o:OwnD w' w.heap.size u v n'.xs n'.ys) (hk:n'.h.ks=n.h.ks) (hq:n'.c.ts=n.c.ts) (hz:n'.s.ts=n.s.ts):OwnN w' 0 u v k q z n':=by
 obtain⟨⟨p1,p2,p3,p4⟩,⟨p5,p6,p7⟩,⟨p8,p9⟩,p0⟩:=pair5.1 h.ap
 have ak:=fun y hy=>(blk_new h.ok y hy).2
 have aq:=fun y hy=>(blk_new h.oq y hy).2
 have az:=fun y hy=>(blk_new h.oz y hy).2
 exact⟨o.1.mono (Nat.zero_le _),o.2.1.mono (Nat.zero_le _),by rw[hk];exact h.ok.below B,by rw[hq];exact h.oq.below B,by rw[hz];exact h.oz.below B,
  pair5.2 ⟨⟨p1,p2,apart_sym (apart_old az o.2.1),apart_sym (apart_old az o.1)⟩,⟨p5,apart_sym (apart_old aq o.2.1),apart_sym (apart_old aq o.1)⟩,⟨apart_sym (apart_old ak o.2.1),apart_sym (apart_old ak o.1)⟩,apart_sym o.2.2⟩⟩
theorem OwnN.drop {w:World} {a b k q z:Value} {n:Nd} (h:OwnN w 0 a b k q z n):OwnN w 0 a b k (.slice none 0 0) z {n with c:=Cp.zero}:=by
 obtain⟨⟨p1,p2,p3,p4⟩,⟨p5,p6,p7⟩,⟨p8,p9⟩,p0⟩:=pair5.1 h.ap
 exact⟨h.oa,h.ob,h.ok,Own.nil _ _,h.oz,pair5.2 ⟨⟨apart_nil _ _ _,p2,p3,p4⟩,⟨apart_sym (apart_nil _ _ _),apart_sym (apart_nil _ _ _),apart_sym (apart_nil _ _ _)⟩,⟨p8,p9⟩,p0⟩⟩
theorem Hs.put {w:World} {g off:Nat} {t:TypeId} {cs:Array Value} {a b k q z a' b' k' q' z':Value} {n n':Nd} (h:Hs w g off t cs a b k q z n) (j:Nat) (hj:j<20) (x:Value) (e:(ndA a b k q z n).setIfInBounds j x=ndA a' b' k' q' z' n') (o:OwnN w 0 a' b' k' q' z' n'):
  Hs (w.setCell ⟨g,off+j,none⟩ x) g off t (cs.setIfInBounds (off+j) x) a' b' k' q' z' n':=⟨h.nb.put j hj x e,o.set h.nb.st h.ty x,h.ty⟩
theorem NdB.as {w:World} {g off:Nat} {t:TypeId} {cs:Array Value} {a b k q z a' b' k' q' z':Value} {n n':Nd} (h:NdB w g off t cs a b k q z n) (e:ndA a b k q z n=ndA a' b' k' q' z' n'):NdB w g off t cs a' b' k' q' z' n':=⟨h.st,h.sz,fun j hj=>by rw[←e];exact h.el j hj⟩
end Go.Proofs.YthmnmaemnihkeaaDoor
namespace Go.Proofs.YthmnmaemnihkeaaDoor
open Go.ChangeShapes Go.WideShapes Go.ChangeAt Go.RowKit
end Go.Proofs.YthmnmaemnihkeaaDoor
namespace Go.Proofs.YthmnmaemnihkeaaDoor
open Go.ChangeShapes Go.WideShapes Go.ChangeAt Go.RowKit
theorem Hop.lists {w w':World} {g off:Nat} {cs:Array Value} {L L':List Nat} (B:Below w.heap.size w w') (h:∀x∈L',x∈L∨w.heap.size≤x):Hop w w' g off cs cs L L':=⟨Only.refl _ _,Turned.below _ B,h⟩
theorem mem5 {a b k q z:Value} {x:Nat}:x∈lists5 a b k q z↔x∈blk a∨x∈blk b∨x∈blk k∨x∈blk q∨x∈blk z:=by
 unfold lists5
 simp only[List.mem_append]
 constructor
 ·rintro((((h|h)|h)|h)|h)
  ·exact .inl h
  ·exact .inr (.inl h)
  ·exact .inr (.inr (.inl h))
  ·exact .inr (.inr (.inr (.inl h)))
  ·exact .inr (.inr (.inr (.inr h)))
 ·rintro(h|h|h|h|h)
  ·exact .inl (.inl (.inl (.inl h)))
  ·exact .inl (.inl (.inl (.inr h)))
  ·exact .inl (.inl (.inr h))
  ·exact .inl (.inr h)
  ·exact .inr h
theorem OwnN.as {w:World} {base:Nat} {a b k q z:Value} {n n':Nd} (h:OwnN w base a b k q z n) (hx:n'.xs=n.xs) (hy:n'.ys=n.ys) (hk:n'.h.ks=n.h.ks) (hq:n'.c.ts=n.c.ts) (hz:n'.s.ts=n.s.ts):OwnN w base a b k q z n':=
 ⟨by rw[hx];exact h.oa,by rw[hy];exact h.ob,by rw[hk];exact h.ok,by rw[hq];exact h.oq,by rw[hz];exact h.oz,h.ap⟩
end Go.Proofs.YthmnmaemnihkeaaDoor
namespace Go.Proofs.YthmnmaemnihkeaaDoor
open Go.ChangeShapes Go.WideShapes Go.ChangeAt Go.RowKit
theorem NdB.whole {w:World} {g:Nat} {t:TypeId} {cs:Array Value} {a b k q z:Value} {n:Nd} (h:NdB w g 0 t cs a b k q z n) (hs:cs.size=20):StB w g t (ndA a b k q z n):=by
 have e:cs=ndA a b k q z n:=by
  apply Array.ext_getElem?
  intro i
  by_cases hi:i<20
  ·have:=h.el i hi
   rwa[Nat.zero_add]at this
  ·rw[Array.getElem?_eq_none (by omega),Array.getElem?_eq_none (by show 20≤i;omega)]
 have:=h.st
 rwa[e]at this
theorem OwnN.up {w:World} {base:Nat} {a b k q z:Value} {n:Nd} (h:OwnN w 0 a b k q z n) (hb:∀x∈lists5 a b k q z,base≤x):OwnN w base a b k q z n:=
 ⟨h.oa.up (fun x e=>hb x (mem5.2 (.inl (by simp[blk,e])))),h.ob.up (fun x e=>hb x (mem5.2 (.inr (.inl (by simp[blk,e]))))),h.ok.up (fun x e=>hb x (mem5.2 (.inr (.inr (.inl (by simp[blk,e])))))),h.oq.up (fun x e=>hb x (mem5.2 (.inr (.inr (.inr (.inl (by simp[blk,e]))))))),h.oz.up (fun x e=>hb x (mem5.2 (.inr (.inr (.inr (.inr (by simp[blk,e]))))))),h.ap⟩
structure CS (w wx:World) (ps:Array Value) (g:Nat) (cs:Array Value) (a b k q z:Value) (n:Nd):Prop where
 f:FS w wx ps
 hs:Hs wx g 0 44 cs a b k q z n
 sz:cs.size=20
 lg:w.heap.size+2≤g
 ll:∀x∈lists5 a b k q z,w.heap.size+2≤x
theorem CS.below {w wx wy:World} {ps:Array Value} {g:Nat} {cs:Array Value} {a b k q z:Value} {n:Nd} (h:CS w wx ps g cs a b k q z n) (B:Below wx.heap.size wx wy):CS w wy ps g cs a b k q z n:=⟨h.f.below B,h.hs.below B,h.sz,h.lg,h.ll⟩
theorem CS.hop {w wx wy:World} {ps:Array Value} {g:Nat} {cs cs':Array Value} {a b k q z a' b' k' q' z':Value} {n n':Nd} (h:CS w wx ps g cs a b k q z n) (H:Hs wy g 0 44 cs' a' b' k' q' z' n') (O:Hop wx wy g 0 cs cs' (lists5 a b k q z) (lists5 a' b' k' q' z')):CS w wy ps g cs' a' b' k' q' z' n':=by
 have hn:∀x∈g::lists5 a b k q z,w.heap.size+2≤x:=fun x hx=>by
  rcases List.mem_cons.1 hx with rfl|hx
  ·exact h.lg
  ·exact h.ll x hx
 have hsz:=h.f.b.size
 refine⟨⟨h.f.p.turned O.tu (fun e=>by have:=hn _ e;omega),h.f.r.turned O.tu (fun e=>by have:=hn _ e;omega),h.f.b.trans (O.tu.belowAt (fun x hx=>by have:=hn x hx;omega) hsz)⟩,H,O.on.sz.trans h.sz,h.lg,fun x hx=>?_⟩
 rcases O.nw x hx with e|e
 ·exact h.ll x e
 ·have:=h.f.lt;omega
theorem CS.whole {w wx:World} {ps:Array Value} {g:Nat} {cs:Array Value} {a b k q z:Value} {n:Nd} (h:CS w wx ps g cs a b k q z n):StB wx g 44 (ndA a b k q z n):=h.hs.nb.whole h.sz
theorem CS.own {w wx:World} {ps:Array Value} {g:Nat} {cs:Array Value} {a b k q z:Value} {n:Nd} (h:CS w wx ps g cs a b k q z n):OwnN wx (w.heap.size+2) a b k q z n:=h.hs.ow.up h.ll
theorem OwnN.one {w:World} {base:Nat} {a b k q z:Value} {n:Nd} (h:OwnN w base a b k q z n):(ndA a b k q z n).all (·.oneCell')=true:=ndA_one n (reads_one h.oa.reads) (reads_one h.ob.reads) (reads_one h.ok.reads) (reads_one h.oq.reads) (reads_one h.oz.reads)
end Go.Proofs.YthmnmaemnihkeaaDoor
namespace Go.Proofs.YthmnmaemnihkeaaDoor
open Go.ChangeShapes Go.WideShapes Go.ChangeAt Go.RowKit
theorem OwnN.nil (w:World) (base:Nat):OwnN w base (.slice none 0 0) (.slice none 0 0) (.slice none 0 0) (.slice none 0 0) (.slice none 0 0) Nd.zero:=
 ⟨Own.nil _ _,Own.nil _ _,Own.nil _ _,Own.nil _ _,Own.nil _ _,pair5.2 ⟨⟨apart_nil _ _ _,apart_nil _ _ _,apart_nil _ _ _,apart_nil _ _ _⟩,⟨apart_nil _ _ _,apart_nil _ _ _,apart_nil _ _ _⟩,⟨apart_nil _ _ _,apart_nil _ _ _⟩,apart_nil _ _ _⟩⟩
end Go.Proofs.YthmnmaemnihkeaaDoor
