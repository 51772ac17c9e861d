/- What Noted of the model and of the program answer. -/
import Derived.Test.YthmnmaemnihkeaaDoorIShow
import Derived.Test.YthmnmaemnihkeaaDoorM10
import Derived.Test.YthmnmaemnihkeaaDoorM26
import Derived.Test.YthmnmaemnihkeaaDoorM15
import Derived.Test.YthmnmaemnihkeaaDoorM22
import Derived.Test.YthmnmaemnihkeaaDoorM14
set_option maxRecDepth 20000
set_option maxHeartbeats 2000000
namespace Go.Proofs.YthmnmaemnihkeaaDoor
open Go.ChangeShapes Go.WideShapes Go.ChangeAt Go.RowKit
theorem fit_of_ok {r:Rc} (h:r.ok=true):r.Fit:=by
 have:=(Rc.ok_iff r).1 h
 unfold Rc.Fit
 omega
theorem note_not {log:Bs} {r:Rc} (h:r.ok=false∨40000<log.length+(framed (showR r)).length):noteY log r=false∧noteS log r=log:=by
 have:noteY log r=false:=by
  unfold noteY
  rcases h with h|h
  ·simp[h]
  ·have:¬log.length+(framed (showR r)).length≤40000:=by omega
   simp[this]
 exact⟨this,by simp[noteS,this]⟩
theorem note_yes {log:Bs} {r:Rc} (h:r.ok=true) (h2:log.length+(framed (showR r)).length≤40000):noteY log r=true∧noteS log r=log++framed (showR r):=by
 have:noteY log r=true:=by simp[noteY,h,h2]
 exact⟨this,by simp[noteS,this]⟩
theorem snoted_any (log:Bs) (r:Rc) (w:World) (hl:log.length≤1048576):
  Calls Tryd.prog 23 #[S log,RV r] w fun e w'=>e=.returned (.tuple #[S (noteS log r),.bool (noteY log r)])∧Below w.heap.size w w':=by
 have hsz:(⟨log.toArray⟩:ByteArray).size=log.length:=rfl
 have c1:=fun wx=>srecok_any r wx
 have R0:=RecB.new w 38 r
 have B0:Below w.heap.size w (w.alloc (.cells (recA r) 38)):=(Below.refl _ _).alloc (Nat.le_refl _) _
 by_cases hok:r.ok=true
 ·have c2:=fun wx=>s5show_any r wx (fit_of_ok hok)
  have hpl:=plain_show r hok
  have c3:=fun wx=>sl4Framed_any (showR r) wx (by omega)
  have hfl:=framed_show_len r hok
  have HN:Hid (40000<log.length+(framed (showR r)).length→noteY log r=false∧noteS log r=log):=fun h=>note_not (.inr h)
  have HY:Hid (log.length+(framed (showR r)).length≤40000→noteY log r=true∧noteS log r=log++framed (showR r)):=fun h=>note_yes hok h
  simp only[hok]at c1
  obtain⟨t,ht⟩:∃t,t=showR r:=⟨_,rfl⟩
  obtain⟨f,hf⟩:∃f,f=framed (showR r):=⟨_,rfl⟩
  rw[←hf]at hfl HN HY
  simp only[←hf]at c3
  simp only[←ht]at c2 c3
  have hfz:(⟨f.toArray⟩:ByteArray).size=f.length:=rfl
  have hap:=app log f
  clear ht hf hok hpl
  unfold RV S at*
  go_enter Tryd.func23,Tryd.ntmps23
  go_wp2_with (refine wpList_getR rfl _ rfl w.heap.size rfl r R0 ?_;unfold RV)
  refine(c1 _).mono ?_
  rintro e w1 ⟨rfl,b1⟩
  have R1:=R0.below b1
  have B1:=B0.trans (b1.mono B0.size)
  clear b1 R0 B0 c1
  go_wp2_with (refine wpList_getR rfl _ rfl w.heap.size rfl r R1 ?_;unfold RV)
  refine(c2 _).mono ?_
  rintro e w2 ⟨rfl,b2⟩
  have B2:=B1.trans (b2.mono B1.size)
  clear b2 R1 B1 c2
  go_wp2_with fail
  refine(c3 _).mono ?_
  rintro e w3 ⟨rfl,b3⟩
  have B3:=B2.trans (b3.mono B2.size)
  clear b3 B2 c3
  by_cases hc:40000<(log.length:Int)+(f.length:Int)
  ·have HE:=HN.out (by omega)
   go_wp2_with fail
   go_ret2
   rw[HE.1,HE.2]
   exact⟨rfl,B3⟩
  ·have HE:=HY.out (by omega)
   go_wp2_with fail
   go_ret2
   rw[HE.1,HE.2]
   exact⟨by simp,B3⟩
 ·have hok':r.ok=false:=by simpa using hok
  have HN:Hid (noteY log r=false∧noteS log r=log):=note_not (.inl hok')
  simp only[hok']at c1
  clear hok hok'
  unfold RV S at*
  go_enter Tryd.func23,Tryd.ntmps23
  go_wp2_with (refine wpList_getR rfl _ rfl w.heap.size rfl r R0 ?_;unfold RV)
  refine(c1 _).mono ?_
  rintro e w1 ⟨rfl,b1⟩
  have B1:=B0.trans (b1.mono B0.size)
  clear b1 R0 B0 c1
  go_wp2_with fail
  go_ret2
  rw[HN.out.1,HN.out.2]
  exact⟨rfl,B1⟩
theorem inoted_any (log:Bs) (r:Rc) (w:World) (hl:log.length≤1048576) (ht:Tab w):
  Calls Tryd.prog 26 #[S log,RV r] w fun e w'=>e=.returned (.tuple #[S (noteS log r),.bool (noteY log r)])∧Below w.heap.size w w':=by
 have hsz:(⟨log.toArray⟩:ByteArray).size=log.length:=rfl
 have c0:=fun wx h=>ishow_any r wx h
 have c1:=fun wx=>irecok_any r wx
 have c4:=fun wx=>iclone_any log wx hl
 have R0:=RecB.new w 38 r
 have B0:Below w.heap.size w (w.alloc (.cells (recA r) 38)):=(Below.refl _ _).alloc (Nat.le_refl _) _
 have HT:Hid (Tab w):=ht
 clear ht
 have hsl:(showS r).length≤40:=by
  unfold showS
  split
  ·rename_i h;exact(plain_show r h).2
  ·simp
 have c2:=fun wx h=>iframed_any (showS r) wx (by omega) h
 have hfl:(framedS (showS r)).length≤400:=by
  unfold framedS
  split
  ·have h1:=dec_len 2 (showS r).length (by omega)
   have h2:=dec_len 5 (chk (showS r)).toNat (by have:=chk_bd (showS r);omega)
   simp[framed];omega
  ·simp
 have HF:Hid (r.ok=true→framedS (showS r)=framed (showR r)):=fun h=>by
  rw[show showS r=showR r by simp[showS,h],framedS_yes (plain_show r h).1]
 have HN:Hid (r.ok=false∨40000<log.length+(framed (showR r)).length→noteY log r=false∧noteS log r=log):=note_not
 have HY:Hid (r.ok=true→log.length+(framed (showR r)).length≤40000→noteY log r=true∧noteS log r=log++framed (showR r)):=note_yes
 obtain⟨t,hte⟩:∃t,t=showS r:=⟨_,rfl⟩
 obtain⟨f,hf⟩:∃f,f=framedS (showS r):=⟨_,rfl⟩
 obtain⟨b,hb⟩:∃b,b=r.ok:=⟨_,rfl⟩
 rw[←hf]at hfl HF
 simp only[←hf]at c2
 simp only[←hte]at c0 c2
 rw[←hb]at HF HN HY
 simp only[←hb]at c1
 have hfz:(⟨f.toArray⟩:ByteArray).size=f.length:=rfl
 have hap:=app log f
 clear hte hf hb hsl
 unfold RV S at*
 go_enter Tryd.func26,Tryd.ntmps26
 go_wp2_with (refine wpList_getR rfl _ rfl w.heap.size rfl r R0 ?_;unfold RV)
 refine(c0 _ (HT.out.below B0)).mono ?_
 rintro e w1 ⟨rfl,b1⟩
 have R1:=R0.below b1
 have B1:=B0.trans (b1.mono B0.size)
 clear b1 R0 B0 c0
 go_wp2_with fail
 refine(c2 _ (HT.out.below B1)).mono ?_
 rintro e w2 ⟨rfl,b2⟩
 have R2:=R1.below b2
 have B2:=B1.trans (b2.mono B1.size)
 clear b2 R1 B1 c2
 go_wp2_with (refine wpList_getR rfl _ rfl w.heap.size rfl r R2 ?_;unfold RV)
 refine(c1 _).mono ?_
 rintro e w3 ⟨rfl,b3⟩
 have B3:=B2.trans (b3.mono B2.size)
 clear b3 B2 R2 c1
 cases b with
 |false=>
  have HE:=HN.out (.inl rfl)
  clear HN HY HF
  go_wp2_with fail
  refine(c4 _).mono ?_
  rintro e w4 ⟨rfl,b4⟩
  have B4:=B3.trans (b4.mono B3.size)
  clear b4 B3 c4
  go_wp2_with fail
  go_ret2
  rw[HE.1,HE.2]
  exact⟨rfl,B4⟩
 |true=>
  have hfe:=HF.out rfl
  by_cases hc:40000<(log.length:Int)+(f.length:Int)
  ·have HE:=HN.out (.inr (by rw[←hfe];omega))
   clear HN HY HF hfe
   go_wp2_with fail
   refine(c4 _).mono ?_
   rintro e w4 ⟨rfl,b4⟩
   have B4:=B3.trans (b4.mono B3.size)
   clear b4 B3 c4
   go_wp2_with fail
   go_ret2
   rw[HE.1,HE.2]
   exact⟨rfl,B4⟩
  ·have HE:=HY.out rfl (by rw[←hfe];omega)
   rw[←hfe]at HE
   clear HN HY HF hfe c4
   go_wp2_with fail
   go_ret2
   rw[HE.1,HE.2]
   exact⟨by simp,B3⟩
end Go.Proofs.YthmnmaemnihkeaaDoor
namespace Go.Proofs.YthmnmaemnihkeaaDoor
open Go.ChangeShapes Go.WideShapes Go.ChangeAt Go.RowKit
structure NdB (w:World) (g off:Nat) (t:TypeId) (cs:Array Value) (a b k q z:Value) (n:Nd):Prop where
 st:StB w g t cs
 sz:off+20≤cs.size
 el:∀j,j<20→cs[off+j]?=(ndA a b k q z n)[j]?
theorem NdB.below {w w':World} {g off:Nat} {t:TypeId} {cs:Array Value} {a b k q z:Value} {n:Nd} (h:NdB w g off t cs a b k q z n) (B:Below w.heap.size w w'):NdB w' g off t cs a b k q z n:=⟨h.st.below B,h.sz,h.el⟩
theorem NdB.turned {w w':World} {g off:Nat} {t:TypeId} {cs:Array Value} {a b k q z:Value} {n:Nd} {bs:List Nat} (h:NdB w g off t cs a b k q z n) (ht:Turned w w' bs) (hn:g∉bs):NdB w' g off t cs a b k q z n:=⟨h.st.turned ht hn,h.sz,h.el⟩
theorem NdB.cell {w:World} {g off:Nat} {t:TypeId} {cs:Array Value} {a b k q z:Value} {n:Nd} (h:NdB w g off t cs a b k q z n) (j:Nat) (hj:j<20) {x:Value} (e:(ndA a b k q z n)[j]?=some x):w.cell? ⟨g,off+j,none⟩=some x:=h.st.cell (off+j) (by rw[h.el j hj,e])
theorem NdB.put {w:World} {g off:Nat} {t:TypeId} {cs:Array Value} {a b k q z a' b' k' q' z':Value} {n n':Nd} (h:NdB w g off t cs a b k q z n) (j:Nat) (hj:j<20) (x:Value) (e:(ndA a b k q z n).setIfInBounds j x=ndA a' b' k' q' z' n'):
  NdB (w.setCell ⟨g,off+j,none⟩ x) g off t (cs.setIfInBounds (off+j) x) a' b' k' q' z' n':=by
 refine⟨h.st.put (off+j) x rfl,by rw[Array.size_setIfInBounds];exact h.sz,fun i hi=>?_⟩
 rw[←e,Array.getElem?_setIfInBounds,Array.getElem?_setIfInBounds]
 by_cases hij:j=i
 ·subst hij
  have h1:off+j<cs.size:=by have:=h.sz;omega
  have h2:j<(ndA a b k q z n).size:=hj
  simp[h1,h2]
 ·rw[if_neg (by omega),if_neg hij]
  exact h.el i hi
structure Only (cs cs':Array Value) (off:Nat):Prop where
 sz:cs'.size=cs.size
 el:∀i,i<off∨off+20≤i→cs'[i]?=cs[i]?
theorem Only.refl (cs:Array Value) (off:Nat):Only cs cs off:=⟨rfl,fun _ _=>rfl⟩
theorem Only.trans {cs ds es:Array Value} {off:Nat} (h:Only cs ds off) (h':Only ds es off):Only cs es off:=⟨h'.sz.trans h.sz,fun i hi=>(h'.el i hi).trans (h.el i hi)⟩
theorem Only.put (cs:Array Value) (off j:Nat) (hj:j<20) (x:Value):Only cs (cs.setIfInBounds (off+j) x) off:=⟨Array.size_setIfInBounds,fun i hi=>by rw[Array.getElem?_setIfInBounds_ne (by omega)]⟩
def lists5 (a b k q z:Value):List Nat:=(((blk a++blk b)++blk k)++blk q)++blk z
structure Hop (w w':World) (g off:Nat) (cs cs':Array Value) (L L':List Nat):Prop where
 on:Only cs cs' off
 tu:Turned w w' (g::L)
 nw:∀x∈L',x∈L∨w.heap.size≤x
theorem Hop.trans {w w1 w2:World} {g off:Nat} {cs cs1 cs2:Array Value} {L L1 L2:List Nat} (h:Hop w w1 g off cs cs1 L L1) (h':Hop w1 w2 g off cs1 cs2 L1 L2):Hop w w2 g off cs cs2 L L2:=by
 refine⟨h.on.trans h'.on,⟨h'.tu.os.trans h.tu.os,h'.tu.tape.trans h.tu.tape,h'.tu.output.trans h.tu.output,Nat.le_trans h.tu.size h'.tu.size,fun k hk hn=>?_⟩,fun x hx=>?_⟩
 ·rw[h'.tu.block k (Nat.lt_of_lt_of_le hk h.tu.size) (fun e=>?_),h.tu.block k hk hn]
  simp only[List.mem_cons]at e hn
  rcases e with e|e
  ·exact hn (.inl e)
  ·rcases h.nw k e with e|e
   ·exact hn (.inr e)
   ·omega
 ·rcases h'.nw x hx with e|e
  ·exact h.nw x e
  ·exact .inr (Nat.le_trans h.tu.size e)
theorem Hop.below {w w1 w2:World} {g off:Nat} {cs cs1:Array Value} {L L1:List Nat} (h:Hop w w1 g off cs cs1 L L1) (B:Below w1.heap.size w1 w2):Hop w w2 g off cs cs1 L L1:=
 h.trans ⟨Only.refl _ _,Turned.below _ B,fun _ h=>.inl h⟩
structure Hs (w:World) (g off:Nat) (t:TypeId) (cs:Array Value) (a b k q z:Value) (n:Nd):Prop where
 nb:NdB w g off t cs a b k q z n
 ow:OwnN w 0 a b k q z n
 ty:t≠2
theorem Hs.below {w w':World} {g off:Nat} {t:TypeId} {cs:Array Value} {a b k q z:Value} {n:Nd} (h:Hs w g off t cs a b k q z n) (B:Below w.heap.size w w'):Hs w' g off t cs a b k q z n:=⟨h.nb.below B,h.ow.below B,h.ty⟩
theorem OwnN.set {w:World} {base g j:Nat} {t:TypeId} {cs:Array Value} {a b k q z:Value} {n:Nd} (h:OwnN w base a b k q z n) (s:StB w g t cs) (ty:t≠2) (x:Value):OwnN (w.setCell ⟨g,j,none⟩ x) base a b k q z n:=
 ⟨h.oa.putBy s ty (grownSet w g j x),h.ob.putBy s ty (grownSet w g j x),h.ok.putBy s ty (grownSet w g j x),h.oq.putBy s ty (grownSet w g j x),h.oz.putBy s ty (grownSet w g j x),h.ap⟩
end Go.Proofs.YthmnmaemnihkeaaDoor
