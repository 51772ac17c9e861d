/- What the law on holdings draws: l8DrawWho, DrawMay. -/
import Derived.Test.YtfngkbogcjodaaaGreatDoorM7
import Derived.Test.YtfngkbogcjodaaaGreatDoorM5
import Derived.Deep.RegionHeld3
import Derived.Test.YtfngkbogcjodaaaGreatDoorM4
import Derived.Test.YtfngkbogcjodaaaGreatDoorM2
import Derived.Test.YtfngkbogcjodaaaGreatDoorM6
import Derived.Deep.RegionWith
import Derived.WalkSpells
import Derived.Below
import Derived.Laws.Tables
import Derived.Laws.ResultCell
import Derived.Deep.DeepCutAuto
set_option maxRecDepth 20000
set_option maxHeartbeats 1000000
namespace Go.Proofs.YtfngkbogcjodaaaGreatDoor
open Go.ChangeShapes Go.WideShapes Go.ChangeAt Go.RowKit
theorem l8who_any (B c:Nat) (w:World) (hcur:Cur w B c):
  Calls Tryz.prog 21 #[.pointer (some ⟨c,0,none⟩)] w fun e w'=>∃x:Int,e=.returned (.int .i64 x)∧Cur w' B c∧w.grownBy w' (some c):=by
 have hcw:=hcur.lt.2
 have HC0:Hid (Cur w B c):=hcur
 clear hcur
 go_enter Tryz.func21,Tryz.ntmps21
 go_wp2_with fail
 refine(once_any B c 14 _ HC0.out (by omega)).mono ?_
 rintro e w1 ⟨b,rfl,C1,G1⟩
 have HC1:Hid (Cur w1 B c∧w.grownBy w1 (some c)):=⟨C1,G1⟩
 have hc1:=C1.lt.2
 clear HC0 C1 G1
 cases b with
 |false=>
  go_wp2_with fail
  refine(below_any B c 4 _ HC1.out.1 (by omega)).mono ?_
  rintro e w2 ⟨x,rfl,lx,ux, -,C2,G2⟩
  go_wp2_with fail
  go_ret
  exact⟨x,rfl,C2,HC1.out.2.trans G2⟩
 |true=>
  have L1:Hid (Cur (w1.alloc (.cells #[.int .i64 (-1),.int .i64 4,.int .i64 4611686018427387904] 2)) B c∧w.grownBy (w1.alloc (.cells #[.int .i64 (-1),.int .i64 4,.int .i64 4611686018427387904] 2)) (some c)):=
   ⟨HC1.out.1.kept (World.grownBy_alloc w1 _ none) (by simp) (by simp),HC1.out.2.trans (World.grownBy_alloc w1 _ _)⟩
  clear HC1
  go_wp2_with fail
  refine(below_any B c 3 _ L1.out.1 (by omega)).mono ?_
  rintro e w2 ⟨i,rfl,li,ui, -,C2,G2⟩
  have vi:=ui (by omega)
  obtain⟨x,hx⟩:=lit_at (w:=w1) [-1,4,4611686018427387904] (t:=2) G2 (by simp;omega) i (by omega) (by simp;omega)
  have HC2:Hid (Cur w2 B c∧w.grownBy w2 (some c)):=⟨C2,L1.out.2.trans G2⟩
  clear ui C2 G2 L1
  go_wp2_with fail
  go_ret
  exact⟨x,rfl,HC2.out⟩
theorem DrawnH.kept {w w' w2:World} {u:Value} {h:Hd} {row:Option Nat} (d:DrawnH w w' u h) (G:w'.grownBy w2 row) (hr:∀k,row=some k→k<w.heap.size∨w'.heap.size≤k):DrawnH w w2 u h:=by
 obtain⟨⟨ao,cap',e,h1,h2,h3⟩,⟨q,off,cap,e2,hq1,hq2⟩,hl⟩:=d
 subst e
 simp only[Value.slice.injEq]at e2
 obtain⟨rfl, -,rfl⟩:=e2
 refine⟨⟨_,_,rfl,h1,h2,?_⟩,⟨q,off,cap',rfl,hq1,Nat.lt_of_lt_of_le hq2 G.size⟩,hl⟩
 rcases h3 with h3|⟨b,o2,e3,h3⟩
 ·exact .inl h3
 ·refine .inr ⟨b,o2,e3,fun j hj=>?_⟩
  simp only[Option.some.injEq,Addr.mk.injEq]at e3
  obtain⟨rfl,rfl, -⟩:=e3
  exact G.cell (h3 j hj) (fun e=>by rcases hr q e.symm with h|h<;>omega)
theorem DrawnH.mono {w0 w w':World} {u:Value} {h:Hd} (d:DrawnH w w' u h) (hb:w0.heap.size≤w.heap.size):DrawnH w0 w' u h:=by
 obtain⟨h1,⟨q,off,cap,e2,hq1,hq2⟩,hl⟩:=d
 exact⟨h1,⟨q,off,cap,e2,Nat.le_trans hb hq1,hq2⟩,hl⟩
def DM (w w1 wx:World) (B c g k:Nat) (u:Value) (h:Hd):Prop:=
 Cur wx B c∧Below w.heap.size w wx∧StB wx g 28 zeroH∧StB wx k 28 (hdA u h)∧DrawnH w1 wx u h∧(w.heap.size≤g∧g<w1.heap.size∧w.heap.size≤c∧c<w1.heap.size∧g≠c∧w1.heap.size≤k∧g≠k∧w.heap.size≤w1.heap.size)
theorem DM.draw {w w1 wx wy:World} {B c g k:Nat} {u:Value} {h:Hd} (d:DM w w1 wx B c g k u h) (C:Cur wy B c) (G:wx.grownBy wy (some c)):DM w w1 wy B c g k u h:=by
 obtain⟨h1,h2,h3,h4,h5,h6⟩:=d
 refine⟨C,h2.grown G h2.size (fun x e=>by cases e;omega),h3.kept G ?_,h4.kept G ?_,h5.kept G (fun x e=>by cases e;omega),h6⟩
 ·intro e;have:=Option.some.inj e;omega
 ·intro e;have:=Option.some.inj e;omega
theorem DM.drew {w w1 wx:World} {B c g k:Nat} {u:Value} {h:Hd} (d:DM w w1 wx B c g k u h):DM w w1 wx.drew B c g k u h:=by
 obtain⟨h1,h2,h3,h4,h5,h6⟩:=d
 exact⟨h1,h2.drew,h3,h4,h5,h6⟩
theorem DM.fin {w w1 wx wy:World} {B c g k:Nat} {u:Value} {h:Hd} (d:DM w w1 wx B c g k u h) (G:wx.grownBy wy (some g)):DrawnH w wy u h∧Below w.heap.size w wy:=by
 obtain⟨h1,h2,h3,h4,h5,h6⟩:=d
 exact⟨(h5.kept G (fun x e=>by cases e;omega)).mono h6.2.2.2.2.2.2.2,h2.grown G h2.size (fun x e=>by cases e;omega)⟩
end Go.Proofs.YtfngkbogcjodaaaGreatDoor
namespace Go.Proofs.YtfngkbogcjodaaaGreatDoor
open Go.ChangeShapes Go.WideShapes Go.ChangeAt Go.RowKit
theorem bel_alloc {w wx:World} {o:Obj} (h:Below w.heap.size w wx):Below w.heap.size w (wx.alloc o):=h.alloc h.size _
theorem bel_drew {w wx:World} (h:Below w.heap.size w wx):Below w.heap.size w wx.drew:=h.drew
theorem bel_trans {w wx wy:World} (h:Below w.heap.size w wx) (b:Below wx.heap.size wx wy):Below w.heap.size w wy:=h.trans (b.mono h.size)
def Sx (w wx:World):Prop:=Below w.heap.size w wx
theorem later_cell {w wx:World} {a:Addr} {v:Value} (h:w.cell? a=some v) (b:Below w.heap.size w wx):wx.cell? a=some v:=by
 rw[b.cell (World.block_lt_of_cell? w _ h)];exact h
theorem StB.newE (w:World) (t:TypeId) (cs:Array Value) {g:Nat} (h:g=w.heap.size):StB (w.alloc (.cells cs t)) g t cs:=by subst h;exact StB.new w t cs
theorem StB.dr {w:World} {g:Nat} {t:TypeId} {cs:Array Value} (h:StB w g t cs):StB w.drew g t cs:=h
theorem StB.al {w:World} {g:Nat} {t:TypeId} {cs:Array Value} {o:Obj} (h:StB w g t cs):StB (w.alloc o) g t cs:=h.alloc o
theorem StB.bel {w w':World} {g:Nat} {t:TypeId} {cs:Array Value} (h:StB w g t cs) (b:Below w.heap.size w w'):StB w' g t cs:=h.below b
theorem StB.typ {w:World} {g k:Nat} {t s:TypeId} {cs ds:Array Value} (h:StB w g t cs) (h':StB w k s ds) (hne:t≠s):g≠k:=by
 rintro rfl
 unfold StB at h h'
 rw[h]at h'
 simp at h'
 exact hne h'.2
theorem Own.ne {w:World} {base g:Nat} {v:Value} {xs:List Int} {t:TypeId} {cs:Array Value} (h:Own w base v xs) (h':StB w g t cs) (hne:t≠2):v.ownBlock≠some g:=by
 intro e
 rcases h.2 with⟨rfl, -⟩|⟨k,cap,cur,rfl, -,hg, -⟩
 ·cases e
 ·simp only[Value.ownBlock,Option.some.injEq]at e
  subst e
  unfold StB at h'
  rw[hg]at h'
  simp at h'
  exact hne h'.2.symm
theorem Own.putBy {w w':World} {base g:Nat} {v:Value} {xs:List Int} {t:TypeId} {cs:Array Value} (h:Own w base v xs) (h':StB w g t cs) (hne:t≠2) (b:w.grownBy w' (some g)):Own w' base v xs:=
 h.kept b (.inr (h.ne h' hne))
theorem bel_put {w wx wy:World} {g:Nat} (h:Below w.heap.size w wx) (b:wx.grownBy wy (some g)) (hg:w.heap.size≤g):Below w.heap.size w wy:=
 h.grown b h.size (fun k e=>by cases e;exact hg)
theorem step_putS {t:TypeId} {n:Nat} (hS:IsS t n) {ops:Array Oper} {o:Oper} {a:Act} {w:World} {K:Act→World→Prop} {Q:Exit→Act→World→Prop} {E:Prop} (hgd:o.guard=none) (x y:Operand) (ho:o.op=.store t x y)
  (g:Nat) (cs ds:Array Value) (hx:a.eval x=.pointer (some ⟨g,0,none⟩)) (hy:a.eval y=.agg cs) (hn:cs.size=n) (hd:ds.size=n) (h1:cs.all (·.oneCell')=true) (hr:StB w g t ds)
  (h:∀w',StB w' g t cs→w.grownBy w' (some g)→K (a.put o.dst undef) w'):if Region.wanted o (yielded ops a.tmps)=true then Oper.wp Tryz.prog o a w K Q else E:=by
 have hw:Region.wanted o (yielded ops a.tmps)=true:=by simp[Region.wanted,hgd]
 rw[if_pos hw]
 exact wp_store_row t x y ho g cs hx hy _ _ hr (by rw[hS.2,hn]) (by rw[hd,hn]) h1 (h _ (setRow_heap w g _ _ _ _ hr) (grownRowS w g _))
theorem ge_of {w wx wy:World} {g:Nat} (_:wx.grownBy wy (some g)) (l:w.heap.size≤g):w.heap.size≤g:=l
theorem StB.keptT {w w':World} {g k:Nat} {t s:TypeId} {cs ds:Array Value} (h:StB w k s ds) (h':StB w g t cs) (b:w.grownBy w' (some g)) (ne:t≠s):StB w' k s ds:=h.kept b (fun e=>StB.typ h' h ne (Option.some.inj e).symm)
theorem upon_putS {o:Oper} {a:Act} {w:World} {K:Act→World→Prop} {Q:Exit→Act→World→Prop} (g:Nat) (t:TypeId) (cs ds:Array Value) (hd:ds.size=cs.size) (h1:cs.all (·.oneCell')=true) (hr:StB w g t ds)
  (h:∀w',StB w' g t cs→w.grownBy w' (some g)→Oper.upon Tryz.prog o a K Q (.ok .skip w')):
  Oper.upon Tryz.prog o a K Q (((storeCells ⟨g,0,none⟩ cs.toList).run Tryz.prog w).andThen fun _ w'=>.ok .skip w'):=by
 have e:=run_storeCells_from (P:=Tryz.prog) g t cs.toList 0 ds w hr (by simp;omega) (fun v hv=>(Array.all_eq_true_iff_forall_mem.1 h1) v (by simpa using hv))
 rw[e]
 simp only[List.take_zero,List.nil_append,Array.toArray_toList,Result.andThen_ok]
 exact h _ (setRow_heap w g _ _ _ _ hr) (grownRowS w g _)
def dkA (u v:Value):Array Value:=#[u,v]
end Go.Proofs.YtfngkbogcjodaaaGreatDoor
namespace Go.Proofs.YtfngkbogcjodaaaGreatDoor
def Cm.rd (c:Cm):Bool:=c.ok&&decide (c.o=1)
def Cm.wr (c:Cm):Bool:=c.ok&&inI c.o 2 5
end Go.Proofs.YtfngkbogcjodaaaGreatDoor
namespace Go.Proofs.YtfngkbogcjodaaaGreatDoor
open Go.RowKit
structure An where
 st:Int
 tx:Bs
def anA (x:An):Array Value:=#[.int .i64 x.st,S x.tx]
def AV (x:An):Value:=.agg (anA x)
def rangeI (ys:List Int) (c:Cm):Bool:=decide ((ys.length:Int)≤c.p)||(decide (c.o=2)&& !valOk c.a)||(decide (c.o=3)&& !valOk c.b)
def atI (ys:List Int) (c:Cm):Int:=ys.getD c.p.toNat 0
def didI (xs ys:List Int) (c:Cm):List Int×List Int×An:=
 if c.o=5 then(ys,ys,⟨0,[]⟩)
 else if rangeI ys c then(xs,ys,⟨1,[]⟩)
 else if c.o=1 then(xs,ys,⟨0,decI (atI ys c)⟩)
 else if c.o=2 then(xs,ys.set c.p.toNat c.a,⟨0,[]⟩)
 else if c.o=3 then(if atI ys c=c.a then(xs,ys.set c.p.toNat c.b,⟨0,[]⟩)else(xs,ys,⟨2,decI (atI ys c)⟩))
 else(xs,ys.set c.p.toNat 0,⟨0,[]⟩)
def didD (xs ys:List Int) (c:Cm):List Int×List Int×An:=
 if bothOk xs ys then(if c.ok&&decide (c.o≤5)then didI xs ys c else(xs,ys,⟨7,[]⟩))else([],[],⟨7,[]⟩)
theorem Cm.ok_vol {c:Cm} (h:c.ok=true) (h5:c.o≤5):(c.o=1∨c.o=2∨c.o=3∨c.o=4∨c.o=5)∧0≤c.p:=by
 obtain⟨o,p,a,b,k⟩:=c
 have hb:=Cm.ok_byt h
 unfold Cm.ok Cm.told at h
 dsimp only at h h5
 simp only[Bool.and_eq_true,inI_iff]at h
 unfold Cm.Byt at hb
 dsimp only at hb
 dsimp only
 omega
theorem didI_len (xs ys:List Int) (c:Cm) (h:xs.length≤1048576) (h':ys.length≤1048576):(didI xs ys c).1.length≤1048576∧(didI xs ys c).2.1.length≤1048576:=by
 unfold didI
 split
 ·exact⟨h',h'⟩
 ·split
  ·exact⟨h,h'⟩
  ·split
   ·exact⟨h,h'⟩
   ·split
    ·exact⟨h,by simpa using h'⟩
    ·split
     ·split
      ·exact⟨h,by simpa using h'⟩
      ·exact⟨h,h'⟩
     ·exact⟨h,by simpa using h'⟩
theorem didD_len (xs ys:List Int) (c:Cm) (h:xs.length≤1048576) (h':ys.length≤1048576):(didD xs ys c).1.length≤1048576∧(didD xs ys c).2.1.length≤1048576:=by
 unfold didD
 split
 ·split
  ·exact didI_len xs ys c h h'
  ·exact⟨h,h'⟩
 ·simp
end Go.Proofs.YtfngkbogcjodaaaGreatDoor
set_option maxRecDepth 20000
set_option maxHeartbeats 1000000
namespace Go.Proofs.YtfngkbogcjodaaaGreatDoor
open Go.ChangeShapes Go.WideShapes Go.ChangeAt Go.RowKit
def Boxes (w wx:World) (u v:Value):Prop:=
 Pair wx w.heap.size 26 u v∧Pair wx (w.heap.size+1) 26 (.slice none 0 0) (.slice none 0 0)∧Below w.heap.size w wx∧w.heap.size+2≤wx.heap.size
theorem Boxes.start (w:World) (u v:Value):Boxes w ((w.alloc (.cells #[u,v] 26)).alloc (.cells #[.slice none 0 0,.slice none 0 0] 26)) u v:=by
 refine⟨(Pair.new w _ u v).alloc _,?_,((Below.refl _ _).alloc (Nat.le_refl _) _).alloc (by simp) _,by simp⟩
 have:=Pair.new (w.alloc (.cells #[u,v] 26)) 26 (.slice none 0 0) (.slice none 0 0)
 simpa using this
theorem Boxes.below {w wx wy:World} {u v:Value} (h:Boxes w wx u v) (b:Below wx.heap.size wx wy):Boxes w wy u v:=
 ⟨h.1.below b,h.2.1.below b,h.2.2.1.trans (b.mono h.2.2.1.size),Nat.le_trans h.2.2.2 b.size⟩
theorem Boxes.drew {w wx:World} {u v:Value} (h:Boxes w wx u v):Boxes w wx.drew u v:=⟨h.1,h.2.1,below_drewN h.2.2.1 1,h.2.2.2⟩
theorem Boxes.done {w wx wy:World} {u v a b:Value} {xs ys:List Int} {base base':Nat} (h:Boxes w wx u v) (g:wx.grownBy wy (some (w.heap.size+1))) (oa:Own wx base a xs) (ob:Own wx base' b ys) (hb:w.heap.size+2≤base) (hb':w.heap.size+2≤base') (hap:apart a b):
  OwnD wy w.heap.size a b xs ys∧Below w.heap.size w wy:=
 ⟨⟨(oa.keptLt g (by omega)).mono (by omega),(ob.keptLt g (by omega)).mono (by omega),hap⟩,h.2.2.1.grown g h.2.2.1.size (fun k e=>by cases e;omega)⟩
theorem cell_set1 {w:World} {g j k:Nat} {x y:Value} (h:w.cell? ⟨g,j,none⟩=some x):(w.setCell ⟨g+1,k,none⟩ y).cell? ⟨g,j,none⟩=some x:=by
 rw[World.cell?_of_block (w:=w) (heap_setCell_other w ⟨g+1,k,none⟩ g y (by simp)),h]
theorem grown_two (w:World) (g:Nat) (x y:Value):w.grownBy ((w.setCell ⟨g,0,none⟩ x).setCell ⟨g,1,none⟩ y) (some g):=(grownSet w g 0 x).trans (grownSet _ g 1 y)
theorem apart.symm {u v:Value} (h:apart u v):apart v u:=⟨h.2,h.1⟩
theorem beq_cast (n m:Nat):((n:Int)==(m:Int))=decide (n=m):=by
 by_cases h:n=m
 ·subst h;simp
 ·have:(n:Int)≠m:=by omega
  simp[h,this]
theorem l3Copy_any (u v:Value) (xs ys:List Int) (w:World) (h:Reads w u xs) (h':Reads w v ys) (gx:xs.length≤1099511627776) (gy:ys.length≤1099511627776):
  Calls Tryz.prog 68 #[.agg #[u,v]] w fun e w'=>∃a b,e=.returned (.agg #[a,b])∧OwnD w' w.heap.size a b xs ys∧Below w.heap.size w w':=by
 have HR:Hid (Reads w u xs∧Reads w v ys):=⟨h,h'⟩
 clear h h'
 obtain⟨w2,hw2⟩:∃w2,w2=(w.alloc (.cells #[u,v] 26)).alloc (.cells #[.slice none 0 0,.slice none 0 0] 26):=⟨_,rfl⟩
 have HB:Hid (Boxes w w2 u v):=by rw[hw2];exact Boxes.start w u v
 have c0:=HB.out.1.cell0
 have c1:=HB.out.1.cell1
 go_enter Tryz.func68,Tryz.ntmps68
 go_wp2_with fail
 rw[←hw2]
 clear hw2
 have HB2:=HB.out.drew
 go_region_held3 (fun w'=>w'.cell? ⟨w.heap.size,0,none⟩=some u∧w'.cell? ⟨w.heap.size,1,none⟩=some v) (constructor<;>first|assumption|exact cell_set1 (cell_set1 (by assumption)))
  (first
   |(go_at_call_of 102 u;refine(copy_any u xs w2.drew (HR.out.1.below HB2.2.2.1 (Nat.le_refl _)) gx).mono ?_;rintro e w4 ⟨a,rfl,oa,ba⟩;have HB4:=HB2.below ba;have d0:=HB4.1.cell0;have d1:=HB4.1.cell1;obtain⟨ao,ca,hea⟩:=oa.reads.form;subst hea)
   |(go_at_call_of 102 v;refine(copy_any v ys w4 (HR.out.2.below HB4.2.2.1 (Nat.le_refl _)) gy).mono ?_;rintro e w5 ⟨b,rfl,ob,bb⟩;have hap:=apart_of oa ob (Nat.le_refl _);replace oa:=oa.below bb;have hs5:=ba.size;have HB5:=HB4.below bb;have e0:=HB5.1.cell0;have e1:=HB5.1.cell1;have e2:=HB5.2.1.cell0;have e3:=HB5.2.1.cell1;have f2:=HB5.2.1.frozen 0;have f3:=HB5.2.1.frozen 1;obtain⟨bo,cb,heb⟩:=ob.reads.form;subst heb))
 go_wp2_with fail
 refine bodyPost_ret (results_pair rfl _ _ (w.heap.size+1) _ _ rfl ((HB5.2.1.set0 _).set1 _)) rfl ?_
 exact⟨_,_,rfl,HB5.done (grown_two _ _ _ _) oa ob (HB2.2.2.2) (Nat.le_trans HB2.2.2.2 hs5) hap⟩
theorem l3Flushed_any (u v:Value) (ys:List Int) (w:World) (h':Reads w v ys) (gy:ys.length≤1099511627776):
  Calls Tryz.prog 110 #[.agg #[u,v]] w fun e w'=>∃a b,e=.returned (.agg #[a,b])∧OwnD w' w.heap.size a b ys ys∧Below w.heap.size w w':=by
 have HR:Hid (Reads w v ys):=h'
 clear h'
 obtain⟨w2,hw2⟩:∃w2,w2=(w.alloc (.cells #[u,v] 26)).alloc (.cells #[.slice none 0 0,.slice none 0 0] 26):=⟨_,rfl⟩
 have HB:Hid (Boxes w w2 u v):=by rw[hw2];exact Boxes.start w u v
 have c0:=HB.out.1.cell0
 have c1:=HB.out.1.cell1
 go_enter Tryz.func110,Tryz.ntmps110
 go_wp2_with fail
 rw[←hw2]
 clear hw2
 have HB2:=HB.out.drew
 go_region_held3 (fun w'=>w'.cell? ⟨w.heap.size,0,none⟩=some u∧w'.cell? ⟨w.heap.size,1,none⟩=some v) (constructor<;>first|assumption|exact cell_set1 (cell_set1 (by assumption)))
  (first
   |(go_at_call_of 102 v;refine(copy_any v ys w2.drew (HR.out.below HB2.2.2.1 (Nat.le_refl _)) gy).mono ?_;rintro e w4 ⟨a,rfl,oa,ba⟩;have HB4:=HB2.below ba;have d0:=HB4.1.cell0;have d1:=HB4.1.cell1;obtain⟨ao,ca,hea⟩:=oa.reads.form;subst hea)
   |(go_at_call_of 102 v;refine(copy_any v ys w4 (HR.out.below HB4.2.2.1 (Nat.le_refl _)) gy).mono ?_;rintro e w5 ⟨b,rfl,ob,bb⟩;have hap:=apart_of oa ob (Nat.le_refl _);replace oa:=oa.below bb;have hs5:=ba.size;have HB5:=HB4.below bb;have e0:=HB5.1.cell0;have e1:=HB5.1.cell1;have e2:=HB5.2.1.cell0;have e3:=HB5.2.1.cell1;have f2:=HB5.2.1.frozen 0;have f3:=HB5.2.1.frozen 1;obtain⟨bo,cb,heb⟩:=ob.reads.form;subst heb))
 go_wp2_with fail
 refine bodyPost_ret (results_pair rfl _ _ (w.heap.size+1) _ _ rfl ((HB5.2.1.set0 _).set1 _)) rfl ?_
 exact⟨_,_,rfl,HB5.done (grown_two _ _ _ _) oa ob (HB2.2.2.2) (Nat.le_trans HB2.2.2.2 hs5) hap⟩
theorem sdiskOk_any (u v:Value) (xs ys:List Int) (w:World) (h:Reads w u xs) (h':Reads w v ys) (gx:xs.length≤1099511627776) (gy:ys.length≤1099511627776):
  Calls Tryz.prog 35 #[.agg #[u,v]] w fun e w'=>e=.returned (.bool (bothOk xs ys))∧Below w.heap.size w w':=by
 have b1:=belowAlloc w (.cells #[u,v] 26)
 have c1:=sok_any u xs _ (h.below b1 (Nat.le_refl _)) gx
 have c2:=sok_any v ys _ (h'.below b1 (Nat.le_refl _)) gy
 obtain⟨ao,ca,rfl⟩:=h.form
 obtain⟨bo,cb,rfl⟩:=h'.form
 have HB:Hid (Below w.heap.size w (w.alloc (.cells #[.slice ao xs.length ca,.slice bo ys.length cb] 26))):=b1
 clear h h' b1
 by_cases h1:blocksOk xs=true
 ·rw[h1]at c1
  by_cases h2:blocksOk ys=true
  ·rw[h2]at c2
   have HD:Hid (bothOk xs ys=decide (xs.length=ys.length)):=by simp[Hid,bothOk,h1,h2]
   obtain⟨n,hn⟩:∃n,n=xs.length:=⟨_,rfl⟩
   obtain⟨m,hm⟩:∃m,m=ys.length:=⟨_,rfl⟩
   rw[←hn]at c1 c2 HB HD⊢
   rw[←hm]at c1 c2 HB HD⊢
   clear h1 h2 gx gy hn hm
   go_enter Tryz.func35,Tryz.ntmps35
   go_wp2_with fail
   refine c1.mono ?_
   rintro e w' ⟨rfl,hw⟩;subst w'
   go_wp2_with fail
   refine c2.mono ?_
   rintro e w' ⟨rfl,hw⟩;subst w'
   go_wp2_with fail
   go_ret
   refine⟨ret_bool ?_,HB.out⟩
   rw[HD.out]
   exact beq_cast n m
  ·have h2':blocksOk ys=false:=by simpa using h2
   rw[h2']at c2
   have HD:Hid (bothOk xs ys=false):=by simp[Hid,bothOk,h2']
   obtain⟨n,hn⟩:∃n,n=xs.length:=⟨_,rfl⟩
   obtain⟨m,hm⟩:∃m,m=ys.length:=⟨_,rfl⟩
   rw[←hn]at c1 c2 HB⊢
   rw[←hm]at c1 c2 HB⊢
   clear h1 h2 h2' gx gy hn hm
   go_enter Tryz.func35,Tryz.ntmps35
   go_wp2_with fail
   refine c1.mono ?_
   rintro e w' ⟨rfl,hw⟩;subst w'
   go_wp2_with fail
   refine c2.mono ?_
   rintro e w' ⟨rfl,hw⟩;subst w'
   go_wp2_with fail
   go_ret
   exact⟨ret_bool HD.out.symm,HB.out⟩
 ·have h1':blocksOk xs=false:=by simpa using h1
  rw[h1']at c1
  have HD:Hid (bothOk xs ys=false):=by simp[Hid,bothOk,h1']
  obtain⟨n,hn⟩:∃n,n=xs.length:=⟨_,rfl⟩
  obtain⟨m,hm⟩:∃m,m=ys.length:=⟨_,rfl⟩
  rw[←hn]at c1 HB⊢
  rw[←hm]at c1 HB⊢
  clear h1 h1' gx gy hn hm c2
  go_enter Tryz.func35,Tryz.ntmps35
  go_wp2_with fail
  refine c1.mono ?_
  rintro e w' ⟨rfl,hw⟩;subst w'
  go_wp2_with fail
  go_ret
  exact⟨ret_bool HD.out.symm,HB.out⟩
end Go.Proofs.YtfngkbogcjodaaaGreatDoor
namespace Go.Proofs.YtfngkbogcjodaaaGreatDoor
open Go.ChangeShapes Go.WideShapes Go.ChangeAt Go.RowKit
def cmA (c:Cm):Array Value:=#[.int .i64 c.o,.int .i64 c.p,.int .i64 c.a,.int .i64 c.b,.int .i64 c.k]
def CV (c:Cm):Value:=.agg (cmA c)
def sumN (l:Bs) (j:Nat):Int:=(l.take j).foldl (fun n b=>n+byteI b) 0
theorem sumN_step (l:Bs) (j:Nat) (h:j<l.length):sumN l (j+1)=sumN l j+byteI (l.getD j 0):=by
 unfold sumN
 rw[take_snocB l j h,List.foldl_append]
 simp[h]
theorem sumN_bd (l:Bs) (j:Nat):0≤sumN l j∧sumN l j≤256*j:=by
 induction j with
 |zero=>simp[sumN]
 |succ j ih=>
  by_cases h:j<l.length
  ·have:=byteI_bd (l.getD j 0)
   rw[sumN_step l j h];omega
  ·have:sumN l (j+1)=sumN l j:=by unfold sumN;rw[List.take_of_length_le (by omega),List.take_of_length_le (by omega)]
   rw[this];omega
def CmB (w:World) (g:Nat) (t:TypeId) (c:Cm):Prop:=w.heap[g]?=some (.cells (cmA c) t (0,0))
theorem CmB.lt {w:World} {g:Nat} {t:TypeId} {c:Cm} (h:CmB w g t c):g<w.heap.size:=by
 rcases Nat.lt_or_ge g w.heap.size with hlt|hge
 ·exact hlt
 ·rw[CmB,Array.getElem?_eq_none hge]at h;cases h
theorem CmB.new (w:World) (t:TypeId) (c:Cm):CmB (w.alloc (.cells (cmA c) t)) w.heap.size t c:=heap_alloc_new w _
theorem CmB.below {w w':World} {g:Nat} {t:TypeId} {c:Cm} (h:CmB w g t c) (hb:Below w.heap.size w w'):CmB w' g t c:=(hb.block g h.lt).trans h
theorem CmB.kept {w w':World} {g:Nat} {t:TypeId} {c:Cm} {row:Option Nat} (h:CmB w g t c) (hg:w.grownBy w' row) (hne:some g≠row):CmB w' g t c:=(hg.block g h.lt hne).trans h
theorem CmB.alloc {w:World} {g:Nat} {t:TypeId} {c:Cm} (h:CmB w g t c) (o:Obj):CmB (w.alloc o) g t c:=(Below.heap_alloc w o g h.lt).trans h
theorem CmB.cell {w:World} {g:Nat} {t:TypeId} {c:Cm} (h:CmB w g t c) (j:Nat) {x:Value} (e:(cmA c)[j]?=some x):w.cell? ⟨g,j,none⟩=some x:=by rw[cell_of_row w g j _ _ _ h,e]
theorem CmB.frozen {w:World} {g:Nat} {t:TypeId} {c:Cm} (h:CmB w g t c) (j:Nat):w.frozen? ⟨g,j,none⟩=false:=frozen_of_row w g j _ _ h
theorem grownRowC (w:World) (g:Nat) (cs:Array Value):w.grownBy (w.setRow g cs) (some g):=
 ⟨rfl,rfl,rfl,by simp,fun k _ hne=>_root_.Go.setRow_other w g k cs (fun e=>hne (by rw[e]))⟩
theorem cmA_one (c:Cm):(cmA c).all (·.oneCell')=true:=by simp[cmA,Value.oneCell']
theorem Tryz.infoC:(Tryz.prog.info? 32).map (·.size)=some 5:=by kernel_rfl
theorem Tryz.underC:∃fs,Tryz.prog.underlying 32=some (.struct fs):=⟨_,Tryz.underlying32⟩
theorem wpList_getC {ops:Array Oper} {rest:List Oper} {o:Oper} {a:Act} {w:World} {Q:Exit→Act→World→Prop} (hgd:o.guard=none) (x:Operand) (ho:o.op=.load 32 x)
  (g:Nat) (hx:a.eval x=.pointer (some ⟨g,0,none⟩)) (c:Cm) (hr:CmB w g 32 c)
  (h:wpList Tryz.prog ops Q rest (a.put o.dst (CV c)) w):wpList Tryz.prog ops Q (o::rest) a w:=by
 obtain⟨fs,hu⟩:=Tryz.underC
 exact wpList_load_row hgd _ x ho g hx _ _ _ _ hr hu rfl Tryz.infoC h
theorem wpList_putC {ops:Array Oper} {rest:List Oper} {o:Oper} {a:Act} {w:World} {Q:Exit→Act→World→Prop} (hgd:o.guard=none) (x y:Operand) (ho:o.op=.store 32 x y)
  (g:Nat) (c c':Cm) (hx:a.eval x=.pointer (some ⟨g,0,none⟩)) (hy:a.eval y=CV c) (hr:CmB w g 32 c')
  (h:∀w',CmB w' g 32 c→w.grownBy w' (some g)→wpList Tryz.prog ops Q rest (a.put o.dst undef) w'):wpList Tryz.prog ops Q (o::rest) a w:=
 wpList_store_row hgd _ x y ho g (cmA c) hx hy _ _ hr Tryz.infoC rfl (cmA_one c) (h _ (setRow_heap w g _ _ _ _ hr) (grownRowC w g _))
theorem results_C {fn:Func} {p:Tmp} (h:fn.results=#[.cell p 32]) (tmps:Array Value) (w:World) (g:Nat) (c:Cm)
  (hp:tmps.getD p undef=.pointer (some ⟨g,0,none⟩)) (hr:CmB w g 32 c):(results fn tmps).run Tryz.prog w=.ok (CV c) w:=by
 obtain⟨fs,hu⟩:=Tryz.underC
 exact results_cell_row h tmps w g _ _ _ _ hp hr hu rfl Tryz.infoC
theorem results_C2 {fn:Func} {p q:Tmp} (h:fn.results=#[.cell p 32,.tmp q]) (tmps:Array Value) (w:World) (g:Nat) (c:Cm) (x:Value)
  (hp:tmps.getD p undef=.pointer (some ⟨g,0,none⟩)) (hx:tmps.getD q undef=x) (hr:CmB w g 32 c):(results fn tmps).run Tryz.prog w=.ok (.tuple #[CV c,x]) w:=by
 obtain⟨fs,hu⟩:=Tryz.underC
 rw[results_cell_tmp h,hp,hx]
 simp only[asAddr,Sem.run_pure,Result.andThen_ok]
 rw[run_loadVar_row w g _ _ _ _ _ hr hu rfl Tryz.infoC]
 rfl
theorem results_CC {fn:Func} {p q:Tmp} (h:fn.results=#[.cell p 32,.cell q 32]) (tmps:Array Value) (w:World) (g k:Nat) (c d:Cm)
  (hp:tmps.getD p undef=.pointer (some ⟨g,0,none⟩)) (hq:tmps.getD q undef=.pointer (some ⟨k,0,none⟩)) (hc:CmB w g 32 c) (hd:CmB w k 32 d):(results fn tmps).run Tryz.prog w=.ok (.tuple #[CV c,CV d]) w:=by
 obtain⟨fs,hu⟩:=Tryz.underC
 have h1:=run_loadVar_row w g _ _ _ _ _ hc hu rfl Tryz.infoC
 have h2:=run_loadVar_row w k _ _ _ _ _ hd hu rfl Tryz.infoC
 have hp':tmps[p]?.getD undef=.pointer (some ⟨g,0,none⟩):=by simpa using hp
 have hq':tmps[q]?.getD undef=.pointer (some ⟨k,0,none⟩):=by simpa using hq
 simp[results,h,hp',hq',asAddr,h1,h2]
 exact⟨rfl,rfl⟩
theorem code_short {s:Bs} (h:s.length<8):codeC s=1∧readC s=Cm.zero:=by
 have:codeC s=1:=by unfold codeC;rw[if_pos h]
 exact⟨this,readC_not (by rw[this];decide)⟩
theorem code_long {s:Bs} (h:8<s.length):codeC s=2∧readC s=Cm.zero:=by
 have:codeC s=2:=by unfold codeC;rw[if_neg (by omega),if_pos h]
 exact⟨this,readC_not (by rw[this];decide)⟩
theorem code_sum {s:Bs} (h:s.length=8) (h2:byteI (s.getD 7 0)≠sumI (s.take 7)):codeC s=3∧readC s=Cm.zero:=by
 have:codeC s=3:=by unfold codeC;rw[if_neg (by omega),if_neg (by omega),if_pos h2]
 exact⟨this,readC_not (by rw[this];decide)⟩
theorem code_op {s:Bs} (h:s.length=8) (h2:byteI (s.getD 7 0)=sumI (s.take 7)) (h3:inI (cmOf s).o 1 12=false):codeC s=4∧readC s=Cm.zero:=by
 have:codeC s=4:=by unfold codeC;rw[if_neg (by omega),if_neg (by omega),if_neg (by simpa using h2),if_pos h3]
 exact⟨this,readC_not (by rw[this];decide)⟩
theorem code_field {s:Bs} (h:s.length=8) (h2:byteI (s.getD 7 0)=sumI (s.take 7)) (h3:inI (cmOf s).o 1 12=true) (h4:(cmOf s).ok=false):codeC s=5∧readC s=Cm.zero:=by
 have:codeC s=5:=by unfold codeC;rw[if_neg (by omega),if_neg (by omega),if_neg (by simpa using h2),if_neg (by rw[h3];decide),if_pos h4]
 exact⟨this,readC_not (by rw[this];decide)⟩
theorem code_ok {s:Bs} (h:s.length=8) (h2:byteI (s.getD 7 0)=sumI (s.take 7)) (h4:(cmOf s).ok=true):codeC s=0∧readC s=cmOf s:=by
 have:codeC s=0:=by unfold codeC;rw[if_neg (by omega),if_neg (by omega),if_neg (by simpa using h2),if_neg (by rw[told_op h4];decide),if_neg (by rw[h4];decide)]
 exact⟨this,by unfold readC;rw[if_pos this]⟩
end Go.Proofs.YtfngkbogcjodaaaGreatDoor
namespace Go.Proofs.YtfngkbogcjodaaaGreatDoor
open Go.ChangeShapes Go.WideShapes Go.ChangeAt Go.RowKit
theorem Tryz.isA:IsS 36 2:=⟨⟨_,Tryz.underlying36⟩,by kernel_rfl⟩
theorem Tryz.isD:IsS 26 2:=⟨⟨_,Tryz.underlying26⟩,by kernel_rfl⟩
def zeD:Array Value:=#[.slice none 0 0,.slice none 0 0]
def zeA:Array Value:=#[.int .i64 0,.string ⟨#[]⟩]
theorem anA_zero:zeA=anA ⟨0,[]⟩:=rfl
theorem anA_one (x:An):(anA x).all (·.oneCell')=true:=by simp[anA,S,Value.oneCell']
theorem dkA_one {u v:Value} (hu:u.oneCell'=true) (hv:v.oneCell'=true):(#[u,v]:Array Value).all (·.oneCell')=true:=by simp[hu,hv]
theorem results_DA {fn:Func} {p q:Tmp} (h:fn.results=#[.cell p 26,.cell q 36]) (tmps:Array Value) (w:World) (g k:Nat) (cs ds:Array Value) (hc:cs.size=2) (hd:ds.size=2)
  (hp:tmps.getD p undef=.pointer (some ⟨g,0,none⟩)) (hq:tmps.getD q undef=.pointer (some ⟨k,0,none⟩)) (h1:StB w g 26 cs) (h2:StB w k 36 ds):(results fn tmps).run Tryz.prog w=.ok (.tuple #[.agg cs,.agg ds]) w:=by
 have l1:=load_S Tryz.isD w g cs hc h1
 have l2:=load_S Tryz.isA w k ds hd h2
 have hp':tmps[p]?.getD undef=.pointer (some ⟨g,0,none⟩):=by simpa using hp
 have hq':tmps[q]?.getD undef=.pointer (some ⟨k,0,none⟩):=by simpa using hq
 simp[results,h,hp',hq',asAddr,l1,l2]
structure Vl (w wx:World) (u v:Value) (c:Cm) (d:Array Value) (x:An):Prop where
 dk:StB wx w.heap.size 26 #[u,v]
 cm:CmB wx (w.heap.size+1) 32 c
 rd:StB wx (w.heap.size+1+1) 26 d
 ra:StB wx (w.heap.size+1+1+1) 36 (anA x)
 bl:Below w.heap.size w wx
 sz:w.heap.size+4≤wx.heap.size
theorem Vl.start (w:World) (u v:Value) (c:Cm):Vl w ((((w.alloc (.cells #[u,v] 26)).alloc (.cells (cmA c) 32)).alloc (.cells zeD 26)).alloc (.cells (anA ⟨0,[]⟩) 36)) u v c zeD ⟨0,[]⟩:=by
 have a1:=StB.new w 26 #[u,v]
 have a2:=CmB.new (w.alloc (.cells #[u,v] 26)) 32 c
 have a3:=StB.new ((w.alloc (.cells #[u,v] 26)).alloc (.cells (cmA c) 32)) 26 zeD
 have a4:=StB.new (((w.alloc (.cells #[u,v] 26)).alloc (.cells (cmA c) 32)).alloc (.cells zeD 26)) 36 (anA ⟨0,[]⟩)
 simp only[World.size_alloc]at a2 a3 a4
 refine⟨((a1.alloc _).alloc _).alloc _,(a2.alloc _).alloc _,a3.alloc _,a4,?_,by simp⟩
 exact((((Below.refl _ _).alloc (Nat.le_refl _) _).alloc (by simp) _).alloc (by simp;omega) _).alloc (by simp;omega) _
theorem Vl.next {w wx wy:World} {u v:Value} {c:Cm} {d:Array Value} {x:An} (h:Vl w wx u v c d x) (b:Below wx.heap.size wx wy):Vl w wy u v c d x:=
 ⟨h.dk.below b,h.cm.below b,h.rd.below b,h.ra.below b,h.bl.trans (b.mono h.bl.size),Nat.le_trans h.sz b.size⟩
theorem Vl.grown {w wx wy:World} {u v:Value} {c:Cm} {d:Array Value} {x:An} {g:Nat} (h:Vl w wx u v c d x) (b:wx.grownBy wy (some g)) (hg:w.heap.size+4≤g):Vl w wy u v c d x:=
 ⟨h.dk.kept b (by simp;omega),h.cm.kept b (by simp;omega),h.rd.kept b (by simp;omega),h.ra.kept b (by simp;omega),h.bl.grown b h.bl.size (fun k e=>by cases e;omega),Nat.le_trans h.sz b.size⟩
theorem Vl.drew {w wx:World} {u v:Value} {c:Cm} {d:Array Value} {x:An} (h:Vl w wx u v c d x):Vl w wx.drew u v c d x:=
 ⟨h.dk,h.cm,h.rd,h.ra,h.bl.drew,h.sz⟩
end Go.Proofs.YtfngkbogcjodaaaGreatDoor
namespace Go.Proofs.YtfngkbogcjodaaaGreatDoor
open Go.ChangeShapes Go.WideShapes Go.ChangeAt Go.RowKit
theorem bel_size {w wx:World} (h:Below w.heap.size w wx):w.heap.size≤wx.heap.size:=h.size
theorem Sta.add3 {w wx wy:World} {L:List Item} (h:Sta w wx L) (b:Below wx.heap.size wx wy) {g k:Nat} {t s:TypeId} {cs ds:Array Value} {u v:Value} {xs ys:List Int}
  (hg:StB wy g t cs) (hk:StB wy k s ds) (o:OwnD wy wx.heap.size u v xs ys) (lg:wx.heap.size≤g) (lk:wx.heap.size≤k) (ts:t≠s) (ti:t≠2) (si:s≠2):
  Sta w wy (Blk g t cs::Blk k s ds::Dsk u v xs ys::L):=by
 have h':=h.next b
 have sg:=hg.lt
 have sk:=hk.lt
 have hgk:=hg.typ hk ts
 have ob:∀x∈(Dsk u v xs ys).blocks,wx.heap.size≤x∧x<wy.heap.size∧x≠g∧x≠k:=by
  intro x hx
  simp only[Dsk,List.mem_append,Option.mem_toList]at hx
  rcases hx with hx|hx
  ·have:=o.1.lt x hx
   refine⟨this.1,this.2,?_,?_⟩
   ·rintro rfl;exact o.1.ne hg ti hx
   ·rintro rfl;exact o.1.ne hk si hx
  ·have:=o.2.1.lt x hx
   refine⟨this.1,this.2,?_,?_⟩
   ·rintro rfl;exact o.2.1.ne hg ti hx
   ·rintro rfl;exact o.2.1.ne hk si hx
 have hL:∀j∈L,∀x∈j.blocks,x<wx.heap.size:=fun j hj x hx=>(h.bound j hj x hx).2
 have sz:=h.below.size
 refine⟨h'.below,?_,?_,?_,?_,?_,?_,h'.apart⟩
 ·intro i hi
  simp only[List.mem_cons]at hi
  rcases hi with rfl|rfl|rfl|hi
  ·exact Nat.zero_le _
  ·exact Nat.zero_le _
  ·exact Nat.zero_le _
  ·exact h'.olds i hi
 ·intro i hi
  simp only[List.mem_cons]at hi
  rcases hi with rfl|rfl|rfl|hi
  ·exact hg
  ·exact hk
  ·exact⟨o.1.mono (Nat.zero_le _),o.2.1.mono (Nat.zero_le _),o.2.2⟩
  ·exact h'.holds i hi
 ·intro i hi x hx
  simp only[List.mem_cons]at hi
  rcases hi with rfl|rfl|rfl|hi
  ·simp only[Blk,List.mem_singleton]at hx;subst hx;omega
  ·simp only[Blk,List.mem_singleton]at hx;subst hx;omega
  ·have:=ob x hx;omega
  ·exact h'.bound i hi x hx
 ·intro j hj x hx hx'
  simp only[Blk,List.mem_singleton]at hx
  subst hx
  simp only[List.mem_cons]at hj
  rcases hj with rfl|rfl|hj
  ·simp only[Blk,List.mem_singleton]at hx';exact hgk hx'
  ·exact(ob x hx').2.2.1 rfl
  ·have:=hL j hj x hx';omega
 ·intro j hj x hx hx'
  simp only[Blk,List.mem_singleton]at hx
  subst hx
  simp only[List.mem_cons]at hj
  rcases hj with rfl|hj
  ·exact(ob x hx').2.2.2 rfl
  ·have:=hL j hj x hx';omega
 ·intro j hj x hx hx'
  have:=(ob x hx).1
  have:=hL j hj x hx'
  omega
theorem OwnD.bel {w w':World} {base:Nat} {u v:Value} {xs ys:List Int} (h:OwnD w base u v xs ys) (b:Below w.heap.size w w'):OwnD w' base u v xs ys:=⟨h.1.below b,h.2.1.below b,h.2.2⟩
theorem OwnD.mono' {w:World} {base base':Nat} {u v:Value} {xs ys:List Int} (h:OwnD w base u v xs ys) (b:base'≤base):OwnD w base' u v xs ys:=⟨h.1.mono b,h.2.1.mono b,h.2.2⟩
theorem OwnD.putBy {w w':World} {base g:Nat} {u v:Value} {xs ys:List Int} {t:TypeId} {cs:Array Value} (h:OwnD w base u v xs ys) (h':StB w g t cs) (hne:t≠2) (b:w.grownBy w' (some g)):OwnD w' base u v xs ys:=⟨h.1.putBy h' hne b,h.2.1.putBy h' hne b,h.2.2⟩
end Go.Proofs.YtfngkbogcjodaaaGreatDoor
