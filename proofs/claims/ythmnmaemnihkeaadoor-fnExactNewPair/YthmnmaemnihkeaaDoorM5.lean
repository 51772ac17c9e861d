/- Disks, structs of two lists: what the laws' szDisk, toDisk, eqDisk, markDisk and heldDisk answer. -/
import Derived.Test.YthmnmaemnihkeaaDoorM2
import Derived.Test.YthmnmaemnihkeaaDoorM4
import Derived.Laws.Tables
import Derived.Laws.ResultCell
import Derived.Deep.RegionHeld3
import Derived.Deep.RegionWith
import Derived.WalkSpells
import Derived.Test.YthmnmaemnihkeaaDoorMem
import Derived.Below
set_option maxRecDepth 20000
set_option maxHeartbeats 1000000
namespace Go.Proofs.YthmnmaemnihkeaaDoor
open Go.ChangeShapes Go.WideShapes Go.ChangeAt Go.RowKit
def apart (u v:Value):Prop:=(u.ownBlock=none∨u.ownBlock≠v.ownBlock)∧(v.ownBlock=none∨v.ownBlock≠u.ownBlock)
def OwnD (w:World) (base:Nat) (u v:Value) (xs ys:List Int):Prop:=Own w base u xs∧Own w base v ys∧apart u v
def Pair (w:World) (g:Nat) (t:TypeId) (u v:Value):Prop:=w.heap[g]?=some (.cells #[u,v] t (0,0))
theorem Pair.lt {w:World} {g:Nat} {t:TypeId} {u v:Value} (h:Pair w g t u v):g<w.heap.size:=by
 rcases Nat.lt_or_ge g w.heap.size with hlt|hge
 ·exact hlt
 ·rw[Pair,Array.getElem?_eq_none hge]at h;cases h
theorem Pair.new (w:World) (t:TypeId) (u v:Value):Pair (w.alloc (.cells #[u,v] t)) w.heap.size t u v:=heap_alloc_new w _
theorem Pair.below {w w':World} {g:Nat} {t:TypeId} {u v:Value} (h:Pair w g t u v) (hb:Below w.heap.size w w'):Pair w' g t u v:=(hb.block g h.lt).trans h
theorem Pair.kept {w w':World} {g:Nat} {t:TypeId} {u v:Value} {row:Option Nat} (h:Pair w g t u v) (hg:w.grownBy w' row) (hne:some g≠row):Pair w' g t u v:=(hg.block g h.lt hne).trans h
theorem Pair.alloc {w:World} {g:Nat} {t:TypeId} {u v:Value} (h:Pair w g t u v) (o:Obj):Pair (w.alloc o) g t u v:=(Below.heap_alloc w o g h.lt).trans h
theorem Pair.cell1 {w:World} {g:Nat} {t:TypeId} {u v:Value} (h:Pair w g t u v):w.cell? ⟨g,1,none⟩=some v:=by rw[cell_of_row w g 1 _ _ _ h];rfl
theorem belowAlloc (w:World) (o:Obj):Below w.heap.size w (w.alloc o):=(Below.refl _ _).alloc (Nat.le_refl _) _
theorem Tryd.infoD:(Tryd.prog.info? 34).map (·.size)=some 2:=by kernel_rfl
theorem apart_of {w1 w2:World} {b1 b2:Nat} {v0 v1:Value} {xs ys:List Int} (h:Own w1 b1 v0 xs) (k:Own w2 b2 v1 ys) (hb:w1.heap.size≤b2):apart v0 v1:=⟨h.apart k hb,h.apart' k hb⟩
theorem Tryd.underD:∃fs,Tryd.prog.underlying 34=some (.struct fs):=⟨_,Tryd.underlying34⟩
theorem Reads.one {w:World} {v:Value} {xs:List Int} (h:Reads w v xs):v.oneCell'=true:=by
 obtain⟨ao,cap,rfl,_⟩:=h;rfl
theorem pair_one {u v:Value} (hu:u.oneCell'=true) (hv:v.oneCell'=true):(#[u,v]:Array Value).all (·.oneCell')=true:=by simp[hu,hv]
theorem Pair.set1 {w:World} {g:Nat} {t:TypeId} {u v:Value} (h:Pair w g t u v) (x:Value):Pair (w.setCell ⟨g,1,none⟩ x) g t u x:=heap_setCell_same w g 1 _ _ x h
theorem Pair.other {w:World} {g:Nat} {t:TypeId} {u v:Value} (h:Pair w g t u v) (a:Addr) (x:Value) (hne:g≠a.block):Pair (w.setCell a x) g t u v:=(heap_setCell_other w a g x hne).trans h
theorem grownRow (w:World) (g:Nat) (cs:Array Value):w.grownBy (w.setRow g cs) (some g):=
 ⟨rfl,rfl,rfl,by simp,fun k _ hne=>_root_.Go.setRow_other w g k cs (fun e=>hne (by rw[e]))⟩
theorem wpList_putP {ops:Array Oper} {rest:List Oper} {o:Oper} {a:Act} {w:World} {Q:Exit→Act→World→Prop} (hgd:o.guard=none) (x y:Operand) (ho:o.op=.store 34 x y)
  (g:Nat) (u v u' v':Value) (hx:a.eval x=.pointer (some ⟨g,0,none⟩)) (hy:a.eval y=.agg #[u,v]) (hu:u.oneCell'=true) (hv:v.oneCell'=true) (hr:Pair w g 34 u' v')
  (h:∀w',Pair w' g 34 u v→w.grownBy w' (some g)→wpList Tryd.prog ops Q rest (a.put o.dst undef) w'):wpList Tryd.prog ops Q (o::rest) a w:=
 wpList_store_row hgd _ x y ho g #[u,v] hx hy _ _ hr Tryd.infoD rfl (pair_one hu hv) (h _ (setRow_heap w g _ _ _ _ hr) (grownRow w g _))
theorem results_pair2 {fn:Func} {p q:Tmp} (h:fn.results=#[.cell p 34,.tmp q]) (tmps:Array Value) (w:World) (g:Nat) (u v x:Value)
  (hp:tmps.getD p undef=.pointer (some ⟨g,0,none⟩)) (hx:tmps.getD q undef=x) (hr:Pair w g 34 u v):(results fn tmps).run Tryd.prog w=.ok (.tuple #[.agg #[u,v],x]) w:=by
 obtain⟨fs,hu⟩:=Tryd.underD
 rw[results_cell_tmp h,hp,hx]
 simp only[asAddr,Sem.run_pure,Result.andThen_ok]
 rw[run_loadVar_row w g _ _ _ _ _ hr hu rfl Tryd.infoD]
 rfl
theorem eqDisk_any (u v a b:Value) (xs ys:List Int) (w:World) (hu:Reads w u xs) (hv:Reads w v ys) (ha:Reads w a xs) (hb:Reads w b ys) (gx:xs.length≤1099511627776) (gy:ys.length≤1099511627776):
  Calls Tryd.prog 42 #[.agg #[u,v],.agg #[a,b]] w fun e w'=>e=.returned (.bool true)∧Below w.heap.size w w':=by
 obtain⟨w2,hw2⟩:∃w2,w2=(w.alloc (.cells #[u,v] 34)).alloc (.cells #[a,b] 34):=⟨_,rfl⟩
 have p0:Pair w2 w.heap.size 34 u v:=by rw[hw2];exact(Pair.new w _ u v).alloc _
 have p1:Pair w2 (w.heap.size+1) 34 a b:=by rw[hw2];have:=Pair.new (w.alloc (.cells #[u,v] 34)) 34 a b;simpa using this
 have b2:Below w.heap.size w w2:=by rw[hw2];exact((Below.refl _ _).alloc (Nat.le_refl _) _).alloc (by simp) _
 have c1:=eq_any u a xs xs w2 (hu.below b2 (Nat.le_refl _)) (ha.below b2 (Nat.le_refl _)) gx
 rw[show decide (xs=xs)=true by simp]at c1
 have c2:∀n,_:=fun n=>eq_any v b ys ys (w2.drewN n) (hv.below (below_drewN b2 n) (Nat.le_refl _)) (hb.below (below_drewN b2 n) (Nat.le_refl _)) gy
 rw[show decide (ys=ys)=true by simp]at c2
 clear hu hv ha hb gx gy
 go_enter Tryd.func42,Tryd.ntmps42
 go_wp2_with fail
 rw[←hw2]
 clear hw2
 refine c1.mono ?_
 rintro e w3 ⟨rfl,n3,hw3⟩
 have d0:=p0.cell1
 have d1:=p1.cell1
 have e0:w3.cell? ⟨w.heap.size,1,none⟩=some v:=by rw[hw3];exact d0
 have e1:w3.cell? ⟨w.heap.size+1,1,none⟩=some b:=by rw[hw3];exact d1
 replace c2:=c2 n3
 have HB:Hid (Below w.heap.size w w3):=by rw[hw3];exact below_drewN b2 n3
 rw[←hw3]at c2
 clear hw3 d0 d1 p0 p1 c1 b2
 go_wp2_with fail
 refine c2.mono ?_
 rintro e w4 ⟨rfl,n4,hw4⟩
 have HC:Hid (Below w.heap.size w w4):=by rw[hw4];exact below_drewN HB.out n4
 clear hw4 HB e0 e1 c2
 go_wp2_with fail
 go_ret
 exact⟨rfl,HC.out⟩
def Marked (w w':World) (u v:Value):Prop:=∃w1,w.grownBy w1 u.ownBlock∧w1.grownBy w' v.ownBlock
theorem Own.marked {w w':World} {base:Nat} {u v z:Value} {zs:List Int} (h:Own w base z zs) (m:Marked w w' u v) (hu:z.ownBlock=none∨z.ownBlock≠u.ownBlock) (hv:z.ownBlock=none∨z.ownBlock≠v.ownBlock):Own w' base z zs:=by
 obtain⟨w1,g1,g2⟩:=m
 exact(h.kept g1 hu).kept g2 hv
end Go.Proofs.YthmnmaemnihkeaaDoor
namespace Go.Proofs.YthmnmaemnihkeaaDoor
open Go.ChangeShapes Go.WideShapes Go.ChangeAt Go.RowKit
def Boxes (w wx:World) (u v:Value):Prop:=
 Pair wx w.heap.size 34 u v∧Pair wx (w.heap.size+1) 34 (.slice none 0 0) (.slice none 0 0)∧Below w.heap.size w wx∧w.heap.size+2≤wx.heap.size
theorem Boxes.below {w wx wy:World} {u v:Value} (h:Boxes w wx u v) (b:Below wx.heap.size wx wy):Boxes w wy u v:=
 ⟨h.1.below b,h.2.1.below b,h.2.2.1.trans (b.mono h.2.2.1.size),Nat.le_trans h.2.2.2 b.size⟩
theorem Boxes.drew {w wx:World} {u v:Value} (h:Boxes w wx u v):Boxes w wx.drew u v:=⟨h.1,h.2.1,below_drewN h.2.2.1 1,h.2.2.2⟩
theorem Boxes.done {w wx wy:World} {u v a b:Value} {xs ys:List Int} {base base':Nat} (h:Boxes w wx u v) (g:wx.grownBy wy (some (w.heap.size+1))) (oa:Own wx base a xs) (ob:Own wx base' b ys) (hb:w.heap.size+2≤base) (hb':w.heap.size+2≤base') (hap:apart a b):
  OwnD wy w.heap.size a b xs ys∧Below w.heap.size w wy:=
 ⟨⟨(oa.keptLt g (by omega)).mono (by omega),(ob.keptLt g (by omega)).mono (by omega),hap⟩,h.2.2.1.grown g h.2.2.1.size (fun k e=>by cases e;omega)⟩
theorem apart.symm {u v:Value} (h:apart u v):apart v u:=⟨h.2,h.1⟩
end Go.Proofs.YthmnmaemnihkeaaDoor
namespace Go.Proofs.YthmnmaemnihkeaaDoor
open Go.ChangeShapes Go.WideShapes Go.ChangeAt Go.RowKit
def StB (w:World) (g:Nat) (t:TypeId) (cs:Array Value):Prop:=w.heap[g]?=some (.cells cs t (0,0))
theorem StB.lt {w:World} {g:Nat} {t:TypeId} {cs:Array Value} (h:StB w g t cs):g<w.heap.size:=by
 rcases Nat.lt_or_ge g w.heap.size with hlt|hge
 ·exact hlt
 ·rw[StB,Array.getElem?_eq_none hge]at h;cases h
theorem StB.new (w:World) (t:TypeId) (cs:Array Value):StB (w.alloc (.cells cs t)) w.heap.size t cs:=heap_alloc_new w _
theorem StB.below {w w':World} {g:Nat} {t:TypeId} {cs:Array Value} (h:StB w g t cs) (hb:Below w.heap.size w w'):StB w' g t cs:=(hb.block g h.lt).trans h
theorem StB.kept {w w':World} {g:Nat} {t:TypeId} {cs:Array Value} {row:Option Nat} (h:StB w g t cs) (hg:w.grownBy w' row) (hne:some g≠row):StB w' g t cs:=(hg.block g h.lt hne).trans h
theorem StB.alloc {w:World} {g:Nat} {t:TypeId} {cs:Array Value} (h:StB w g t cs) (o:Obj):StB (w.alloc o) g t cs:=(Below.heap_alloc w o g h.lt).trans h
theorem StB.cell {w:World} {g:Nat} {t:TypeId} {cs:Array Value} (h:StB w g t cs) (j:Nat) {x:Value} (e:cs[j]?=some x):w.cell? ⟨g,j,none⟩=some x:=by rw[cell_of_row w g j _ _ _ h,e]
theorem StB.frozen {w:World} {g:Nat} {t:TypeId} {cs:Array Value} (h:StB w g t cs) (j:Nat):w.frozen? ⟨g,j,none⟩=false:=frozen_of_row w g j _ _ h
theorem StB.put {w:World} {g:Nat} {t:TypeId} {cs ds:Array Value} (h:StB w g t cs) (j:Nat) (x:Value) (e:cs.setIfInBounds j x=ds):StB (w.setCell ⟨g,j,none⟩ x) g t ds:=by
 have:=heap_setCell_same w g j _ _ x h
 rw[e]at this
 exact this
theorem StB.other {w:World} {g:Nat} {t:TypeId} {cs:Array Value} (h:StB w g t cs) (a:Addr) (x:Value) (hne:g≠a.block):StB (w.setCell a x) g t cs:=(heap_setCell_other w a g x hne).trans h
theorem grownRowS (w:World) (g:Nat) (cs:Array Value):w.grownBy (w.setRow g cs) (some g):=
 ⟨rfl,rfl,rfl,by simp,fun k _ hne=>_root_.Go.setRow_other w g k cs (fun e=>hne (by rw[e]))⟩
def IsS (t:TypeId) (n:Nat):Prop:=(∃fs,Tryd.prog.underlying t=some (.struct fs))∧(Tryd.prog.info? t).map (·.size)=some n
theorem wpList_getS {t:TypeId} {n:Nat} (hS:IsS t n) {ops:Array Oper} {rest:List Oper} {o:Oper} {a:Act} {w:World} {Q:Exit→Act→World→Prop} (hgd:o.guard=none) (x:Operand) (ho:o.op=.load t x)
  (g:Nat) (hx:a.eval x=.pointer (some ⟨g,0,none⟩)) (cs:Array Value) (hn:cs.size=n) (hr:StB w g t cs)
  (h:wpList Tryd.prog ops Q rest (a.put o.dst (.agg cs)) w):wpList Tryd.prog ops Q (o::rest) a w:=by
 obtain⟨⟨fs,hu⟩,hi⟩:=hS
 exact wpList_load_row hgd _ x ho g hx _ _ _ _ hr hu rfl (by rw[hi,hn]) h
theorem wpList_putS {t:TypeId} {n:Nat} (hS:IsS t n) {ops:Array Oper} {rest:List Oper} {o:Oper} {a:Act} {w:World} {Q:Exit→Act→World→Prop} (hgd:o.guard=none) (x y:Operand) (ho:o.op=.store t x y)
  (g:Nat) (cs ds:Array Value) (hx:a.eval x=.pointer (some ⟨g,0,none⟩)) (hy:a.eval y=.agg cs) (hn:cs.size=n) (hd:ds.size=n) (h1:cs.all (·.oneCell')=true) (hr:StB w g t ds)
  (h:∀w',StB w' g t cs→w.grownBy w' (some g)→wpList Tryd.prog ops Q rest (a.put o.dst undef) w'):wpList Tryd.prog ops Q (o::rest) a w:=
 wpList_store_row hgd _ x y ho g cs hx hy _ _ hr (by rw[hS.2,hn]) (by rw[hd,hn]) h1 (h _ (setRow_heap w g _ _ _ _ hr) (grownRowS w g _))
theorem load_S {t:TypeId} {n:Nat} (hS:IsS t n) (w:World) (g:Nat) (cs:Array Value) (hn:cs.size=n) (hr:StB w g t cs):(loadVar t ⟨g,0,none⟩).run Tryd.prog w=.ok (.agg cs) w:=by
 obtain⟨⟨fs,hu⟩,hi⟩:=hS
 exact run_loadVar_row w g _ _ _ _ _ hr hu rfl (by rw[hi,hn])
theorem results_S {t:TypeId} {n:Nat} (hS:IsS t n) {fn:Func} {p:Tmp} (h:fn.results=#[.cell p t]) (tmps:Array Value) (w:World) (g:Nat) (cs:Array Value) (hn:cs.size=n)
  (hp:tmps.getD p undef=.pointer (some ⟨g,0,none⟩)) (hr:StB w g t cs):(results fn tmps).run Tryd.prog w=.ok (.agg cs) w:=by
 obtain⟨⟨fs,hu⟩,hi⟩:=hS
 exact results_cell_row h tmps w g _ _ _ _ hp hr hu rfl (by rw[hi,hn])
theorem results_S2 {t:TypeId} {n:Nat} (hS:IsS t n) {fn:Func} {p q:Tmp} (h:fn.results=#[.cell p t,.tmp q]) (tmps:Array Value) (w:World) (g:Nat) (cs:Array Value) (x:Value) (hn:cs.size=n)
  (hp:tmps.getD p undef=.pointer (some ⟨g,0,none⟩)) (hx:tmps.getD q undef=x) (hr:StB w g t cs):(results fn tmps).run Tryd.prog w=.ok (.tuple #[.agg cs,x]) w:=by
 rw[results_cell_tmp h,hp,hx]
 simp only[asAddr,Sem.run_pure,Result.andThen_ok]
 rw[load_S hS w g cs hn hr]
 rfl
theorem reads_cells {w:World} {ao:Option Addr} {n cap:Nat} {xs:List Int} (h:Reads w (.slice ao n cap) xs):n=xs.length∧n≤cap∧cap≤maxLen∧∀j,j<n→∃b off,ao=some ⟨b,off,none⟩∧w.cell? ⟨b,off+j,none⟩=some (.int .i64 (xs.getD j 0)):=by
 obtain⟨ao',cap',e,hl,⟨hm, -⟩,hc⟩:=h
 simp only[Value.slice.injEq]at e
 obtain⟨rfl,rfl,rfl⟩:=e
 refine⟨rfl,hl,hm,fun j hj=>?_⟩
 rcases hc with rfl|⟨b,off,rfl,h4⟩
 ·simp at hj
 ·exact⟨b,off,rfl,h4 j hj⟩
theorem reads_form {w:World} {v:Value} {xs:List Int} (h:Reads w v xs):∃ao cap,v=.slice ao xs.length cap:=by
 obtain⟨ao,cap,e,_⟩:=h
 exact⟨ao,cap,e⟩
theorem reads_one {w:World} {v:Value} {xs:List Int} (h:Reads w v xs):v.oneCell'=true:=by
 obtain⟨ao,cap,rfl,_⟩:=h;rfl
end Go.Proofs.YthmnmaemnihkeaaDoor
