/- Disks, structs of two lists: what the laws' szDisk, toDisk, eqDisk, markDisk and heldDisk answer. -/
import Derived.Test.YthmnmaemnihkeaaGreatDoorM2
import Derived.Test.YthmnmaemnihkeaaGreatDoorM4
import Derived.Laws.Tables
import Derived.Laws.ResultCell
import Derived.Deep.RegionHeld3
import Derived.Deep.RegionWith
import Derived.WalkSpells
import Derived.Test.YthmnmaemnihkeaaGreatDoorM1
import Derived.Below
set_option maxRecDepth 20000
set_option maxHeartbeats 1000000
namespace Go.Proofs.YthmnmaemnihkeaaGreatDoor
open Go.ChangeShapes Go.WideShapes Go.ChangeAt Go.RowKit
def apart (u v:Value):Prop:=(u.ownBlock=none∨u.ownBlock≠v.ownBlock)∧(v.ownBlock=none∨v.ownBlock≠u.ownBlock)
def OwnD (w:World) (base:Nat) (u v:Value) (xs ys:List Int):Prop:=Own w base u xs∧Own w base v ys∧apart u v
def Pair (w:World) (g:Nat) (t:TypeId) (u v:Value):Prop:=w.heap[g]?=some (.cells #[u,v] t (0,0))
theorem Pair.lt {w:World} {g:Nat} {t:TypeId} {u v:Value} (h:Pair w g t u v):g<w.heap.size:=by
 rcases Nat.lt_or_ge g w.heap.size with hlt|hge
 ·exact hlt
 ·rw[Pair,Array.getElem?_eq_none hge]at h;cases h
theorem Pair.new (w:World) (t:TypeId) (u v:Value):Pair (w.alloc (.cells #[u,v] t)) w.heap.size t u v:=heap_alloc_new w _
theorem Pair.below {w w':World} {g:Nat} {t:TypeId} {u v:Value} (h:Pair w g t u v) (hb:Below w.heap.size w w'):Pair w' g t u v:=(hb.block g h.lt).trans h
theorem Pair.kept {w w':World} {g:Nat} {t:TypeId} {u v:Value} {row:Option Nat} (h:Pair w g t u v) (hg:w.grownBy w' row) (hne:some g≠row):Pair w' g t u v:=(hg.block g h.lt hne).trans h
theorem Pair.alloc {w:World} {g:Nat} {t:TypeId} {u v:Value} (h:Pair w g t u v) (o:Obj):Pair (w.alloc o) g t u v:=(Below.heap_alloc w o g h.lt).trans h
theorem Pair.cell0 {w:World} {g:Nat} {t:TypeId} {u v:Value} (h:Pair w g t u v):w.cell? ⟨g,0,none⟩=some u:=by rw[cell_of_row w g 0 _ _ _ h];rfl
theorem Pair.cell1 {w:World} {g:Nat} {t:TypeId} {u v:Value} (h:Pair w g t u v):w.cell? ⟨g,1,none⟩=some v:=by rw[cell_of_row w g 1 _ _ _ h];rfl
theorem Pair.frozen {w:World} {g:Nat} {t:TypeId} {u v:Value} (h:Pair w g t u v) (j:Nat):w.frozen? ⟨g,j,none⟩=false:=frozen_of_row w g j _ _ h
theorem grown_alloc (w:World) (o:Obj) (row:Option Nat):w.grownBy (w.alloc o) row:=⟨rfl,rfl,rfl,by simp,fun k hk _=>Below.heap_alloc w o k hk⟩
theorem belowAlloc (w:World) (o:Obj):Below w.heap.size w (w.alloc o):=(Below.refl _ _).alloc (Nat.le_refl _) _
theorem szDisk_any (u v:Value) (xs ys:List Int) (k:Int) (w:World) (h:Reads w u xs) (h':Reads w v ys) (h0:0≤k) (h1:k≤1048576):
  Calls Tryz.prog 61 #[.agg #[u,v],.int .i64 k] w fun e w'=>e=.returned (.int .i64 (szI k (xs.length+ys.length)))∧Below w.heap.size w w':=by
 have hb:=belowAlloc w (.cells #[u,v] 78)
 have c1:=sz_any u xs k _ (h.below hb (Nat.le_refl _)) h0 h1
 by_cases hx:(xs.length:Int)≤k
 ·have e1:szI k xs.length=k-xs.length:=by simp[szI,hx]
  have c2:=sz_any v ys (k-xs.length) _ (h'.below hb (Nat.le_refl _)) (by omega) (by omega)
  rw[e1]at c1
  by_cases hy:(ys.length:Int)≤k-xs.length
  ·have e2:szI (k-xs.length) ys.length=k-xs.length-ys.length:=by simp[szI,hy]
   have e3:Hid (szI k (xs.length+ys.length)=k-xs.length-ys.length):=by simp only[Hid,szI];rw[if_pos (by omega)];omega
   rw[e2]at c2
   clear e1 e2
   go_enter Tryz.func61,Tryz.ntmps61
   go_wp2_with fail
   refine c1.mono ?_
   rintro e w' ⟨rfl,hw⟩;subst w'
   go_wp2_with fail
   refine c2.mono ?_
   rintro e w' ⟨rfl,hw⟩;subst w'
   go_wp2_with fail
   go_ret
   exact⟨ret_int e3.out.symm,hb⟩
  ·have e2:szI (k-xs.length) ys.length= -1:=by simp[szI,hy]
   have e3:Hid (szI k (xs.length+ys.length)= -1):=by simp only[Hid,szI];rw[if_neg (by omega)]
   rw[e2]at c2
   clear e1 e2
   go_enter Tryz.func61,Tryz.ntmps61
   go_wp2_with fail
   refine c1.mono ?_
   rintro e w' ⟨rfl,hw⟩;subst w'
   go_wp2_with fail
   refine c2.mono ?_
   rintro e w' ⟨rfl,hw⟩;subst w'
   go_wp2_with fail
   go_ret
   exact⟨ret_int e3.out.symm,hb⟩
 ·have e1:szI k xs.length= -1:=by simp[szI,hx]
  have e3:Hid (szI k (xs.length+ys.length)= -1):=by simp only[Hid,szI];rw[if_neg (by omega)]
  rw[e1]at c1
  clear e1
  go_enter Tryz.func61,Tryz.ntmps61
  go_wp2_with fail
  refine c1.mono ?_
  rintro e w' ⟨rfl,hw⟩;subst w'
  go_wp2_with fail
  go_ret
  exact⟨ret_int e3.out.symm,hb⟩
theorem Tryz.infoD:(Tryz.prog.info? 30).map (·.size)=some 2:=by kernel_rfl
theorem apart_of {w1 w2:World} {b1 b2:Nat} {v0 v1:Value} {xs ys:List Int} (h:Own w1 b1 v0 xs) (k:Own w2 b2 v1 ys) (hb:w1.heap.size≤b2):apart v0 v1:=⟨h.apart k hb,h.apart' k hb⟩
theorem Tryz.underD:∃fs,Tryz.prog.underlying 30=some (.struct fs):=⟨_,Tryz.underlying30⟩
theorem Reads.one {w:World} {v:Value} {xs:List Int} (h:Reads w v xs):v.oneCell'=true:=by
 obtain⟨ao,cap,rfl,_⟩:=h;rfl
theorem pair_one {u v:Value} (hu:u.oneCell'=true) (hv:v.oneCell'=true):(#[u,v]:Array Value).all (·.oneCell')=true:=by simp[hu,hv]
theorem Pair.set0 {w:World} {g:Nat} {t:TypeId} {u v:Value} (h:Pair w g t u v) (x:Value):Pair (w.setCell ⟨g,0,none⟩ x) g t x v:=heap_setCell_same w g 0 _ _ x h
theorem Pair.set1 {w:World} {g:Nat} {t:TypeId} {u v:Value} (h:Pair w g t u v) (x:Value):Pair (w.setCell ⟨g,1,none⟩ x) g t u x:=heap_setCell_same w g 1 _ _ x h
theorem Pair.other {w:World} {g:Nat} {t:TypeId} {u v:Value} (h:Pair w g t u v) (a:Addr) (x:Value) (hne:g≠a.block):Pair (w.setCell a x) g t u v:=(heap_setCell_other w a g x hne).trans h
theorem grownRow (w:World) (g:Nat) (cs:Array Value):w.grownBy (w.setRow g cs) (some g):=
 ⟨rfl,rfl,rfl,by simp,fun k _ hne=>_root_.Go.setRow_other w g k cs (fun e=>hne (by rw[e]))⟩
theorem wpList_getP {ops:Array Oper} {rest:List Oper} {o:Oper} {a:Act} {w:World} {Q:Exit→Act→World→Prop} (hgd:o.guard=none) (x:Operand) (ho:o.op=.load 30 x)
  (g:Nat) (hx:a.eval x=.pointer (some ⟨g,0,none⟩)) (u v:Value) (hr:Pair w g 30 u v)
  (h:wpList Tryz.prog ops Q rest (a.put o.dst (.agg #[u,v])) w):wpList Tryz.prog ops Q (o::rest) a w:=by
 obtain⟨fs,hu⟩:=Tryz.underD
 exact wpList_load_row hgd _ x ho g hx _ _ _ _ hr hu rfl Tryz.infoD h
theorem wpList_putP {ops:Array Oper} {rest:List Oper} {o:Oper} {a:Act} {w:World} {Q:Exit→Act→World→Prop} (hgd:o.guard=none) (x y:Operand) (ho:o.op=.store 30 x y)
  (g:Nat) (u v u' v':Value) (hx:a.eval x=.pointer (some ⟨g,0,none⟩)) (hy:a.eval y=.agg #[u,v]) (hu:u.oneCell'=true) (hv:v.oneCell'=true) (hr:Pair w g 30 u' v')
  (h:∀w',Pair w' g 30 u v→w.grownBy w' (some g)→wpList Tryz.prog ops Q rest (a.put o.dst undef) w'):wpList Tryz.prog ops Q (o::rest) a w:=
 wpList_store_row hgd _ x y ho g #[u,v] hx hy _ _ hr Tryz.infoD rfl (pair_one hu hv) (h _ (setRow_heap w g _ _ _ _ hr) (grownRow w g _))
theorem results_pair {fn:Func} {p:Tmp} (h:fn.results=#[.cell p 30]) (tmps:Array Value) (w:World) (g:Nat) (u v:Value)
  (hp:tmps.getD p undef=.pointer (some ⟨g,0,none⟩)) (hr:Pair w g 30 u v):(results fn tmps).run Tryz.prog w=.ok (.agg #[u,v]) w:=by
 obtain⟨fs,hu⟩:=Tryz.underD
 exact results_cell_row h tmps w g _ _ _ _ hp hr hu rfl Tryz.infoD
theorem toDisk_any (u v:Value) (xs ys:List Int) (w:World) (h:Reads w u xs) (h':Reads w v ys) (gx:xs.length≤1099511627776) (gy:ys.length≤1099511627776):
  Calls Tryz.prog 77 #[.agg #[u,v]] w fun e w'=>∃a b,e=.returned (.agg #[a,b])∧OwnD w' w.heap.size a b xs ys∧Below w.heap.size w w':=by
 have HR:Hid (Reads w u xs∧Reads w v ys):=⟨h,h'⟩
 clear h h'
 obtain⟨w3,hw3⟩:∃w3,w3=((w.alloc (.cells #[u,v] 78)).alloc (.cells #[.slice none 0 0,.slice none 0 0] 30)).alloc (.cells #[.slice none 0 0,.slice none 0 0] 30):=⟨_,rfl⟩
 have p0:Pair w3 w.heap.size 78 u v:=by rw[hw3];exact((Pair.new w _ u v).alloc _).alloc _
 have p1:Pair w3 (w.heap.size+1) 30 (.slice none 0 0) (.slice none 0 0):=by rw[hw3];have:=(Pair.new (w.alloc (.cells #[u,v] 78)) 30 (.slice none 0 0) (.slice none 0 0)).alloc (.cells #[.slice none 0 0,.slice none 0 0] 30);simpa using this
 have p2:Pair w3 (w.heap.size+1+1) 30 (.slice none 0 0) (.slice none 0 0):=by rw[hw3];have:=Pair.new ((w.alloc (.cells #[u,v] 78)).alloc (.cells #[.slice none 0 0,.slice none 0 0] 30)) 30 (.slice none 0 0) (.slice none 0 0);simpa using this
 have b3:Below w.heap.size w w3:=by rw[hw3];exact(((Below.refl _ _).alloc (Nat.le_refl _) _).alloc (by simp) _).alloc (by simp;omega) _
 have hs3:w3.heap.size=w.heap.size+3:=by rw[hw3];simp
 go_enter Tryz.func77,Tryz.ntmps77
 go_wp2_with fail
 rw[←hw3]
 clear hw3
 refine(to_any u xs _ (HR.out.1.below b3 (Nat.le_refl _)) gx).mono ?_
 rintro e w4 ⟨a,rfl,o4,b4⟩
 have hs4:=b4.size
 replace p0:=p0.below b4
 replace p1:=p1.below b4
 replace p2:=p2.below b4
 replace b4:=b3.trans (b4.mono b3.size)
 obtain⟨ao,ca,hea⟩:=o4.reads.form
 have c2:=p2.cell0
 have f2:=p2.frozen 0
 have c1:=p0.cell1
 have q0:=p0.other ⟨w.heap.size+1+1,0,none⟩ a (by simp;omega)
 have q1:=p1.other ⟨w.heap.size+1+1,0,none⟩ a (by simp)
 have q2:=p2.set0 a
 have b5:Below w.heap.size w (w4.setCell ⟨w.heap.size+1+1,0,none⟩ a):=b4.setCell (by simp;omega) _
 have o5:=o4.setLt (g:=w.heap.size+1+1) (by omega) 0 a
 subst hea
 obtain⟨w5,hw5⟩:∃w5,w5=w4.setCell ⟨w.heap.size+1+1,0,none⟩ (.slice ao xs.length ca):=⟨_,rfl⟩
 have hs45:w5.heap.size=w4.heap.size:=by rw[hw5];simp
 rw[←hw5]at q0 q1 q2 b5 o5
 clear p0 p1 p2 o4 b3
 have hne:w.heap.size≠w.heap.size+1+1:=by omega
 go_wp2_with fail
 rw[←hw5]
 clear hw5 c1 c2 f2
 refine(to_any v ys _ (HR.out.2.below b5 (Nat.le_refl _)) gy).mono ?_
 rintro e w6 ⟨b,rfl,o6,b6⟩
 have hap:apart (.slice ao xs.length ca) b:=apart_of o5 o6 (Nat.le_refl _)
 replace q0:=q0.below b6
 replace q1:=q1.below b6
 replace q2:=q2.below b6
 replace o5:=o5.below b6
 have hs5:=b5.size
 replace b6:=b5.trans (b6.mono b5.size)
 replace o6:=o6.mono (show w3.heap.size≤w5.heap.size by omega)
 obtain⟨bo,cb,heb⟩:=o6.reads.form
 have c2:=q2.cell1
 have f2:=q2.frozen 1
 have r1:=q1.other ⟨w.heap.size+1+1,1,none⟩ b (by simp)
 have r2:=q2.set1 b
 have b7:Below w.heap.size w (w6.setCell ⟨w.heap.size+1+1,1,none⟩ b):=b6.setCell (by simp;omega) _
 replace o5:=o5.setLt (g:=w.heap.size+1+1) (by omega) 1 b
 have o7:=o6.setLt (g:=w.heap.size+1+1) (by omega) 1 b
 subst heb
 obtain⟨w7,hw7⟩:∃w7,w7=w6.setCell ⟨w.heap.size+1+1,1,none⟩ (.slice bo ys.length cb):=⟨_,rfl⟩
 rw[←hw7]at r1 r2 b7 o5 o7
 clear q0 q1 q2 o6 b5 b6
 go_wp2_with (first
  |(refine wpList_getP rfl _ rfl (w.heap.size+1+1) rfl _ _ (by rw[←hw7];exact r2) ?_)
  |(refine wpList_putP rfl _ _ rfl (w.heap.size+1) _ _ _ _ rfl rfl rfl rfl (by rw[←hw7];exact r1) ?_;rw[←hw7];intro w8 s1 g8))
 refine bodyPost_ret (results_pair rfl _ _ (w.heap.size+1) _ _ rfl s1) rfl ?_
 refine⟨_,_,rfl,⟨(o5.keptLt g8 (by omega)).mono (by omega),(o7.keptLt g8 (by omega)).mono (by omega),hap⟩,b7.grown g8 b7.size (fun k e=>by cases e;omega)⟩
theorem eqDisk_any (u v a b:Value) (xs ys:List Int) (w:World) (hu:Reads w u xs) (hv:Reads w v ys) (ha:Reads w a xs) (hb:Reads w b ys) (gx:xs.length≤1099511627776) (gy:ys.length≤1099511627776):
  Calls Tryz.prog 26 #[.agg #[u,v],.agg #[a,b]] w fun e w'=>e=.returned (.bool true)∧Below w.heap.size w w':=by
 obtain⟨w2,hw2⟩:∃w2,w2=(w.alloc (.cells #[u,v] 30)).alloc (.cells #[a,b] 30):=⟨_,rfl⟩
 have p0:Pair w2 w.heap.size 30 u v:=by rw[hw2];exact(Pair.new w _ u v).alloc _
 have p1:Pair w2 (w.heap.size+1) 30 a b:=by rw[hw2];have:=Pair.new (w.alloc (.cells #[u,v] 30)) 30 a b;simpa using this
 have b2:Below w.heap.size w w2:=by rw[hw2];exact((Below.refl _ _).alloc (Nat.le_refl _) _).alloc (by simp) _
 have c1:=eq_any u a xs xs w2 (hu.below b2 (Nat.le_refl _)) (ha.below b2 (Nat.le_refl _)) gx
 rw[show decide (xs=xs)=true by simp]at c1
 have c2:∀n,_:=fun n=>eq_any v b ys ys (w2.drewN n) (hv.below (below_drewN b2 n) (Nat.le_refl _)) (hb.below (below_drewN b2 n) (Nat.le_refl _)) gy
 rw[show decide (ys=ys)=true by simp]at c2
 clear hu hv ha hb gx gy
 go_enter Tryz.func26,Tryz.ntmps26
 go_wp2_with fail
 rw[←hw2]
 clear hw2
 refine c1.mono ?_
 rintro e w3 ⟨rfl,n3,hw3⟩
 have d0:=p0.cell1
 have d1:=p1.cell1
 have e0:w3.cell? ⟨w.heap.size,1,none⟩=some v:=by rw[hw3];exact d0
 have e1:w3.cell? ⟨w.heap.size+1,1,none⟩=some b:=by rw[hw3];exact d1
 replace c2:=c2 n3
 have HB:Hid (Below w.heap.size w w3):=by rw[hw3];exact below_drewN b2 n3
 rw[←hw3]at c2
 clear hw3 d0 d1 p0 p1 c1 b2
 go_wp2_with fail
 refine c2.mono ?_
 rintro e w4 ⟨rfl,n4,hw4⟩
 have HC:Hid (Below w.heap.size w w4):=by rw[hw4];exact below_drewN HB.out n4
 clear hw4 HB e0 e1 c2
 go_wp2_with fail
 go_ret
 exact⟨rfl,HC.out⟩
def Marked (w w':World) (u v:Value):Prop:=∃w1,w.grownBy w1 u.ownBlock∧w1.grownBy w' v.ownBlock
theorem Own.marked {w w':World} {base:Nat} {u v z:Value} {zs:List Int} (h:Own w base z zs) (m:Marked w w' u v) (hu:z.ownBlock=none∨z.ownBlock≠u.ownBlock) (hv:z.ownBlock=none∨z.ownBlock≠v.ownBlock):Own w' base z zs:=by
 obtain⟨w1,g1,g2⟩:=m
 exact(h.kept g1 hu).kept g2 hv
theorem markDisk_any (u v:Value) (xs ys:List Int) (k:Int) (w:World) (base:Nat) (ho:OwnD w base u v xs ys) (gx:xs.length≤1048576) (gy:ys.length≤1048576) (h0:0≤k) (h1:k≤1048576):
  Calls Tryz.prog 34 #[.agg #[u,v],.int .i64 k] w fun e w'=>e=.returned (.int .i64 (k+xs.length+ys.length))∧OwnD w' base u v (marks k xs.length) (marks (k+xs.length) ys.length)∧Marked w w' u v:=by
 obtain⟨ou,ov,ha⟩:=ho
 obtain⟨w1,hw1⟩:∃w1,w1=w.alloc (.cells #[u,v] 30):=⟨_,rfl⟩
 have p0:Pair w1 w.heap.size 30 u v:=by rw[hw1];exact Pair.new w _ u v
 have b1:Below w.heap.size w w1:=by rw[hw1];exact belowAlloc w _
 have g1:w.grownBy w1 u.ownBlock:=by rw[hw1];exact grown_alloc w _ _
 have hnu:some w.heap.size≠u.ownBlock:=by
  intro e
  have:=ou.lt _ e.symm
  omega
 replace ou:=ou.below b1
 replace ov:=ov.below b1
 go_enter Tryz.func34,Tryz.ntmps34
 go_wp2_with fail
 rw[←hw1]
 clear hw1 b1
 refine(mark_any u xs k w1 base ou (by omega) (by omega) (by omega)).mono ?_
 rintro e w2 ⟨rfl,ou2,g2⟩
 have e0:=(p0.kept g2 hnu).cell1
 have ov2:=ov.kept g2 ha.2
 have g12:=g1.trans g2
 clear p0 ou ov g1 g2
 go_wp2_with fail
 refine(mark_any v ys (k+xs.length) w2 base ov2 (by omega) (by omega) (by omega)).mono ?_
 rintro e w3 ⟨rfl,ov3,g3⟩
 have HC:Hid (OwnD w3 base u v (marks k xs.length) (marks (k+xs.length) ys.length)∧Marked w w3 u v):=⟨⟨ou2.kept g3 ha.1,ov3,ha⟩,_,g12,g3⟩
 clear ou2 ov2 ov3 g12 g3 e0
 go_wp2_with fail
 go_ret
 exact⟨rfl,HC.out⟩
theorem heldDisk_any (u v:Value) (n m:Nat) (k:Int) (w:World) (hu:Reads w u (marks k n)) (hv:Reads w v (marks (k+n) m)) (gx:n≤1048576) (gy:m≤1048576) (h0:0≤k) (h1:k≤1048576):
  Calls Tryz.prog 36 #[.agg #[u,v],.int .i64 k] w fun e w'=>e=.returned (.int .i64 (k+n+m))∧Below w.heap.size w w':=by
 have b1:Below w.heap.size w (w.alloc (.cells #[u,v] 30)):=belowAlloc w _
 have c1:=held_marks u n k _ (hu.below b1 (Nat.le_refl _)) (by omega) (by omega) (by omega)
 have c2:=held_marks v m (k+n) _ (hv.below b1 (Nat.le_refl _)) (by omega) (by omega) (by omega)
 clear hu hv
 go_enter Tryz.func36,Tryz.ntmps36
 go_wp2_with fail
 refine c1.mono ?_
 rintro e w' ⟨rfl,hw⟩;subst w'
 go_wp2_with fail
 refine c2.mono ?_
 rintro e w' ⟨rfl,hw⟩;subst w'
 go_wp2_with fail
 go_ret
 exact⟨rfl,b1⟩
end Go.Proofs.YthmnmaemnihkeaaGreatDoor
set_option maxRecDepth 20000
set_option maxHeartbeats 1000000
namespace Go.Proofs.YthmnmaemnihkeaaGreatDoor
open Go.ChangeShapes Go.WideShapes Go.ChangeAt Go.RowKit
def Boxes (w wx:World) (u v:Value):Prop:=
 Pair wx w.heap.size 30 u v∧Pair wx (w.heap.size+1) 30 (.slice none 0 0) (.slice none 0 0)∧Below w.heap.size w wx∧w.heap.size+2≤wx.heap.size
theorem Boxes.start (w:World) (u v:Value):Boxes w ((w.alloc (.cells #[u,v] 30)).alloc (.cells #[.slice none 0 0,.slice none 0 0] 30)) u v:=by
 refine⟨(Pair.new w _ u v).alloc _,?_,((Below.refl _ _).alloc (Nat.le_refl _) _).alloc (by simp) _,by simp⟩
 have:=Pair.new (w.alloc (.cells #[u,v] 30)) 30 (.slice none 0 0) (.slice none 0 0)
 simpa using this
theorem Boxes.below {w wx wy:World} {u v:Value} (h:Boxes w wx u v) (b:Below wx.heap.size wx wy):Boxes w wy u v:=
 ⟨h.1.below b,h.2.1.below b,h.2.2.1.trans (b.mono h.2.2.1.size),Nat.le_trans h.2.2.2 b.size⟩
theorem Boxes.drew {w wx:World} {u v:Value} (h:Boxes w wx u v):Boxes w wx.drew u v:=⟨h.1,h.2.1,below_drewN h.2.2.1 1,h.2.2.2⟩
theorem Boxes.done {w wx wy:World} {u v a b:Value} {xs ys:List Int} {base base':Nat} (h:Boxes w wx u v) (g:wx.grownBy wy (some (w.heap.size+1))) (oa:Own wx base a xs) (ob:Own wx base' b ys) (hb:w.heap.size+2≤base) (hb':w.heap.size+2≤base') (hap:apart a b):
  OwnD wy w.heap.size a b xs ys∧Below w.heap.size w wy:=
 ⟨⟨(oa.keptLt g (by omega)).mono (by omega),(ob.keptLt g (by omega)).mono (by omega),hap⟩,h.2.2.1.grown g h.2.2.1.size (fun k e=>by cases e;omega)⟩
theorem cell_set1 {w:World} {g j k:Nat} {x y:Value} (h:w.cell? ⟨g,j,none⟩=some x):(w.setCell ⟨g+1,k,none⟩ y).cell? ⟨g,j,none⟩=some x:=by
 rw[World.cell?_of_block (w:=w) (heap_setCell_other w ⟨g+1,k,none⟩ g y (by simp)),h]
theorem grown_two (w:World) (g:Nat) (x y:Value):w.grownBy ((w.setCell ⟨g,0,none⟩ x).setCell ⟨g,1,none⟩ y) (some g):=(grownSet w g 0 x).trans (grownSet _ g 1 y)
theorem apart.symm {u v:Value} (h:apart u v):apart v u:=⟨h.2,h.1⟩
theorem beq_cast (n m:Nat):((n:Int)==(m:Int))=decide (n=m):=by
 by_cases h:n=m
 ·subst h;simp
 ·have:(n:Int)≠m:=by omega
  simp[h,this]
theorem l3Copy_any (u v:Value) (xs ys:List Int) (w:World) (h:Reads w u xs) (h':Reads w v ys) (gx:xs.length≤1099511627776) (gy:ys.length≤1099511627776):
  Calls Tryz.prog 44 #[.agg #[u,v]] w fun e w'=>∃a b,e=.returned (.agg #[a,b])∧OwnD w' w.heap.size a b xs ys∧Below w.heap.size w w':=by
 have HR:Hid (Reads w u xs∧Reads w v ys):=⟨h,h'⟩
 clear h h'
 obtain⟨w2,hw2⟩:∃w2,w2=(w.alloc (.cells #[u,v] 30)).alloc (.cells #[.slice none 0 0,.slice none 0 0] 30):=⟨_,rfl⟩
 have HB:Hid (Boxes w w2 u v):=by rw[hw2];exact Boxes.start w u v
 have c0:=HB.out.1.cell0
 have c1:=HB.out.1.cell1
 go_enter Tryz.func44,Tryz.ntmps44
 go_wp2_with fail
 rw[←hw2]
 clear hw2
 have HB2:=HB.out.drew
 go_region_held3 (fun w'=>w'.cell? ⟨w.heap.size,0,none⟩=some u∧w'.cell? ⟨w.heap.size,1,none⟩=some v) (constructor<;>first|assumption|exact cell_set1 (cell_set1 (by assumption)))
  (first
   |(go_at_call_of 76 u;refine(copy_any u xs w2.drew (HR.out.1.below HB2.2.2.1 (Nat.le_refl _)) gx).mono ?_;rintro e w4 ⟨a,rfl,oa,ba⟩;have HB4:=HB2.below ba;have d0:=HB4.1.cell0;have d1:=HB4.1.cell1;obtain⟨ao,ca,hea⟩:=oa.reads.form;subst hea)
   |(go_at_call_of 76 v;refine(copy_any v ys w4 (HR.out.2.below HB4.2.2.1 (Nat.le_refl _)) gy).mono ?_;rintro e w5 ⟨b,rfl,ob,bb⟩;have hap:=apart_of oa ob (Nat.le_refl _);replace oa:=oa.below bb;have hs5:=ba.size;have HB5:=HB4.below bb;have e0:=HB5.1.cell0;have e1:=HB5.1.cell1;have e2:=HB5.2.1.cell0;have e3:=HB5.2.1.cell1;have f2:=HB5.2.1.frozen 0;have f3:=HB5.2.1.frozen 1;obtain⟨bo,cb,heb⟩:=ob.reads.form;subst heb))
 go_wp2_with fail
 refine bodyPost_ret (results_pair rfl _ _ (w.heap.size+1) _ _ rfl ((HB5.2.1.set0 _).set1 _)) rfl ?_
 exact⟨_,_,rfl,HB5.done (grown_two _ _ _ _) oa ob (HB2.2.2.2) (Nat.le_trans HB2.2.2.2 hs5) hap⟩
theorem sdiskOk_any (u v:Value) (xs ys:List Int) (w:World) (h:Reads w u xs) (h':Reads w v ys) (gx:xs.length≤1099511627776) (gy:ys.length≤1099511627776):
  Calls Tryz.prog 67 #[.agg #[u,v]] w fun e w'=>e=.returned (.bool (bothOk xs ys))∧Below w.heap.size w w':=by
 have b1:=belowAlloc w (.cells #[u,v] 30)
 have c1:=sok_any u xs _ (h.below b1 (Nat.le_refl _)) gx
 have c2:=sok_any v ys _ (h'.below b1 (Nat.le_refl _)) gy
 obtain⟨ao,ca,rfl⟩:=h.form
 obtain⟨bo,cb,rfl⟩:=h'.form
 have HB:Hid (Below w.heap.size w (w.alloc (.cells #[.slice ao xs.length ca,.slice bo ys.length cb] 30))):=b1
 clear h h' b1
 by_cases h1:blocksOk xs=true
 ·rw[h1]at c1
  by_cases h2:blocksOk ys=true
  ·rw[h2]at c2
   have HD:Hid (bothOk xs ys=decide (xs.length=ys.length)):=by simp[Hid,bothOk,h1,h2]
   obtain⟨n,hn⟩:∃n,n=xs.length:=⟨_,rfl⟩
   obtain⟨m,hm⟩:∃m,m=ys.length:=⟨_,rfl⟩
   rw[←hn]at c1 c2 HB HD⊢
   rw[←hm]at c1 c2 HB HD⊢
   clear h1 h2 gx gy hn hm
   go_enter Tryz.func67,Tryz.ntmps67
   go_wp2_with fail
   refine c1.mono ?_
   rintro e w' ⟨rfl,hw⟩;subst w'
   go_wp2_with fail
   refine c2.mono ?_
   rintro e w' ⟨rfl,hw⟩;subst w'
   go_wp2_with fail
   go_ret
   refine⟨ret_bool ?_,HB.out⟩
   rw[HD.out]
   exact beq_cast n m
  ·have h2':blocksOk ys=false:=by simpa using h2
   rw[h2']at c2
   have HD:Hid (bothOk xs ys=false):=by simp[Hid,bothOk,h2']
   obtain⟨n,hn⟩:∃n,n=xs.length:=⟨_,rfl⟩
   obtain⟨m,hm⟩:∃m,m=ys.length:=⟨_,rfl⟩
   rw[←hn]at c1 c2 HB⊢
   rw[←hm]at c1 c2 HB⊢
   clear h1 h2 h2' gx gy hn hm
   go_enter Tryz.func67,Tryz.ntmps67
   go_wp2_with fail
   refine c1.mono ?_
   rintro e w' ⟨rfl,hw⟩;subst w'
   go_wp2_with fail
   refine c2.mono ?_
   rintro e w' ⟨rfl,hw⟩;subst w'
   go_wp2_with fail
   go_ret
   exact⟨ret_bool HD.out.symm,HB.out⟩
 ·have h1':blocksOk xs=false:=by simpa using h1
  rw[h1']at c1
  have HD:Hid (bothOk xs ys=false):=by simp[Hid,bothOk,h1']
  obtain⟨n,hn⟩:∃n,n=xs.length:=⟨_,rfl⟩
  obtain⟨m,hm⟩:∃m,m=ys.length:=⟨_,rfl⟩
  rw[←hn]at c1 HB⊢
  rw[←hm]at c1 HB⊢
  clear h1 h1' gx gy hn hm c2
  go_enter Tryz.func67,Tryz.ntmps67
  go_wp2_with fail
  refine c1.mono ?_
  rintro e w' ⟨rfl,hw⟩;subst w'
  go_wp2_with fail
  go_ret
  exact⟨ret_bool HD.out.symm,HB.out⟩
end Go.Proofs.YthmnmaemnihkeaaGreatDoor
namespace Go.Proofs.YthmnmaemnihkeaaGreatDoor
open Go.ChangeShapes Go.WideShapes Go.ChangeAt Go.RowKit
def StB (w:World) (g:Nat) (t:TypeId) (cs:Array Value):Prop:=w.heap[g]?=some (.cells cs t (0,0))
theorem StB.lt {w:World} {g:Nat} {t:TypeId} {cs:Array Value} (h:StB w g t cs):g<w.heap.size:=by
 rcases Nat.lt_or_ge g w.heap.size with hlt|hge
 ·exact hlt
 ·rw[StB,Array.getElem?_eq_none hge]at h;cases h
theorem StB.new (w:World) (t:TypeId) (cs:Array Value):StB (w.alloc (.cells cs t)) w.heap.size t cs:=heap_alloc_new w _
theorem StB.below {w w':World} {g:Nat} {t:TypeId} {cs:Array Value} (h:StB w g t cs) (hb:Below w.heap.size w w'):StB w' g t cs:=(hb.block g h.lt).trans h
theorem StB.kept {w w':World} {g:Nat} {t:TypeId} {cs:Array Value} {row:Option Nat} (h:StB w g t cs) (hg:w.grownBy w' row) (hne:some g≠row):StB w' g t cs:=(hg.block g h.lt hne).trans h
theorem StB.alloc {w:World} {g:Nat} {t:TypeId} {cs:Array Value} (h:StB w g t cs) (o:Obj):StB (w.alloc o) g t cs:=(Below.heap_alloc w o g h.lt).trans h
theorem StB.cell {w:World} {g:Nat} {t:TypeId} {cs:Array Value} (h:StB w g t cs) (j:Nat) {x:Value} (e:cs[j]?=some x):w.cell? ⟨g,j,none⟩=some x:=by rw[cell_of_row w g j _ _ _ h,e]
theorem StB.frozen {w:World} {g:Nat} {t:TypeId} {cs:Array Value} (h:StB w g t cs) (j:Nat):w.frozen? ⟨g,j,none⟩=false:=frozen_of_row w g j _ _ h
theorem StB.put {w:World} {g:Nat} {t:TypeId} {cs ds:Array Value} (h:StB w g t cs) (j:Nat) (x:Value) (e:cs.setIfInBounds j x=ds):StB (w.setCell ⟨g,j,none⟩ x) g t ds:=by
 have:=heap_setCell_same w g j _ _ x h
 rw[e]at this
 exact this
theorem StB.other {w:World} {g:Nat} {t:TypeId} {cs:Array Value} (h:StB w g t cs) (a:Addr) (x:Value) (hne:g≠a.block):StB (w.setCell a x) g t cs:=(heap_setCell_other w a g x hne).trans h
theorem grownRowS (w:World) (g:Nat) (cs:Array Value):w.grownBy (w.setRow g cs) (some g):=
 ⟨rfl,rfl,rfl,by simp,fun k _ hne=>_root_.Go.setRow_other w g k cs (fun e=>hne (by rw[e]))⟩
def IsS (t:TypeId) (n:Nat):Prop:=(∃fs,Tryz.prog.underlying t=some (.struct fs))∧(Tryz.prog.info? t).map (·.size)=some n
theorem wpList_getS {t:TypeId} {n:Nat} (hS:IsS t n) {ops:Array Oper} {rest:List Oper} {o:Oper} {a:Act} {w:World} {Q:Exit→Act→World→Prop} (hgd:o.guard=none) (x:Operand) (ho:o.op=.load t x)
  (g:Nat) (hx:a.eval x=.pointer (some ⟨g,0,none⟩)) (cs:Array Value) (hn:cs.size=n) (hr:StB w g t cs)
  (h:wpList Tryz.prog ops Q rest (a.put o.dst (.agg cs)) w):wpList Tryz.prog ops Q (o::rest) a w:=by
 obtain⟨⟨fs,hu⟩,hi⟩:=hS
 exact wpList_load_row hgd _ x ho g hx _ _ _ _ hr hu rfl (by rw[hi,hn]) h
theorem wpList_putS {t:TypeId} {n:Nat} (hS:IsS t n) {ops:Array Oper} {rest:List Oper} {o:Oper} {a:Act} {w:World} {Q:Exit→Act→World→Prop} (hgd:o.guard=none) (x y:Operand) (ho:o.op=.store t x y)
  (g:Nat) (cs ds:Array Value) (hx:a.eval x=.pointer (some ⟨g,0,none⟩)) (hy:a.eval y=.agg cs) (hn:cs.size=n) (hd:ds.size=n) (h1:cs.all (·.oneCell')=true) (hr:StB w g t ds)
  (h:∀w',StB w' g t cs→w.grownBy w' (some g)→wpList Tryz.prog ops Q rest (a.put o.dst undef) w'):wpList Tryz.prog ops Q (o::rest) a w:=
 wpList_store_row hgd _ x y ho g cs hx hy _ _ hr (by rw[hS.2,hn]) (by rw[hd,hn]) h1 (h _ (setRow_heap w g _ _ _ _ hr) (grownRowS w g _))
theorem load_S {t:TypeId} {n:Nat} (hS:IsS t n) (w:World) (g:Nat) (cs:Array Value) (hn:cs.size=n) (hr:StB w g t cs):(loadVar t ⟨g,0,none⟩).run Tryz.prog w=.ok (.agg cs) w:=by
 obtain⟨⟨fs,hu⟩,hi⟩:=hS
 exact run_loadVar_row w g _ _ _ _ _ hr hu rfl (by rw[hi,hn])
theorem results_S {t:TypeId} {n:Nat} (hS:IsS t n) {fn:Func} {p:Tmp} (h:fn.results=#[.cell p t]) (tmps:Array Value) (w:World) (g:Nat) (cs:Array Value) (hn:cs.size=n)
  (hp:tmps.getD p undef=.pointer (some ⟨g,0,none⟩)) (hr:StB w g t cs):(results fn tmps).run Tryz.prog w=.ok (.agg cs) w:=by
 obtain⟨⟨fs,hu⟩,hi⟩:=hS
 exact results_cell_row h tmps w g _ _ _ _ hp hr hu rfl (by rw[hi,hn])
theorem results_S2 {t:TypeId} {n:Nat} (hS:IsS t n) {fn:Func} {p q:Tmp} (h:fn.results=#[.cell p t,.tmp q]) (tmps:Array Value) (w:World) (g:Nat) (cs:Array Value) (x:Value) (hn:cs.size=n)
  (hp:tmps.getD p undef=.pointer (some ⟨g,0,none⟩)) (hx:tmps.getD q undef=x) (hr:StB w g t cs):(results fn tmps).run Tryz.prog w=.ok (.tuple #[.agg cs,x]) w:=by
 rw[results_cell_tmp h,hp,hx]
 simp only[asAddr,Sem.run_pure,Result.andThen_ok]
 rw[load_S hS w g cs hn hr]
 rfl
theorem reads_cells {w:World} {ao:Option Addr} {n cap:Nat} {xs:List Int} (h:Reads w (.slice ao n cap) xs):n=xs.length∧n≤cap∧cap≤maxLen∧∀j,j<n→∃b off,ao=some ⟨b,off,none⟩∧w.cell? ⟨b,off+j,none⟩=some (.int .i64 (xs.getD j 0)):=by
 obtain⟨ao',cap',e,hl,⟨hm, -⟩,hc⟩:=h
 simp only[Value.slice.injEq]at e
 obtain⟨rfl,rfl,rfl⟩:=e
 refine⟨rfl,hl,hm,fun j hj=>?_⟩
 rcases hc with rfl|⟨b,off,rfl,h4⟩
 ·simp at hj
 ·exact⟨b,off,rfl,h4 j hj⟩
theorem reads_form {w:World} {v:Value} {xs:List Int} (h:Reads w v xs):∃ao cap,v=.slice ao xs.length cap:=by
 obtain⟨ao,cap,e,_⟩:=h
 exact⟨ao,cap,e⟩
theorem reads_one {w:World} {v:Value} {xs:List Int} (h:Reads w v xs):v.oneCell'=true:=by
 obtain⟨ao,cap,rfl,_⟩:=h;rfl
end Go.Proofs.YthmnmaemnihkeaaGreatDoor
set_option maxRecDepth 20000
set_option maxHeartbeats 400000
namespace Go.Proofs.YthmnmaemnihkeaaGreatDoor
open Go.ChangeShapes Go.WideShapes Go.ChangeAt Go.RowKit
theorem sin6_any (x lo hi:Int) (w:World):
  Calls Tryz.prog 66 #[.int .i64 x,.int .i64 lo,.int .i64 hi] w fun e w'=>e=.returned (.bool (inI x lo hi))∧w'=w:=by
 by_cases h0:lo≤x
 ·by_cases h1:x≤hi
  ·have he:inI x lo hi=true:=by simp[inI,h0,h1]
   rw[he]
   clear he
   go_enter Tryz.func66,Tryz.ntmps66
   go_wp2
   go_ret
   exact⟨ret_bool (by simp),rfl⟩
  ·have he:inI x lo hi=false:=by simp[inI,h1]
   rw[he]
   clear he
   go_enter Tryz.func66,Tryz.ntmps66
   go_wp2
   go_ret
   exact⟨ret_bool (by simp),rfl⟩
 ·have he:inI x lo hi=false:=by simp[inI,h0]
  rw[he]
  clear he
  go_enter Tryz.func66,Tryz.ntmps66
  go_wp2
  go_ret
  exact⟨ret_bool (by simp),rfl⟩
theorem s6key_any (x:Int) (w:World):
  Calls Tryz.prog 94 #[.int .i64 x] w fun e w'=>e=.returned (.bool (inI x 0 9999))∧w'=w:=by
 have c1:=sin6_any x 0 9999 w
 go_enter Tryz.func94,Tryz.ntmps94
 go_wp2_with fail
 refine c1.mono ?_
 rintro e w' ⟨rfl,hw⟩;subst w'
 clear c1
 go_wp2_with fail
 go_ret
 exact⟨rfl,rfl⟩
end Go.Proofs.YthmnmaemnihkeaaGreatDoor
set_option maxRecDepth 20000
set_option maxHeartbeats 400000
namespace Go.Proofs.YthmnmaemnihkeaaGreatDoor
open Go.ChangeShapes Go.WideShapes Go.ChangeAt Go.RowKit
theorem skind_any (k:Int) (w:World):
  Calls Tryz.prog 97 #[.int .i64 k] w fun e w'=>e=.returned (.bool (kiI k))∧w'=w:=by
 have c1:=sin6_any k 1 6 w
 unfold kiI
 go_enter Tryz.func97,Tryz.ntmps97
 go_wp2_with fail
 refine c1.mono ?_
 rintro e w' ⟨rfl,hw⟩;subst w'
 clear c1
 go_wp2_with fail
 go_ret
 exact⟨rfl,rfl⟩
theorem sall_any (k:Int) (w:World):
  Calls Tryz.prog 95 #[.int .i64 k] w fun e w'=>e=.returned (.bool (allI k))∧w'=w:=by
 by_cases h5:k=5
 ·subst h5
  go_enter Tryz.func95,Tryz.ntmps95
  go_wp2
  go_ret
  exact⟨rfl,rfl⟩
 ·by_cases h6:k=6
  ·subst h6
   go_enter Tryz.func95,Tryz.ntmps95
   go_wp2
   go_ret
   exact⟨rfl,rfl⟩
  ·have he:allI k=false:=by simp[allI,h5,h6]
   rw[he]
   clear he
   go_enter Tryz.func95,Tryz.ntmps95
   go_wp2
   go_ret
   exact⟨ret_bool (by simp[h5,h6]),rfl⟩
end Go.Proofs.YthmnmaemnihkeaaGreatDoor
