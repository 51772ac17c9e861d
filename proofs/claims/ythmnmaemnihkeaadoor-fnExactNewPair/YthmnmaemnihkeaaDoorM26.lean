/- What firstFrame of the program answers: what strings.Cut leaves, framed once more. -/
import Derived.Test.YthmnmaemnihkeaaDoorM25
import Derived.Test.YthmnmaemnihkeaaDoorM9
import Derived.Deep.RegionHeld3
import Derived.RangeFuncNested
import Derived.RangeFuncBox
import Derived.RangeFuncCalls
import Derived.RangeFuncLeaves
import Derived.Shelf.Abstract
import Derived.OwnWalkIn
import Derived.TacticsInMore
import Derived.LoopNIn
import Derived.LoopIn
import Derived.Maps.OwnIn
import Derived.RegionIn
import Derived.Test.YthmnmaemnihkeaaDoorM13
import Derived.Test.YthmnmaemnihkeaaDoorM10
import Derived.Shelf.RegionOpen
import Derived.Test.YthmnmaemnihkeaaDoorM24
import Derived.Test.YthmnmaemnihkeaaDoorM18
import Derived.Test.YthmnmaemnihkeaaDoorM16
import Derived.Test.YthmnmaemnihkeaaDoorM20
import Derived.Test.YthmnmaemnihkeaaDoorM23
import Derived.Test.YthmnmaemnihkeaaDoorM1
import Derived.Below
import Derived.Laws.Tables
import Derived.Laws.ResultCell
import Derived.Test.YthmnmaemnihkeaaDoorM3
import Derived.Test.YthmnmaemnihkeaaDoorM5
import Derived.Deep.DeepCutAuto
namespace Go.Proofs.YthmnmaemnihkeaaDoor
open Go.ChangeShapes Go.WideShapes Go.ChangeAt Go.RowKit
end Go.Proofs.YthmnmaemnihkeaaDoor
set_option maxRecDepth 20000
set_option maxHeartbeats 1000000
namespace Go.Proofs.YthmnmaemnihkeaaDoor
open Go.ChangeShapes Go.WideShapes Go.ChangeAt Go.RowKit
attribute [local go_sem] Oper.semAt_some
def Keep (Bn n0:Nat) (W W':World):Prop:=(∀v,W.cell? ⟨Bn,0,none⟩=some v→W'.cell? ⟨Bn,0,none⟩=some v)∧Below n0 W W'
theorem Keep.trans {Bn n0:Nat} {A B C:World} (h:Keep Bn n0 A B) (k:Keep Bn n0 B C):Keep Bn n0 A C:=⟨fun v hv=>k.1 v (h.1 v hv),h.2.trans k.2⟩
theorem iclone_any (l:Bs) (w:World) (hl:l.length≤1048576):
  Calls Tryd.prog 41 #[S l] w fun e w'=>e=.returned (S l)∧Below w.heap.size w w':=by
 have hsz:(⟨l.toArray⟩:ByteArray).size=l.length:=rfl
 have c0:=Tryd.stringslite_Clone ⟨l.toArray⟩ w (by omega)
 unfold S
 go_enter Tryd.func41,Tryd.ntmps41
 go_wp2_with fail
 refine c0.mono ?_
 rintro e w1 ⟨rfl,b1⟩
 clear c0
 go_wp2_with fail
 go_ret
 exact⟨rfl,b1⟩
end Go.Proofs.YthmnmaemnihkeaaDoor
namespace Go.Proofs.YthmnmaemnihkeaaDoor
open Go.ChangeShapes Go.WideShapes Go.ChangeAt Go.RowKit
attribute [local go_sem] Oper.semAt_some
end Go.Proofs.YthmnmaemnihkeaaDoor
namespace Go.Proofs.YthmnmaemnihkeaaDoor
open Go.ChangeShapes Go.WideShapes Go.ChangeAt Go.RowKit
end Go.Proofs.YthmnmaemnihkeaaDoor
namespace Go.Proofs.YthmnmaemnihkeaaDoor
open Go.ChangeShapes Go.WideShapes Go.ChangeAt Go.RowKit
def CutInv (c:UInt8) (l:Bs) (k:Nat) (out:List Bs) (s:Bs):Prop:=out.length≤k∧splitN c k l=out++splitN c (k-out.length) s
theorem CutInv.next {c:UInt8} {l s:Bs} {k:Nat} {out:List Bs} (h:CutInv c l k out s) (hk:out.length<k) (hp:posB c s≠s.length):CutInv c l k (out++[before c s]) (behind c s):=by
 refine⟨by simp;omega,?_⟩
 rw[h.2,show k-out.length=(k-(out++[before c s]).length)+1 by simp;omega,splitN,posC_is,if_neg hp]
 simp[before,behind]
end Go.Proofs.YthmnmaemnihkeaaDoor
namespace Go.Proofs.YthmnmaemnihkeaaDoor
open Go.ChangeShapes Go.WideShapes Go.ChangeAt Go.RowKit
def row4 (f:Nat→Int):Array Value:=#[.int .i64 (f 0),.int .i64 (f 1),.int .i64 (f 2),.int .i64 (f 3)]
def Row4 (w:World) (g:Nat) (f:Nat→Int):Prop:=w.heap[g]?=some (.cells (row4 f) 88 (0,0))
def upd4 (f:Nat→Int) (j:Nat) (x:Int):Nat→Int:=fun k=>if k=j then x else f k
theorem fours {p:Nat→Prop} (h0:p 0) (h1:p 1) (h2:p 2) (h3:p 3):∀j,j<4→p j
 |0,_=>h0|1,_=>h1|2,_=>h2|3,_=>h3
 |_+4,h=>by omega
theorem row4_at (f:Nat→Int):∀j,j<4→(row4 f)[j]?=some (.int .i64 (f j)):=fours rfl rfl rfl rfl
theorem row4_set (f:Nat→Int) (x:Int):∀j,j<4→(row4 f).setIfInBounds j (.int .i64 x)=row4 (upd4 f j x):=fours rfl rfl rfl rfl
theorem Row4.cell {w:World} {g:Nat} {f:Nat→Int} (h:Row4 w g f) (j:Nat) (hj:j<4):w.cell? ⟨g,j,none⟩=some (.int .i64 (f j)):=by
 rw[cell_of_row w g j _ _ _ h,row4_at f j hj]
theorem Row4.new (w:World) (f:Nat→Int):Row4 (w.alloc (.cells (row4 f) 88)) w.heap.size f:=heap_alloc_new w _
theorem Row4.setCell {w:World} {g:Nat} {f:Nat→Int} (h:Row4 w g f) (j:Nat) (hj:j<4) (x:Int):Row4 (w.setCell ⟨g,j,none⟩ (.int .i64 x)) g (upd4 f j x):=by
 have:=heap_setCell_same w g j _ _ (.int .i64 x) h
 rw[row4_set f x j hj]at this
 exact this
end Go.Proofs.YthmnmaemnihkeaaDoor
namespace Go.Proofs.YthmnmaemnihkeaaDoor
open Go.ChangeShapes Go.WideShapes Go.ChangeAt Go.RowKit
attribute [local go_sem] Oper.semAt_some
end Go.Proofs.YthmnmaemnihkeaaDoor
namespace Go.Proofs.YthmnmaemnihkeaaDoor
open Go.ChangeShapes Go.WideShapes Go.ChangeAt Go.RowKit
end Go.Proofs.YthmnmaemnihkeaaDoor
namespace Go.Proofs.YthmnmaemnihkeaaDoor
open Go.ChangeShapes Go.WideShapes Go.ChangeAt Go.RowKit
end Go.Proofs.YthmnmaemnihkeaaDoor
namespace Go.Proofs.YthmnmaemnihkeaaDoor
open Go.ChangeShapes Go.WideShapes Go.ChangeAt Go.RowKit
def Fine (m:Nd):Prop:=m=Nd.zero∨NdR m
theorem NdR.lens {n:Nd} (h:NdR n):n.xs.length≤8∧n.ys.length≤8∧n.h.ks.length=4∧n.c.ts.length≤8∧n.s.ts.length≤8∧n.log.length≤40000:=by
 obtain⟨k1,k2,k3⟩:=bothOk_yes h.dk
 refine⟨(blocksOk_len k1).2,(blocksOk_len k2).2,Hd.ok_len h.h,?_,?_,h.ll⟩
 ·cases hc:n.c.unused with
  |true=>
   unfold Cp.unused at hc
   simp only[Bool.and_eq_true,decide_eq_true_eq]at hc
   omega
  |false=>
   have:=h.c
   rw[Cp.ok_used hc]at this
   simp only[Bool.and_eq_true,inI,decide_eq_true_eq]at this
   omega
 ·cases hc:n.s.unused with
  |true=>
   unfold Sn.unused at hc
   simp only[Bool.and_eq_true,decide_eq_true_eq]at hc
   omega
  |false=>
   have:=h.s
   rw[Sn.ok_used hc]at this
   simp only[Bool.and_eq_true,inI,decide_eq_true_eq]at this
   omega
theorem Fine.sm {m:Nd} (h:Fine m):SmN m:=by
 rcases h with rfl|h
 ·exact⟨by decide,by decide,by decide,by decide,by decide,by decide⟩
 ·have:=h.lens
  exact⟨by omega,by omega,by omega,by omega,by omega,by omega⟩
theorem Fine.len {m:Nd} (h:Fine m):m.len≤1048576:=by
 rcases h with rfl|h
 ·decide
 ·have:=h.lens
  unfold Nd.len
  omega
theorem Fine.rise (n:Nd):Fine n.Rise.1:=by
 unfold Nd.Rise
 split
 ·rename_i ok
  exact .inr ((Nd.ok_iff n).1 ok).rise.1
 ·exact .inl rfl
theorem SmN.of {n:Nd} (h:n.len+n.log.length≤1048576):SmN n:=by
 unfold Nd.len at h
 exact⟨by omega,by omega,by omega,by omega,by omega,by omega⟩
theorem Sta.varS {w wx wy:World} {L:List Item} {t:TypeId} {cs ds:Array Value} (h:Sta w wx L) (s:StB wy wx.heap.size t cs) (G:(wx.alloc (.cells ds t)).grownBy wy (some wx.heap.size)):Sta w wy (Blk wx.heap.size t cs::L):=by
 have b:Below wx.heap.size wx wy:=((Below.refl _ _).alloc (Nat.le_refl _) _).grown G (by simp) (fun k e=>by cases e;omega)
 refine h.add b (Blk wx.heap.size t cs) s (fun k hk=>?_)
 simp only[Blk,List.mem_singleton]at hk
 subst hk
 exact⟨Nat.le_refl _,s.lt⟩
end Go.Proofs.YthmnmaemnihkeaaDoor
namespace Go.Proofs.YthmnmaemnihkeaaDoor
open Go.ChangeShapes Go.WideShapes Go.ChangeAt Go.RowKit
def cmA (c:Cm):Array Value:=#[.int .i64 c.o,.int .i64 c.p,.int .i64 c.a,.int .i64 c.b,.int .i64 c.k]
def CmB (w:World) (g:Nat) (t:TypeId) (c:Cm):Prop:=w.heap[g]?=some (.cells (cmA c) t (0,0))
theorem CmB.lt {w:World} {g:Nat} {t:TypeId} {c:Cm} (h:CmB w g t c):g<w.heap.size:=by
 rcases Nat.lt_or_ge g w.heap.size with hlt|hge
 ·exact hlt
 ·rw[CmB,Array.getElem?_eq_none hge]at h;cases h
theorem CmB.new (w:World) (t:TypeId) (c:Cm):CmB (w.alloc (.cells (cmA c) t)) w.heap.size t c:=heap_alloc_new w _
theorem CmB.below {w w':World} {g:Nat} {t:TypeId} {c:Cm} (h:CmB w g t c) (hb:Below w.heap.size w w'):CmB w' g t c:=(hb.block g h.lt).trans h
theorem CmB.kept {w w':World} {g:Nat} {t:TypeId} {c:Cm} {row:Option Nat} (h:CmB w g t c) (hg:w.grownBy w' row) (hne:some g≠row):CmB w' g t c:=(hg.block g h.lt hne).trans h
theorem CmB.alloc {w:World} {g:Nat} {t:TypeId} {c:Cm} (h:CmB w g t c) (o:Obj):CmB (w.alloc o) g t c:=(Below.heap_alloc w o g h.lt).trans h
theorem CmB.cell {w:World} {g:Nat} {t:TypeId} {c:Cm} (h:CmB w g t c) (j:Nat) {x:Value} (e:(cmA c)[j]?=some x):w.cell? ⟨g,j,none⟩=some x:=by rw[cell_of_row w g j _ _ _ h,e]
end Go.Proofs.YthmnmaemnihkeaaDoor
namespace Go.Proofs.YthmnmaemnihkeaaDoor
open Go.ChangeShapes Go.WideShapes Go.ChangeAt Go.RowKit
structure Vl (w wx:World) (u v:Value) (c:Cm) (d:Array Value) (x:An):Prop where
 dk:StB wx w.heap.size 34 #[u,v]
 cm:CmB wx (w.heap.size+1) 140 c
 rd:StB wx (w.heap.size+1+1) 34 d
 ra:StB wx (w.heap.size+1+1+1) 69 (anA x)
 bl:Below w.heap.size w wx
 sz:w.heap.size+4≤wx.heap.size
theorem Vl.next {w wx wy:World} {u v:Value} {c:Cm} {d:Array Value} {x:An} (h:Vl w wx u v c d x) (b:Below wx.heap.size wx wy):Vl w wy u v c d x:=
 ⟨h.dk.below b,h.cm.below b,h.rd.below b,h.ra.below b,h.bl.trans (b.mono h.bl.size),Nat.le_trans h.sz b.size⟩
theorem Vl.grown {w wx wy:World} {u v:Value} {c:Cm} {d:Array Value} {x:An} {g:Nat} (h:Vl w wx u v c d x) (b:wx.grownBy wy (some g)) (hg:w.heap.size+4≤g):Vl w wy u v c d x:=
 ⟨h.dk.kept b (by simp;omega),h.cm.kept b (by simp;omega),h.rd.kept b (by simp;omega),h.ra.kept b (by simp;omega),h.bl.grown b h.bl.size (fun k e=>by cases e;omega),Nat.le_trans h.sz b.size⟩
theorem Vl.drew {w wx:World} {u v:Value} {c:Cm} {d:Array Value} {x:An} (h:Vl w wx u v c d x):Vl w wx.drew u v c d x:=
 ⟨h.dk,h.cm,h.rd,h.ra,h.bl.drew,h.sz⟩
end Go.Proofs.YthmnmaemnihkeaaDoor
set_option maxRecDepth 20000
set_option maxHeartbeats 1000000
namespace Go.Proofs.YthmnmaemnihkeaaDoor
open Go.ChangeShapes Go.WideShapes Go.ChangeAt Go.RowKit
theorem eqAnswer_self (x:An) (w:World):
  Calls Tryd.prog 47 #[AV x,AV x] w fun e w'=>e=.returned (.bool true)∧Below w.heap.size w w':=by
 obtain⟨st,tx⟩:=x
 have hb:Hid (Below w.heap.size w ((w.alloc (.cells (anA ⟨st,tx⟩) 69)).alloc (.cells (anA ⟨st,tx⟩) 69))):=((Below.refl _ _).alloc (Nat.le_refl _) _).alloc (by simp) _
 have e1:(st !=st)=false:=by simp
 have e2:(tx==tx)=true:=by simp
 unfold AV anA S at*
 dsimp only at*
 go_enter Tryd.func47,Tryd.ntmps47
 go_wp2
 go_ret
 exact⟨rfl,hb.out⟩
end Go.Proofs.YthmnmaemnihkeaaDoor
