/- The model's posts: PostOk, l16CopyMsg, l16Copy, l16Without. -/
import Derived.Test.YthmnmaemnihkeaaDoorM16
import Derived.Test.YthmnmaemnihkeaaDoorM15
import Derived.Test.YthmnmaemnihkeaaDoorM6
import Derived.Test.YthmnmaemnihkeaaDoorM14
import Derived.Deep.DeepCutAuto
import Derived.Test.YthmnmaemnihkeaaDoorM5
import Derived.Test.YthmnmaemnihkeaaDoorM4
import Derived.Laws.Tables
import Derived.Laws.ResultCell
import Derived.ChangeKeysEq
import Derived.BigRegion
namespace Go.Proofs.YthmnmaemnihkeaaDoor
open Go.ChangeShapes Go.WideShapes Go.ChangeAt Go.RowKit
structure MgBx (w wx:World) (v:Value) (m:Mg):Prop where
 p0:StB wx w.heap.size 66 (mgA v m)
 q0:StB wx (w.heap.size+1) 66 zeroMg
 bl:Below w.heap.size w wx
 sz:w.heap.size+2≤wx.heap.size
 rd:Reads wx v m.h.ks
theorem MgBx.next {w wx wy:World} {v:Value} {m:Mg} (d:MgBx w wx v m) (b:Below wx.heap.size wx wy):MgBx w wy v m:=
 ⟨d.p0.below b,d.q0.below b,d.bl.trans (b.mono d.bl.size),Nat.le_trans d.sz b.size,d.rd.below b (Nat.le_refl _)⟩
theorem mg_hold {w:World} {g:Nat} {t:TypeId} {v:Value} {m:Mg} (h:StB w g t (mgA v m)):∀i,i<4→w.cell? ⟨g,7+i,none⟩=(hdA v m.h)[i]?:=by
 intro i hi
 rw[cell_of_row w g (7+i) _ _ _ h]
 match i,hi with
 |0,_=>rfl
 |1,_=>rfl
 |2,_=>rfl
 |3,_=>rfl
end Go.Proofs.YthmnmaemnihkeaaDoor
namespace Go.Proofs.YthmnmaemnihkeaaDoor
open Go.ChangeShapes Go.WideShapes Go.ChangeAt Go.RowKit
theorem Tryd.isR:IsS 60 6:=⟨⟨_,Tryd.underlying60⟩,by kernel_rfl⟩
def OwnR (w:World) (base:Nat) (a b k:Value) (xs ys ks:List Int):Prop:=OwnD w base a b xs ys∧Own w base k ks∧apart a k∧apart b k
def zeR:Array Value:=#[.slice none 0 0,.slice none 0 0,.slice none 0 0,.int .i64 0,.int .i64 0,.int .i64 0]
theorem srA_one {a b k:Value} (h:Hd) (ha:a.oneCell'=true) (hb:b.oneCell'=true) (hk:k.oneCell'=true):(srA a b k h).all (·.oneCell')=true:=by
 unfold srA
 simp[ha,hb,hk,show∀k n,(Value.int k n).oneCell'=true from fun _ _=>rfl]
theorem OwnR.below {w w':World} {base:Nat} {a b k:Value} {xs ys ks:List Int} (h:OwnR w base a b k xs ys ks) (e:Below w.heap.size w w'):OwnR w' base a b k xs ys ks:=
 ⟨⟨h.1.1.below e,h.1.2.1.below e,h.1.2.2⟩,h.2.1.below e,h.2.2⟩
theorem OwnR.mono {w:World} {base base':Nat} {a b k:Value} {xs ys ks:List Int} (h:OwnR w base a b k xs ys ks) (e:base'≤base):OwnR w base' a b k xs ys ks:=
 ⟨⟨h.1.1.mono e,h.1.2.1.mono e,h.1.2.2⟩,h.2.1.mono e,h.2.2⟩
theorem OwnR.keptLt {w w':World} {base g:Nat} {a b k:Value} {xs ys ks:List Int} (h:OwnR w base a b k xs ys ks) (e:w.grownBy w' (some g)) (hg:g<base):OwnR w' base a b k xs ys ks:=
 ⟨⟨h.1.1.keptLt e hg,h.1.2.1.keptLt e hg,h.1.2.2⟩,h.2.1.keptLt e hg,h.2.2⟩
theorem OwnR.nil (w:World) (base:Nat):OwnR w base (.slice none 0 0) (.slice none 0 0) (.slice none 0 0) [] [] []:=
 ⟨⟨Own.nil w base,Own.nil w base,⟨.inl rfl,.inl rfl⟩⟩,Own.nil w base,⟨.inl rfl,.inl rfl⟩,⟨.inl rfl,.inl rfl⟩⟩
end Go.Proofs.YthmnmaemnihkeaaDoor
namespace Go.Proofs.YthmnmaemnihkeaaDoor
open Go.ChangeShapes Go.WideShapes Go.ChangeAt Go.RowKit
end Go.Proofs.YthmnmaemnihkeaaDoor
set_option maxRecDepth 20000
set_option maxHeartbeats 400000
namespace Go.Proofs.YthmnmaemnihkeaaDoor
open Go.ChangeShapes Go.WideShapes Go.ChangeAt Go.RowKit
def rowA (f:Nat→Int):Array Value:=#[.int .i64 (f 0),.int .i64 (f 1),.int .i64 (f 2),.int .i64 (f 3),.int .i64 (f 4),.int .i64 (f 5),.int .i64 (f 6),.int .i64 (f 7)]
def upd (f:Nat→Int) (j:Nat) (x:Int):Nat→Int:=fun k=>if k=j then x else f k
def Row (w:World) (g:Nat) (f:Nat→Int):Prop:=w.heap[g]?=some (.cells (rowA f) 96 (0,0))
theorem eight {p:Nat→Prop} (h0:p 0) (h1:p 1) (h2:p 2) (h3:p 3) (h4:p 4) (h5:p 5) (h6:p 6) (h7:p 7):∀j,j<8→p j
 |0,_=>h0|1,_=>h1|2,_=>h2|3,_=>h3|4,_=>h4|5,_=>h5|6,_=>h6|7,_=>h7
 |_+8,h=>by omega
theorem rowA_at (f:Nat→Int):∀j,j<8→(rowA f)[j]?=some (.int .i64 (f j)):=eight rfl rfl rfl rfl rfl rfl rfl rfl
theorem rowA_set (f:Nat→Int) (x:Int):∀j,j<8→(rowA f).setIfInBounds j (.int .i64 x)=rowA (upd f j x):=eight rfl rfl rfl rfl rfl rfl rfl rfl
theorem rowA_congr {f g:Nat→Int} (h:∀j,j<8→f j=g j):rowA f=rowA g:=by
 simp[rowA,h 0,h 1,h 2,h 3,h 4,h 5,h 6,h 7]
theorem Row.cell {w:World} {g:Nat} {f:Nat→Int} (h:Row w g f) (j:Nat) (hj:j<8):w.cell? ⟨g,j,none⟩=some (.int .i64 (f j)):=by
 rw[cell_of_row w g j _ _ _ h,rowA_at f j hj]
theorem Row.lt {w:World} {g:Nat} {f:Nat→Int} (h:Row w g f):g<w.heap.size:=by
 rcases Nat.lt_or_ge g w.heap.size with hlt|hge
 ·exact hlt
 ·rw[Row,Array.getElem?_eq_none hge]at h;cases h
theorem Row.below {w w':World} {g:Nat} {f:Nat→Int} (h:Row w g f) (hb:Below w.heap.size w w'):Row w' g f:=(hb.block g h.lt).trans h
theorem Row.alloc {w:World} {g:Nat} {f:Nat→Int} (h:Row w g f) (o:Obj):Row (w.alloc o) g f:=(Below.heap_alloc w o g h.lt).trans h
theorem Row.new (w:World) (f:Nat→Int):Row (w.alloc (.cells (rowA f) 96)) w.heap.size f:=heap_alloc_new w _
theorem Row.setCell {w:World} {g:Nat} {f:Nat→Int} (h:Row w g f) (j:Nat) (hj:j<8) (x:Int):Row (w.setCell ⟨g,j,none⟩ (.int .i64 x)) g (upd f j x):=by
 have:=heap_setCell_same w g j _ _ (.int .i64 x) h
 rw[rowA_set f x j hj]at this
 exact this
theorem Row.other {w:World} {g:Nat} {f:Nat→Int} (h:Row w g f) (a:Addr) (v:Value) (hne:g≠a.block):Row (w.setCell a v) g f:=(heap_setCell_other w a g v hne).trans h
theorem Row.kept {w w':World} {g:Nat} {f:Nat→Int} {row:Option Nat} (h:Row w g f) (hg:w.grownBy w' row) (hne:some g≠row):Row w' g f:=(hg.block g h.lt hne).trans h
theorem cnt_any (x:Int) (w:World):
  Calls Tryd.prog 52 #[.int .i64 x] w fun e w'=>e=.returned (.bool (cntOk x))∧w'=w:=by
 by_cases h0:1≤x
 ·by_cases h1:x≤8
  ·rw[cntOk_yes h0 h1]
   go_enter Tryd.func52,Tryd.ntmps52
   go_wp2
   go_ret
   exact⟨ret_bool (by simp),rfl⟩
  ·rw[cntOk_no (by omega)]
   go_enter Tryd.func52,Tryd.ntmps52
   go_wp2
   go_ret
   exact⟨ret_bool (by simp),rfl⟩
 ·rw[cntOk_no (by omega)]
  go_enter Tryd.func52,Tryd.ntmps52
  go_wp2
  go_ret
  exact⟨ret_bool (by simp),rfl⟩
end Go.Proofs.YthmnmaemnihkeaaDoor
namespace Go.Proofs.YthmnmaemnihkeaaDoor
open Go.ChangeShapes Go.WideShapes Go.ChangeAt Go.RowKit
end Go.Proofs.YthmnmaemnihkeaaDoor
set_option maxRecDepth 20000
set_option maxHeartbeats 1000000
namespace Go.Proofs.YthmnmaemnihkeaaDoor
open Go.ChangeShapes Go.WideShapes Go.ChangeAt Go.RowKit
def listF (f:Nat→Int) (n:Nat):List Int:=(List.range n).map f
theorem listF_len (f:Nat→Int) (n:Nat):(listF f n).length=n:=by simp[listF]
theorem list_any (f:Nat→Int) (n:Nat) (w:World) (h8:n≤8):
  Calls Tryd.prog 63 #[.agg (rowA f),.int .i64 n] w fun e w'=>∃u,e=.returned u∧Own w' w.heap.size u (listF f n)∧Below w.heap.size w w':=by
 obtain⟨i0,hi,hz0,hz1,hz2⟩:=info_parts Tryd.infoI
 have h8':(n:Int)≤8:=by omega
 obtain⟨w1,hw1⟩:∃w1,w1=(w.alloc (.cells (rowA f) 96)).alloc (.cells #[] 2):=⟨_,rfl⟩
 have hown:w1.ownsRow w.heap.size 2 1 (.slice (some ⟨w.heap.size+1,0,none⟩) 0 0) 0 []:=by
  have:=World.ownsRow_lit (base:=w.heap.size) (e:=2) (size:=1) (w.alloc (.cells (rowA f) 96)) #[] 0 (by simp) (Nat.zero_le _) rfl
  rw[hw1]
  simpa using this
 have hrow:Row w1 w.heap.size f:=by rw[hw1];exact(Row.new w f).alloc _
 have hnews:∀j u,((listF f n).map (Value.int .i64))[j]?=some u→w1.cell? ((⟨w.heap.size,0,none⟩:Addr).add j)=some u:=by
  intro j u hj
  have hlt:j<n:=by
   rcases Nat.lt_or_ge j n with h|h
   ·exact h
   ·rw[List.getElem?_eq_none (by simpa[listF]using h)]at hj;cases hj
  rw[show(⟨w.heap.size,0,none⟩:Addr).add j=⟨w.heap.size,j,none⟩ by unfold Addr.add;split<;>simp_all]
  rw[hrow.cell j (by omega)]
  simp[listF,hlt]at hj⊢
  exact hj
 have hone:∀u∈(listF f n).map (Value.int .i64),u.oneCell'=true:=by
  intro u hu
  obtain⟨x,_,rfl⟩:=List.mem_map.1 hu
  rfl
 have hll:((listF f n).map (Value.int .i64)).length=n*1:=by simp[listF]
 have hb1:Below w.heap.size w w1:=by rw[hw1];exact((Below.refl _ _).alloc (Nat.le_refl _) _).alloc (by simp) _
 go_enter Tryd.func63,Tryd.ntmps63
 go_wp2_with (at_builtin;rw[←hw1];refine wpList_append_own _ rfl _ _ 32 rfl w.heap.size 2 i0 (.int .i64 0) 1 8 Tryd.underlying32 hi hz0 hz1 hz2 rfl (by decide) _ _ _ rfl hown _ n 8 ((listF f n).map (Value.int .i64)) rfl hll hnews hone (by unfold maxLen;omega) (by omega) hb1.size ?_)
 intro v' w2 hown' hgrow _
 rw[←hw1]at hgrow
 have HG:Hid (Below w.heap.size w w2):=hb1.grown hgrow hb1.size (fun g e=>by simp[Value.ownBlock]at e;omega)
 go_wp2
 go_ret
 refine⟨_,rfl,?_,HG.out⟩
 unfold Own
 simpa[listF_len]using hown'
theorem new_any8 (n:Int) (w:World):
  Calls Tryd.prog 53 #[.int .i64 n] w fun e w'=>∃u,e=.returned u∧Own w' w.heap.size u (zerosI n)∧Below w.heap.size w w':=by
 by_cases hc:cntOk n=true
 ·obtain⟨k,rfl⟩:∃k:Nat,n=k:=⟨n.toNat,by simp[cntOk]at hc;omega⟩
  have h8:k≤8:=by simp[cntOk]at hc;omega
  have HZ:Hid (listF (fun _=>0) k=zerosI k):=by
   have h1:1≤k:=by simp[cntOk]at hc;omega
   rw[Hid,zerosI,if_pos (by omega)]
   apply List.ext_getElem
   ·simp[listF]
   ·intro j h1 h2
    simp[listF]
  go_enter Tryd.func53,Tryd.ntmps53
  go_wp2_with (first|(go_at_call 52;refine(cnt_any _ _).mono ?_;rw[hc];rintro e w' ⟨rfl,hw⟩;subst w')|(go_at_call 63;refine(list_any (fun _=>0) k _ h8).mono ?_;rw[HZ.out];rintro e w1 ⟨u,rfl,o1,b1⟩;have HU:Hid (Own w1 w.heap.size u (zerosI k)∧Below w.heap.size w w1):=⟨o1,b1⟩;clear o1 b1))
  go_ret
  exact⟨_,rfl,HU.out⟩
 ·have hc':cntOk n=false:=by simpa using hc
  have HZ:Hid (zerosI n=[]):=by simp[Hid,zerosI];simp[cntOk]at hc';omega
  clear hc
  go_enter Tryd.func53,Tryd.ntmps53
  go_wp2_with (go_at_call 52;refine(cnt_any _ _).mono ?_;rw[hc'];rintro e w' ⟨rfl,hw⟩;subst w')
  go_ret
  rw[HZ.out]
  exact⟨_,rfl,ownEmpty w,belowNew w _⟩
end Go.Proofs.YthmnmaemnihkeaaDoor
namespace Go.Proofs.YthmnmaemnihkeaaDoor
open Go.ChangeShapes Go.WideShapes Go.ChangeAt Go.RowKit
def fill8 (w:World) (g:Nat) (f:Nat→Int):World:=
 (((((((w.setCell ⟨g,0,none⟩ (.int .i64 (f 0))).setCell ⟨g,1,none⟩ (.int .i64 (f 1))).setCell ⟨g,2,none⟩ (.int .i64 (f 2))).setCell ⟨g,3,none⟩ (.int .i64 (f 3))).setCell ⟨g,4,none⟩ (.int .i64 (f 4))).setCell ⟨g,5,none⟩ (.int .i64 (f 5))).setCell ⟨g,6,none⟩ (.int .i64 (f 6))).setCell ⟨g,7,none⟩ (.int .i64 (f 7))
theorem Row.fill {w:World} {g:Nat} {old:Nat→Int} (h:Row w g old) (f:Nat→Int):Row (fill8 w g f) g f:=by
 have:=(((((((h.setCell 0 (by omega) (f 0)).setCell 1 (by omega) (f 1)).setCell 2 (by omega) (f 2)).setCell 3 (by omega) (f 3)).setCell 4 (by omega) (f 4)).setCell 5 (by omega) (f 5)).setCell 6 (by omega) (f 6)).setCell 7 (by omega) (f 7)
 exact Eq.trans this (congrArg (fun c=>some (Obj.cells c 96 (0,0))) (rowA_congr (eight rfl rfl rfl rfl rfl rfl rfl rfl)))
theorem Row.fill_other {w:World} {g k:Nat} {old:Nat→Int} (h:Row w g old) (f:Nat→Int) (hne:g≠k):Row (fill8 w k f) g old:=by
 unfold fill8
 exact(((((((h.other _ _ hne).other _ _ hne).other _ _ hne).other _ _ hne).other _ _ hne).other _ _ hne).other _ _ hne).other _ _ hne
theorem below_fill {B g:Nat} {w0 w:World} (h:Below B w0 w) (hB:B≤g) (f:Nat→Int):Below B w0 (fill8 w g f):=by
 unfold fill8
 exact(((((((h.setCell hB _).setCell hB _).setCell hB _).setCell hB _).setCell hB _).setCell hB _).setCell hB _).setCell hB _
theorem Row.drew {w:World} {g:Nat} {f:Nat→Int} (h:Row w g f):Row w.drew g f:=h
theorem filled {w w4:World} {H:Nat} (f g:Nat→Int) (hH:H=w.heap.size) (h:Below w.heap.size w w4∧Row w4 H (fun _=>0)∧Row w4 (H+1) (fun _=>0)):
  Row (((((((((((((((((w4.setCell ⟨H,0,none⟩ (.int .i64 (f 0))).setCell ⟨H,1,none⟩ (.int .i64 (f 1))).setCell ⟨H,2,none⟩ (.int .i64 (f 2))).setCell ⟨H,3,none⟩ (.int .i64 (f 3))).setCell ⟨H,4,none⟩ (.int .i64 (f 4))).setCell ⟨H,5,none⟩ (.int .i64 (f 5))).setCell ⟨H,6,none⟩ (.int .i64 (f 6))).setCell ⟨H,7,none⟩ (.int .i64 (f 7))).setCell ⟨(H+1),0,none⟩ (.int .i64 (g 0))).setCell ⟨(H+1),1,none⟩ (.int .i64 (g 1))).setCell ⟨(H+1),2,none⟩ (.int .i64 (g 2))).setCell ⟨(H+1),3,none⟩ (.int .i64 (g 3))).setCell ⟨(H+1),4,none⟩ (.int .i64 (g 4))).setCell ⟨(H+1),5,none⟩ (.int .i64 (g 5))).setCell ⟨(H+1),6,none⟩ (.int .i64 (g 6))).setCell ⟨(H+1),7,none⟩ (.int .i64 (g 7))).drew) H f∧Row (((((((((((((((((w4.setCell ⟨H,0,none⟩ (.int .i64 (f 0))).setCell ⟨H,1,none⟩ (.int .i64 (f 1))).setCell ⟨H,2,none⟩ (.int .i64 (f 2))).setCell ⟨H,3,none⟩ (.int .i64 (f 3))).setCell ⟨H,4,none⟩ (.int .i64 (f 4))).setCell ⟨H,5,none⟩ (.int .i64 (f 5))).setCell ⟨H,6,none⟩ (.int .i64 (f 6))).setCell ⟨H,7,none⟩ (.int .i64 (f 7))).setCell ⟨(H+1),0,none⟩ (.int .i64 (g 0))).setCell ⟨(H+1),1,none⟩ (.int .i64 (g 1))).setCell ⟨(H+1),2,none⟩ (.int .i64 (g 2))).setCell ⟨(H+1),3,none⟩ (.int .i64 (g 3))).setCell ⟨(H+1),4,none⟩ (.int .i64 (g 4))).setCell ⟨(H+1),5,none⟩ (.int .i64 (g 5))).setCell ⟨(H+1),6,none⟩ (.int .i64 (g 6))).setCell ⟨(H+1),7,none⟩ (.int .i64 (g 7))).drew) (H+1) g∧Below w.heap.size w (((((((((((((((((w4.setCell ⟨H,0,none⟩ (.int .i64 (f 0))).setCell ⟨H,1,none⟩ (.int .i64 (f 1))).setCell ⟨H,2,none⟩ (.int .i64 (f 2))).setCell ⟨H,3,none⟩ (.int .i64 (f 3))).setCell ⟨H,4,none⟩ (.int .i64 (f 4))).setCell ⟨H,5,none⟩ (.int .i64 (f 5))).setCell ⟨H,6,none⟩ (.int .i64 (f 6))).setCell ⟨H,7,none⟩ (.int .i64 (f 7))).setCell ⟨(H+1),0,none⟩ (.int .i64 (g 0))).setCell ⟨(H+1),1,none⟩ (.int .i64 (g 1))).setCell ⟨(H+1),2,none⟩ (.int .i64 (g 2))).setCell ⟨(H+1),3,none⟩ (.int .i64 (g 3))).setCell ⟨(H+1),4,none⟩ (.int .i64 (g 4))).setCell ⟨(H+1),5,none⟩ (.int .i64 (g 5))).setCell ⟨(H+1),6,none⟩ (.int .i64 (g 6))).setCell ⟨(H+1),7,none⟩ (.int .i64 (g 7))).drew):=by
 obtain⟨z1,z2,z3⟩:=h
 have HW0:Row (fill8 (fill8 w4 H f) (H+1) g) H f∧Row (fill8 (fill8 w4 H f) (H+1) g) (H+1) g∧Below w.heap.size w (fill8 (fill8 w4 H f) (H+1) g):=by
  refine⟨(z2.fill f).fill_other _ (by omega),(z3.fill_other f (by omega)).fill g,below_fill (below_fill z1 (by omega) _) (by omega) _⟩
 have HW:Row (fill8 (fill8 w4 H f) (H+1) g).drew H f∧Row (fill8 (fill8 w4 H f) (H+1) g).drew (H+1) g∧Below w.heap.size w (fill8 (fill8 w4 H f) (H+1) g).drew:=⟨HW0.1.drew,HW0.2.1.drew,HW0.2.2.drew⟩
 unfold fill8 at HW
 exact HW
end Go.Proofs.YthmnmaemnihkeaaDoor
