/- The model's posts: PostOk, l16CopyMsg, l16Copy, l16Without. -/
import Derived.Test.YtflbcjgkdokhiaaGreatDoorM17
import Derived.Test.YtflbcjgkdokhiaaGreatDoorM7
import Derived.Test.YtflbcjgkdokhiaaGreatDoorM16
import Derived.Deep.DeepCutAuto
import Derived.Test.YtflbcjgkdokhiaaGreatDoorM6
import Derived.Test.YtflbcjgkdokhiaaGreatDoorM5
import Derived.Laws.Tables
import Derived.Laws.ResultCell
set_option maxRecDepth 20000
set_option maxHeartbeats 1000000
namespace Go.Proofs.YtflbcjgkdokhiaaGreatDoor
open Go.ChangeShapes Go.WideShapes Go.ChangeAt Go.RowKit
theorem spostok_any (v:Value) (ps:List (Value×Mg)) (w:World) (hr:RdP w v ps) (hs:SmP ps):
  Calls Tryz.prog 26 #[v] w fun e w'=>e=.returned (.bool (postOk (msOf ps)))∧Below w.heap.size w w':=by
 obtain⟨ao,cap,rfl⟩:=hr.form
 have HR:Hid (∀wx,Below w.heap.size w wx→RdP wx (.slice ao ps.length cap) ps):=fun wx b=>hr.below b
 obtain⟨-,hnc,hcm, -⟩:=hr.el
 unfold maxLen at hcm
 clear hr
 obtain⟨n,hn⟩:∃n,n=ps.length:=⟨_,rfl⟩
 rw[←hn]at HR hnc⊢
 have HN:Hid (n=ps.length):=hn
 have HSm:Hid (SmP ps):=hs
 clear hn hs
 obtain⟨r,hr⟩:∃r,r=postOk (msOf ps):=⟨_,rfl⟩
 rw[←hr]
 have HRr:Hid (r=postOk (msOf ps)):=hr
 clear hr
 by_cases h40:(n:Int)>40
 ·have HE:Hid (r=false):=by
   rw[Hid,HRr.out]
   unfold postOk
   rw[msOf_len,←HN.out]
   simp;omega
  go_enter Tryz.func26,Tryz.ntmps26
  go_wp2
  go_ret
  exact⟨ret_bool (by rw[HE.out]),Below.refl _ _⟩
 ·go_enter Tryz.func26,Tryz.ntmps26
  go_wp2
  go_loopw [3] (fun i wr=>∃j:Nat,j≤n∧i=.int .i64 j∧Hid (((msOf ps).take j).all Mg.ok=true∧Below w.heap.size w wr)) (fun i _=>n-(intOf i).toNat)
  case atStart=>exact⟨0,Nat.zero_le _,rfl,by simp,Below.refl _ _⟩
  case round=>
   obtain⟨j,hj,rfl,HI⟩:=hrel
   by_cases hlt:(j:Int)<(n:Int)
   ·obtain⟨b,off,u,m,he,rfl,hrk,hc⟩:=(HR.out wr HI.out.2).el.2.2.2 j (by omega)
    have C:=smsg_any u m wr hrk (by have:=HSm.out.at he;omega)
    have HC:Hid (∀i,i<11→wr.cell? ⟨b,off+j*11+i,none⟩=(mgA u m)[i]?):=hc
    have HE:Hid (ps[j]?=some (u,m)):=he
    obtain⟨x,hx⟩:∃x,x=m.ok:=⟨_,rfl⟩
    rw[←hx]at C
    have HX:Hid (x=m.ok):=hx
    clear hc hrk he hx
    go_wp2_with (refine wpList_getO Tryz.isMg rfl _ rfl b (off+j*11) rfl (mgA u m) rfl HC.out ?_)
    refine C.mono ?_
    rintro e w2 ⟨rfl,b2⟩
    have HB:Hid (Below w.heap.size w w2):=HI.out.2.trans (b2.mono HI.out.2.size)
    clear b2 C HC
    cases x with
    |false=>
     have HF:Hid (r=false):=by rw[Hid,HRr.out];unfold postOk;rw[all_not_ok _ j m (msOf_at HE.out) HX.out.symm];simp
     clear HX
     go_wp2
     go_ret
     exact⟨ret_bool (by rw[HF.out]),HB.out⟩
    |true=>
     have HT:Hid (((msOf ps).take (j+1)).all Mg.ok=true):=all_take_ok _ j m (msOf_at HE.out) HI.out.1 HX.out.symm
     clear HX
     go_wp2
     go_roundw
     case rel=>exact⟨j+1,by omega,by go_num,HT.out,HB.out⟩
     case measure=>simp[intOf];omega
   ·have HT:Hid (r=true):=by
     have h1:=HI.out.1
     rw[List.take_of_length_le (by rw[msOf_len,←HN.out];omega)]at h1
     rw[Hid,HRr.out]
     unfold postOk
     rw[h1,msOf_len,←HN.out]
     simp;omega
    go_wp2
    go_ret
    exact⟨ret_bool (by rw[HT.out]),HI.out.2⟩
structure MgBx (w wx:World) (v:Value) (m:Mg):Prop where
 p0:StB wx w.heap.size 85 (mgA v m)
 q0:StB wx (w.heap.size+1) 85 zeroMg
 bl:Below w.heap.size w wx
 sz:w.heap.size+2≤wx.heap.size
 rd:Reads wx v m.h.ks
theorem MgBx.next {w wx wy:World} {v:Value} {m:Mg} (d:MgBx w wx v m) (b:Below wx.heap.size wx wy):MgBx w wy v m:=
 ⟨d.p0.below b,d.q0.below b,d.bl.trans (b.mono d.bl.size),Nat.le_trans d.sz b.size,d.rd.below b (Nat.le_refl _)⟩
theorem mg_hold {w:World} {g:Nat} {t:TypeId} {v:Value} {m:Mg} (h:StB w g t (mgA v m)):∀i,i<4→w.cell? ⟨g,7+i,none⟩=(hdA v m.h)[i]?:=by
 intro i hi
 rw[cell_of_row w g (7+i) _ _ _ h]
 match i,hi with
 |0,_=>rfl
 |1,_=>rfl
 |2,_=>rfl
 |3,_=>rfl
theorem Tryz.infoM:(Tryz.prog.info? 85).map (fun i=>(i.zero,i.size,i.bytes))=some (some (.agg zeroMg),11,104):=by kernel_rfl
theorem take_snocM (ms:List Mg) (j:Nat) (m:Mg) (e:ms[j]?=some m):ms.take (j+1)=ms.take j++[m]:=by
 obtain⟨hj,rfl⟩:=List.getElem?_eq_some_iff.1 e
 exact List.take_succ_eq_append_getElem hj
end Go.Proofs.YtflbcjgkdokhiaaGreatDoor
namespace Go.Proofs.YtflbcjgkdokhiaaGreatDoor
open Go.ChangeShapes Go.WideShapes Go.ChangeAt Go.RowKit
theorem Tryz.isR:IsS 133 6:=⟨⟨_,Tryz.underlying133⟩,by kernel_rfl⟩
def OwnR (w:World) (base:Nat) (a b k:Value) (xs ys ks:List Int):Prop:=OwnD w base a b xs ys∧Own w base k ks∧apart a k∧apart b k
def zeR:Array Value:=#[.slice none 0 0,.slice none 0 0,.slice none 0 0,.int .i64 0,.int .i64 0,.int .i64 0]
theorem srA_one {a b k:Value} (h:Hd) (ha:a.oneCell'=true) (hb:b.oneCell'=true) (hk:k.oneCell'=true):(srA a b k h).all (·.oneCell')=true:=by
 unfold srA
 simp[ha,hb,hk,show∀k n,(Value.int k n).oneCell'=true from fun _ _=>rfl]
theorem OwnR.below {w w':World} {base:Nat} {a b k:Value} {xs ys ks:List Int} (h:OwnR w base a b k xs ys ks) (e:Below w.heap.size w w'):OwnR w' base a b k xs ys ks:=
 ⟨⟨h.1.1.below e,h.1.2.1.below e,h.1.2.2⟩,h.2.1.below e,h.2.2⟩
theorem OwnR.mono {w:World} {base base':Nat} {a b k:Value} {xs ys ks:List Int} (h:OwnR w base a b k xs ys ks) (e:base'≤base):OwnR w base' a b k xs ys ks:=
 ⟨⟨h.1.1.mono e,h.1.2.1.mono e,h.1.2.2⟩,h.2.1.mono e,h.2.2⟩
theorem OwnR.keptLt {w w':World} {base g:Nat} {a b k:Value} {xs ys ks:List Int} (h:OwnR w base a b k xs ys ks) (e:w.grownBy w' (some g)) (hg:g<base):OwnR w' base a b k xs ys ks:=
 ⟨⟨h.1.1.keptLt e hg,h.1.2.1.keptLt e hg,h.1.2.2⟩,h.2.1.keptLt e hg,h.2.2⟩
theorem OwnR.nil (w:World) (base:Nat):OwnR w base (.slice none 0 0) (.slice none 0 0) (.slice none 0 0) [] [] []:=
 ⟨⟨Own.nil w base,Own.nil w base,⟨.inl rfl,.inl rfl⟩⟩,Own.nil w base,⟨.inl rfl,.inl rfl⟩,⟨.inl rfl,.inl rfl⟩⟩
end Go.Proofs.YtflbcjgkdokhiaaGreatDoor
namespace Go.Proofs.YtflbcjgkdokhiaaGreatDoor
open Go.ChangeShapes Go.WideShapes Go.ChangeAt Go.RowKit
end Go.Proofs.YtflbcjgkdokhiaaGreatDoor
set_option maxRecDepth 20000
set_option maxHeartbeats 400000
namespace Go.Proofs.YtflbcjgkdokhiaaGreatDoor
open Go.ChangeShapes Go.WideShapes Go.ChangeAt Go.RowKit
def rowA (f:Nat→Int):Array Value:=#[.int .i64 (f 0),.int .i64 (f 1),.int .i64 (f 2),.int .i64 (f 3),.int .i64 (f 4),.int .i64 (f 5),.int .i64 (f 6),.int .i64 (f 7)]
def upd (f:Nat→Int) (j:Nat) (x:Int):Nat→Int:=fun k=>if k=j then x else f k
def Row (w:World) (g:Nat) (f:Nat→Int):Prop:=w.heap[g]?=some (.cells (rowA f) 149 (0,0))
theorem eight {p:Nat→Prop} (h0:p 0) (h1:p 1) (h2:p 2) (h3:p 3) (h4:p 4) (h5:p 5) (h6:p 6) (h7:p 7):∀j,j<8→p j
 |0,_=>h0|1,_=>h1|2,_=>h2|3,_=>h3|4,_=>h4|5,_=>h5|6,_=>h6|7,_=>h7
 |_+8,h=>by omega
theorem rowA_at (f:Nat→Int):∀j,j<8→(rowA f)[j]?=some (.int .i64 (f j)):=eight rfl rfl rfl rfl rfl rfl rfl rfl
theorem rowA_set (f:Nat→Int) (x:Int):∀j,j<8→(rowA f).setIfInBounds j (.int .i64 x)=rowA (upd f j x):=eight rfl rfl rfl rfl rfl rfl rfl rfl
theorem rowA_size (f:Nat→Int):(rowA f).size=8:=rfl
theorem rowA_one (f:Nat→Int):(rowA f).all (·.oneCell')=true:=by simp[rowA,Value.oneCell']
theorem rowA_congr {f g:Nat→Int} (h:∀j,j<8→f j=g j):rowA f=rowA g:=by
 simp[rowA,h 0,h 1,h 2,h 3,h 4,h 5,h 6,h 7]
theorem Row.cell {w:World} {g:Nat} {f:Nat→Int} (h:Row w g f) (j:Nat) (hj:j<8):w.cell? ⟨g,j,none⟩=some (.int .i64 (f j)):=by
 rw[cell_of_row w g j _ _ _ h,rowA_at f j hj]
theorem Row.frozen {w:World} {g:Nat} {f:Nat→Int} (h:Row w g f) (j:Nat):w.frozen? ⟨g,j,none⟩=false:=frozen_of_row w g j _ _ h
theorem Row.lt {w:World} {g:Nat} {f:Nat→Int} (h:Row w g f):g<w.heap.size:=by
 rcases Nat.lt_or_ge g w.heap.size with hlt|hge
 ·exact hlt
 ·rw[Row,Array.getElem?_eq_none hge]at h;cases h
theorem Row.below {w w':World} {g:Nat} {f:Nat→Int} (h:Row w g f) (hb:Below w.heap.size w w'):Row w' g f:=(hb.block g h.lt).trans h
theorem Row.alloc {w:World} {g:Nat} {f:Nat→Int} (h:Row w g f) (o:Obj):Row (w.alloc o) g f:=(Below.heap_alloc w o g h.lt).trans h
theorem Row.new (w:World) (f:Nat→Int):Row (w.alloc (.cells (rowA f) 149)) w.heap.size f:=heap_alloc_new w _
theorem Row.setCell {w:World} {g:Nat} {f:Nat→Int} (h:Row w g f) (j:Nat) (hj:j<8) (x:Int):Row (w.setCell ⟨g,j,none⟩ (.int .i64 x)) g (upd f j x):=by
 have:=heap_setCell_same w g j _ _ (.int .i64 x) h
 rw[rowA_set f x j hj]at this
 exact this
theorem Row.other {w:World} {g:Nat} {f:Nat→Int} (h:Row w g f) (a:Addr) (v:Value) (hne:g≠a.block):Row (w.setCell a v) g f:=(heap_setCell_other w a g v hne).trans h
theorem Row.setRow {w:World} {g:Nat} {f:Nat→Int} (h:Row w g f) (f':Nat→Int):Row (w.setRow g (rowA f')) g f':=setRow_heap w g _ _ _ _ h
theorem below_row {B g:Nat} {w0 w:World} (h:Below B w0 w) (hB:B≤g) (cs:Array Value):Below B w0 (w.setRow g cs):=
 h.trans ⟨rfl,rfl,rfl,by simp,fun k hk=>_root_.Go.setRow_other w g k cs (by omega)⟩
theorem Tryz.info8 (f:Nat→Int):(Tryz.prog.info? 149).map (·.size)=some (rowA f).size:=by
 rw[rowA_size];kernel_rfl
theorem Tryz.under8:Tryz.prog.underlying 149=some (.array 8 2):=by kernel_rfl
theorem grown_setRow (w:World) (g:Nat) (cs:Array Value):w.grownBy (w.setRow g cs) (some g):=
 ⟨rfl,rfl,rfl,by simp,fun k _ hne=>_root_.Go.setRow_other w g k cs (fun e=>hne (by rw[e]))⟩
theorem Row.kept {w w':World} {g:Nat} {f:Nat→Int} {row:Option Nat} (h:Row w g f) (hg:w.grownBy w' row) (hne:some g≠row):Row w' g f:=(hg.block g h.lt hne).trans h
theorem wpList_put8 {ops:Array Oper} {rest:List Oper} {o:Oper} {a:Act} {w:World} {Q:Exit→Act→World→Prop} (hgd:o.guard=none) (x y:Operand) (ho:o.op=.store 149 x y)
  (g:Nat) (f:Nat→Int) (hx:a.eval x=.pointer (some ⟨g,0,none⟩)) (hy:a.eval y=.agg (rowA f)) (old:Nat→Int) (hr:Row w g old)
  (h:∀w',Row w' g f→w.grownBy w' (some g)→wpList Tryz.prog ops Q rest (a.put o.dst undef) w'):wpList Tryz.prog ops Q (o::rest) a w:=
 wpList_store_row hgd _ x y ho g (rowA f) hx hy _ _ hr (Tryz.info8 f) rfl (rowA_one f) (h _ (hr.setRow f) (grown_setRow w g _))
theorem val_any (x:Int) (w:World):
  Calls Tryz.prog 107 #[.int .i64 x] w fun e w'=>e=.returned (.bool (valOk x))∧w'=w:=by
 by_cases h0:0≤x
 ·by_cases h1:x≤9999
  ·rw[valOk_yes h0 h1]
   go_enter Tryz.func107,Tryz.ntmps107
   go_wp2
   go_ret
   exact⟨ret_bool (by simp),rfl⟩
  ·rw[valOk_no (by omega)]
   go_enter Tryz.func107,Tryz.ntmps107
   go_wp2
   go_ret
   exact⟨ret_bool (by simp),rfl⟩
 ·rw[valOk_no (by omega)]
  go_enter Tryz.func107,Tryz.ntmps107
  go_wp2
  go_ret
  exact⟨ret_bool (by simp),rfl⟩
theorem cnt_any (x:Int) (w:World):
  Calls Tryz.prog 134 #[.int .i64 x] w fun e w'=>e=.returned (.bool (cntOk x))∧w'=w:=by
 by_cases h0:1≤x
 ·by_cases h1:x≤8
  ·rw[cntOk_yes h0 h1]
   go_enter Tryz.func134,Tryz.ntmps134
   go_wp2
   go_ret
   exact⟨ret_bool (by simp),rfl⟩
  ·rw[cntOk_no (by omega)]
   go_enter Tryz.func134,Tryz.ntmps134
   go_wp2
   go_ret
   exact⟨ret_bool (by simp),rfl⟩
 ·rw[cntOk_no (by omega)]
  go_enter Tryz.func134,Tryz.ntmps134
  go_wp2
  go_ret
  exact⟨ret_bool (by simp),rfl⟩
end Go.Proofs.YtflbcjgkdokhiaaGreatDoor
set_option maxRecDepth 20000
set_option maxHeartbeats 1000000
namespace Go.Proofs.YtflbcjgkdokhiaaGreatDoor
open Go.ChangeShapes Go.WideShapes Go.ChangeAt Go.RowKit
def partF (xs:List Int) (j:Nat):Nat→Int:=fun k=>if k<j then xs.getD k 0 else 0
def rowF (xs:List Int):Nat→Int:=fun j=>if blocksOk xs then xs.getD j 0 else 0
theorem partF_step (xs:List Int) (j:Nat):upd (partF xs j) j (xs.getD j 0)=partF xs (j+1):=by
 funext k
 unfold upd partF
 by_cases e:k=j
 ·subst e;simp
 ·have:k<j+1↔k<j:=by omega
  simp[e,this]
theorem partF_zero (xs:List Int):partF xs 0=fun _=>0:=by funext k;simp[partF]
theorem partF_full (xs:List Int):partF xs xs.length=fun k=>xs.getD k 0:=by
 funext k
 unfold partF
 split
 ·rfl
 ·rw[getD_past xs k (by omega)]
theorem results_row {fn:Func} {p u:Tmp} (h:fn.results=#[.cell p 149,.tmp u]) (tmps:Array Value) (w:World) (g:Nat) (f:Nat→Int) (x:Value)
  (hp:tmps.getD p undef=.pointer (some ⟨g,0,none⟩)) (hx:tmps.getD u undef=x) (hr:Row w g f):
  (results fn tmps).run Tryz.prog w=.ok (.tuple #[.agg (rowA f),x]) w:=by
 rw[results_cell_tmp h,hp,hx]
 simp only[asAddr,Sem.run_pure,Result.andThen_ok]
 rw[run_loadVar_row w g _ _ _ _ _ hr Tryz.under8 rfl (Tryz.info8 f)]
 rfl
theorem rowF_yes {xs:List Int} (h:blocksOk xs=true):rowF xs=fun k=>xs.getD k 0:=by funext k;simp[rowF,h]
theorem rowF_no {xs:List Int} (h:blocksOk xs=false):rowF xs=fun _=>0:=by funext k;simp[rowF,h]
def RowRel (xs:List Int) (w wr:World) (j:Nat):Prop:=Row wr w.heap.size (fun _=>0)∧Row wr (w.heap.size+1) (partF xs j)∧(xs.take j).all valOk=true∧Below w.heap.size w wr
theorem RowRel.start (xs:List Int) (w:World):RowRel xs w ((w.alloc (.cells (rowA fun _=>0) 149)).alloc (.cells (rowA fun _=>0) 149)) 0:=by
 refine⟨(Row.new w _).alloc _,?_,by simp,((Below.refl _ _).alloc (Nat.le_refl _) _).alloc (by simp) _⟩
 have:=Row.new (w.alloc (.cells (rowA fun _=>0) 149)) (fun _=>0)
 rw[partF_zero]
 simpa using this
theorem rowOf_any (v:Value) (xs:List Int) (w:World) (h:Reads w v xs) (hbig:xs.length≤1099511627776):
  Calls Tryz.prog 124 #[v] w fun e w'=>e=.returned (.tuple #[.agg (rowA (rowF xs)),.bool (blocksOk xs)])∧Below w.heap.size w w':=by
 obtain⟨ao,cap,rfl⟩:=h.form
 obtain⟨-,la,ma,hcell⟩:=h.cellOf
 clear h
 obtain⟨n,hn⟩:∃n,n=xs.length:=⟨_,rfl⟩
 rw[←hn]at la hcell hbig⊢
 have HN:Hid (n=xs.length):=hn
 clear hn
 unfold maxLen at ma
 by_cases hc:cntOk (n:Int)=true
 ·have h8:n≤8:=by simp[cntOk]at hc;omega
  have HL:Hid (lenOk xs.length=true):=by rw[Hid,←HN.out];exact hc
  go_enter Tryz.func124,Tryz.ntmps124
  go_wp2_with (first|(go_at_call 134;refine(cnt_any _ _).mono ?_;rw[hc];rintro e w' ⟨rfl,hw⟩;subst w'))
  clear hc
  go_loopw [14] (fun i wr=>∃j:Nat,j≤n∧i=.int .i64 j∧Hid (RowRel xs w wr j)) (fun i _=>n-(intOf i).toNat)
  case atStart=>exact⟨0,Nat.zero_le _,rfl,RowRel.start xs w⟩
  case round=>
   obtain⟨j,hj,rfl,HR⟩:=hrel
   by_cases hlt:(j:Int)<(n:Int)
   ·obtain⟨b,off,rfl,hb,hc0⟩:=hcell j (by omega)
    have hc1:=(HR.out.2.2.2.cell (p:=⟨b,off+j,none⟩) hb).trans hc0
    obtain⟨x,hx⟩:∃x,x=xs.getD j 0:=⟨_,rfl⟩
    rw[←hx]at hc1
    clear hc0 hcell
    by_cases hv:valOk x=true
    ·have hfr:=HR.out.2.1.frozen j
     have hcc:=HR.out.2.1.cell j (by omega)
     have HS:Hid (RowRel xs w (wr.setCell ⟨w.heap.size+1,j,none⟩ (.int .i64 x)) (j+1)):=by
      obtain⟨r1,r2,r3,r4⟩:=HR.out
      refine⟨r1.other _ _ (by simp),?_,all_snoc (by have:=HN.out;omega) r3 (by rw[←hx];exact hv),r4.setCell (by simp) _⟩
      have:=r2.setCell j (by omega) x
      rwa[hx,partF_step,←hx]at this
     clear hx HR
     go_wp2_with (first|(go_at_call 107;refine(val_any _ _).mono ?_;rw[hv];rintro e w' ⟨rfl,hw⟩;subst w'))
     go_roundw
     case rel=>exact⟨j+1,by omega,by go_num,HS⟩
     case measure=>simp[intOf];omega
    ·have hv':valOk x=false:=by simpa using hv
     have HB:Hid (blocksOk xs=false):=by
      simp[Hid,blocksOk,all_not (xs:=xs) (j:=j) (by have:=HN.out;omega) (by rw[←hx];exact hv')]
     have hrow:=HR.out.1
     clear hx hv
     go_wp2_with (first|(go_at_call 107;refine(val_any _ _).mono ?_;rw[hv'];rintro e w' ⟨rfl,hw⟩;subst w')|(refine wpList_store_row rfl 149 _ _ rfl w.heap.size (rowA fun _=>0) rfl rfl _ _ hrow (Tryz.info8 _) rfl (rowA_one _) ?_))
     refine bodyPost_ret (results_row rfl _ _ w.heap.size (fun _=>0) _ rfl rfl (hrow.setRow _)) rfl ?_
     rw[HB.out,rowF_no HB.out]
     exact⟨rfl,below_row HR.out.2.2.2 (Nat.le_refl _) _⟩
   ·have hrow:=HR.out.1
    have hrow2:=HR.out.2.1
    go_wp2_with (first|(refine wpList_load_row rfl 149 _ rfl (w.heap.size+1) rfl _ _ _ _ hrow2 Tryz.under8 rfl (Tryz.info8 _) ?_)|(refine wpList_store_row rfl 149 _ _ rfl w.heap.size (rowA (partF xs j)) rfl rfl _ _ hrow (Tryz.info8 _) rfl (rowA_one _) ?_))
    refine bodyPost_ret (results_row rfl _ _ w.heap.size (partF xs j) _ rfl rfl (hrow.setRow _)) rfl ?_
    have e:j=xs.length:=by have:=HN.out;omega
    have HB:blocksOk xs=true:=by
     have:=HR.out.2.2.1
     rw[e,List.take_length]at this
     simp[blocksOk,this,HL.out]
    rw[HB,rowF_yes HB,e,partF_full]
    exact⟨rfl,below_row HR.out.2.2.2 (Nat.le_refl _) _⟩
 ·have hc':cntOk (n:Int)=false:=by simpa using hc
  have HB:Hid (blocksOk xs=false):=by
   have:=HN.out
   rw[cntOk_len,this]at hc'
   simp[Hid,blocksOk,hc']
  clear hc
  go_enter Tryz.func124,Tryz.ntmps124
  go_wp2_with (first|(go_at_call 134;refine(cnt_any _ _).mono ?_;rw[hc'];rintro e w' ⟨rfl,hw⟩;subst w'))
  refine bodyPost_ret (results_row rfl _ _ w.heap.size (fun _=>0) _ rfl rfl (RowRel.start xs w).1) rfl ?_
  rw[HB.out,rowF_no HB.out]
  exact⟨rfl,((Below.refl _ _).alloc (Nat.le_refl _) _).alloc (by simp) _⟩
end Go.Proofs.YtflbcjgkdokhiaaGreatDoor
namespace Go.Proofs.YtflbcjgkdokhiaaGreatDoor
open Go.ChangeShapes Go.WideShapes Go.ChangeAt Go.RowKit
end Go.Proofs.YtflbcjgkdokhiaaGreatDoor
