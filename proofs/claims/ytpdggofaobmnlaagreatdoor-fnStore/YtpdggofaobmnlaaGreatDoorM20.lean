import Derived.Test.YtpdggofaobmnlaaGreatDoorM14
import Derived.Test.YtpdggofaobmnlaaGreatDoorSDisk3
import Derived.Test.YtpdggofaobmnlaaGreatDoorM2
import Derived.Laws.Tables
import Derived.Laws.ResultCell
/- The model's store, on: NewStore, Power. -/
set_option maxRecDepth 20000
set_option maxHeartbeats 2000000
namespace Go.Proofs.YtpdggofaobmnlaaGreatDoor
open Go.ChangeShapes Go.WideShapes Go.ChangeAt Go.RowKit
theorem newS_yes {n:Int} (h:cntOk n=true):newS n=⟨zerosI n,zerosI n,Hd.new⟩:=by
 have e:(decide (1≤n)&&decide (n≤8))=true:=h
 unfold newS
 rw[e,if_pos rfl]
theorem newS_no {n:Int} (h:cntOk n=false):newS n=Sr.zero:=by
 have e:(decide (1≤n)&&decide (n≤8))=false:=h
 unfold newS
 rw[e]
 rfl
theorem snewStore_any (n:Int) (w:World):
  Calls Tryz.prog 14 #[.int .i64 n] w fun e w'=>∃a b k,e=.returned (.tuple #[SRV a b k (newS n).h,.bool (cntOk n)])∧OwnR w' w.heap.size a b k (newS n).xs (newS n).ys (newS n).h.ks∧Below w.heap.size w w':=by
 obtain⟨w1,hw1⟩:∃w1,w1=w.alloc (.cells #[.slice none 0 0,.slice none 0 0,.slice none 0 0,.int .i64 0,.int .i64 0,.int .i64 0] 30):=⟨_,rfl⟩
 have S1:Hid (StB w1 w.heap.size 30 zeR∧Below w.heap.size w w1∧w.heap.size+1≤w1.heap.size):=⟨by rw[hw1];exact StB.new _ _ _,by rw[hw1];exact(Below.refl _ _).alloc (Nat.le_refl _) _,by rw[hw1];simp⟩
 have c1:=snewDisk_any n w1
 cases hn:cntOk n with
 |false=>
  rw[hn]at c1
  rw[newS_no hn]
  clear hn
  go_enter Tryz.func14,Tryz.ntmps14
  go_upto_region 1 with fail
  rw[←hw1]
  clear hw1
  go_wp2_with fail
  refine c1.mono ?_
  rintro e w2 ⟨a,b,rfl,o2,b2⟩
  obtain⟨ao,ac,rfl⟩:=o2.1.reads.form
  obtain⟨bo,bc,rfl⟩:=o2.2.1.reads.form
  obtain⟨w3,hw3⟩:∃w3,w3=w2.alloc (.cells #[.slice ao (zerosI n).length ac,.slice bo (zerosI n).length bc] 26):=⟨_,rfl⟩
  have b3:Below w2.heap.size w2 w3:=by rw[hw3];exact(Below.refl _ _).alloc (Nat.le_refl _) _
  have S3:Hid (StB w3 w.heap.size 30 zeR∧Below w.heap.size w w3):=⟨(S1.out.1.below b2).below b3,(S1.out.2.1.trans (b2.mono S1.out.2.1.size)).trans (b3.mono (Nat.le_trans S1.out.2.1.size b2.size))⟩
  clear S1 b2 b3 o2 c1
  go_upto_region 2 with fail
  rw[←hw3]
  clear hw3
  go_wp2_with (refine wpList_putS Tryz.isR rfl _ _ rfl w.heap.size zeR zeR rfl rfl rfl rfl (srA_one Hd.zero rfl rfl rfl) S3.out.1 ?_;intro w5 s5 g5)
  refine bodyPost_ret (results_S2 Tryz.isR rfl _ _ w.heap.size _ _ rfl rfl rfl s5) rfl ?_
  exact⟨_,_,_,rfl,OwnR.nil _ _,S3.out.2.grown g5 S3.out.2.size (fun k e=>by cases e;omega)⟩
 |true=>
  rw[hn]at c1
  rw[newS_yes hn]
  clear hn
  have HN:=fun wx=>snewH_any wx
  have CN:Hid (∀wx,Calls Tryz.prog 46 #[] wx fun e w'=>∃u,e=.returned (HV u Hd.new)∧Own w' wx.heap.size u Hd.new.ks∧Below wx.heap.size wx w'):=HN
  clear HN
  unfold HV hdA at CN
  go_enter Tryz.func14,Tryz.ntmps14
  go_upto_region 1 with fail
  rw[←hw1]
  clear hw1
  go_wp2_with fail
  refine c1.mono ?_
  rintro e w2 ⟨a,b,rfl,o2,b2⟩
  obtain⟨ao,ac,rfl⟩:=o2.1.reads.form
  obtain⟨bo,bc,rfl⟩:=o2.2.1.reads.form
  obtain⟨w3,hw3⟩:∃w3,w3=w2.alloc (.cells #[.slice ao (zerosI n).length ac,.slice bo (zerosI n).length bc] 26):=⟨_,rfl⟩
  have b3:Below w2.heap.size w2 w3:=by rw[hw3];exact(Below.refl _ _).alloc (Nat.le_refl _) _
  have S3:Hid (StB w3 w.heap.size 30 zeR∧Below w.heap.size w w3∧StB w3 w2.heap.size 26 #[.slice ao (zerosI n).length ac,.slice bo (zerosI n).length bc]∧OwnD w3 (w.heap.size+1) (.slice ao (zerosI n).length ac) (.slice bo (zerosI n).length bc) (zerosI n) (zerosI n)∧w.heap.size+1≤w2.heap.size∧w2.heap.size≤w3.heap.size):=
   ⟨(S1.out.1.below b2).below b3,(S1.out.2.1.trans (b2.mono S1.out.2.1.size)).trans (b3.mono (Nat.le_trans S1.out.2.1.size b2.size)),by rw[hw3];exact StB.new _ _ _,⟨(o2.1.mono S1.out.2.2).below b3,(o2.2.1.mono S1.out.2.2).below b3,o2.2.2⟩,Nat.le_trans S1.out.2.2 b2.size,b3.size⟩
  clear S1 b2 b3 o2 c1
  go_upto_region 2 with fail
  rw[←hw3]
  clear hw3
  go_upto_region 4 with fail
  obtain⟨g,hg⟩:∃g,g=w2.heap.size:=⟨_,rfl⟩
  rw[←hg]at S3⊢
  clear hg
  have q0:∀w',Sp w.heap.size w3 w'→w'.cell? ⟨g,0,none⟩=some (.slice ao (zerosI n).length ac):=fun w' b=>b _ _ (by have:=S3.out.2.2.2.2.1;dsimp only;omega) (S3.out.2.2.1.cell 0 rfl)
  have q1:∀w',Sp w.heap.size w3 w'→w'.cell? ⟨g,1,none⟩=some (.slice bo (zerosI n).length bc):=fun w' b=>b _ _ (by have:=S3.out.2.2.2.2.1;dsimp only;omega) (S3.out.2.2.1.cell 1 rfl)
  go_region_held3 (fun w'=>Sp w.heap.size w3 w') ((repeat'(first|with_reducible assumption|with_reducible exact Sp.refl _ _|with_reducible refine Sp.al ?_|with_reducible refine Sp.dr ?_|with_reducible refine Sp.set ?_|with_reducible refine Sp.put ?_ (by with_reducible assumption)|with_reducible refine Sp.bel ?_ (by with_reducible assumption))))
   (first
    |(go_at_call 46;refine(CN.out _).mono ?_;rintro e w4 ⟨z,rfl,o4,b4⟩;have hap:Hid (apart (.slice ao (zerosI n).length ac) z∧apart (.slice bo (zerosI n).length bc) z):=⟨apart_of S3.out.2.2.2.1.1 o4 (bl_size (by repeat'(first|with_reducible assumption|with_reducible exact Below.refl _ _|with_reducible refine bel_alloc ?_|with_reducible refine bel_drew ?_|with_reducible refine bel_trans ?_ (by with_reducible assumption)))),apart_of S3.out.2.2.2.1.2.1 o4 (bl_size (by repeat'(first|with_reducible assumption|with_reducible exact Below.refl _ _|with_reducible refine bel_alloc ?_|with_reducible refine bel_drew ?_|with_reducible refine bel_trans ?_ (by with_reducible assumption))))⟩;obtain⟨ko,kc,rfl⟩:=o4.reads.form;have B4:Hid (Below w3.heap.size w3 w4):=(show Below w3.heap.size w3 w4 from(by repeat'(first|with_reducible assumption|with_reducible exact Below.refl _ _|with_reducible refine bel_alloc ?_|with_reducible refine bel_drew ?_|with_reducible refine bel_trans ?_ (by with_reducible assumption))));have O4:Hid (OwnR w4 (w.heap.size+1) (.slice ao (zerosI n).length ac) (.slice bo (zerosI n).length bc) (.slice ko Hd.new.ks.length kc) (zerosI n) (zerosI n) Hd.new.ks):=⟨⟨S3.out.2.2.2.1.1.below B4.out,S3.out.2.2.2.1.2.1.below B4.out,S3.out.2.2.2.1.2.2⟩,o4.mono (Nat.le_trans S3.out.2.2.2.2.1 (Nat.le_trans S3.out.2.2.2.2.2 (bl_size (by repeat'(first|with_reducible assumption|with_reducible exact Below.refl _ _|with_reducible refine bel_alloc ?_|with_reducible refine bel_drew ?_|with_reducible refine bel_trans ?_ (by with_reducible assumption)))))),hap.out⟩;have R4:=S3.out.1.below B4.out;have r0:w4.cell? ⟨w.heap.size,0,none⟩=some (.slice none 0 0):=R4.cell 0 rfl;have f0:=R4.frozen 0;have r1:w4.cell? ⟨w.heap.size,1,none⟩=some (.slice none 0 0):=R4.cell 1 rfl;have f1:=R4.frozen 1;have r2:w4.cell? ⟨w.heap.size,2,none⟩=some (.slice none 0 0):=R4.cell 2 rfl;have f2:=R4.frozen 2;have r3:w4.cell? ⟨w.heap.size,3,none⟩=some (.int .i64 0):=R4.cell 3 rfl;have f3:=R4.frozen 3;have r4:w4.cell? ⟨w.heap.size,4,none⟩=some (.int .i64 0):=R4.cell 4 rfl;have f4:=R4.frozen 4;have r5:w4.cell? ⟨w.heap.size,5,none⟩=some (.int .i64 0):=R4.cell 5 rfl;have f5:=R4.frozen 5;clear o4))
  all_goals
   go_wp2
   have R4:StB w4 w.heap.size 30 zeR:=S3.out.1.below B4.out
   have G6:=put6_grown w4 w.heap.size (.slice ao (zerosI n).length ac) (.slice bo (zerosI n).length bc) (.slice ko Hd.new.ks.length kc) Hd.new
   refine bodyPost_ret (results_S2 Tryz.isR rfl _ _ w.heap.size (srA (.slice ao (zerosI n).length ac) (.slice bo (zerosI n).length bc) (.slice ko Hd.new.ks.length kc) Hd.new) _ rfl rfl rfl (put6_st (.slice ao (zerosI n).length ac) (.slice bo (zerosI n).length bc) (.slice ko Hd.new.ks.length kc) Hd.new R4)) rfl ?_
   have B5:=S3.out.2.1.trans (B4.out.mono S3.out.2.1.size)
   exact⟨_,_,_,rfl,(O4.out.keptLt G6 (by omega)).mono (by omega),B5.grown G6 B5.size (fun k e=>by cases e;omega)⟩
structure Dp (w wx:World) (u v q:Value) (h:Hd):Prop where
 st:StB wx w.heap.size 30 (srA u v q h)
 rs:StB wx (w.heap.size+1) 30 zeR
 bl:Below w.heap.size w wx
 sz:w.heap.size+2≤wx.heap.size
theorem Dp.next {w wx wy:World} {u v q:Value} {h:Hd} (d:Dp w wx u v q h) (b:Below wx.heap.size wx wy):Dp w wy u v q h:=
 ⟨d.st.below b,d.rs.below b,d.bl.trans (b.mono d.bl.size),Nat.le_trans d.sz b.size⟩
theorem Dp.grown {w wx wy:World} {u v q:Value} {h:Hd} {g:Nat} (d:Dp w wx u v q h) (b:wx.grownBy wy (some g)) (hg:w.heap.size+2≤g):Dp w wy u v q h:=
 ⟨d.st.kept b (by simp;omega),d.rs.kept b (by simp;omega),d.bl.grown b d.bl.size (fun k e=>by cases e;omega),Nat.le_trans d.sz b.size⟩
end Go.Proofs.YtpdggofaobmnlaaGreatDoor
namespace Go.Proofs.YtpdggofaobmnlaaGreatDoor
open Go.ChangeShapes Go.WideShapes Go.ChangeAt Go.RowKit
def rowA (f:Nat→Int):Array Value:=#[.int .i64 (f 0),.int .i64 (f 1),.int .i64 (f 2),.int .i64 (f 3),.int .i64 (f 4),.int .i64 (f 5),.int .i64 (f 6),.int .i64 (f 7)]
def Row (w:World) (g:Nat) (f:Nat→Int):Prop:=w.heap[g]?=some (.cells (rowA f) 112 (0,0))
def upd (f:Nat→Int) (j:Nat) (x:Int):Nat→Int:=fun k=>if k=j then x else f k
theorem eight {p:Nat→Prop} (h0:p 0) (h1:p 1) (h2:p 2) (h3:p 3) (h4:p 4) (h5:p 5) (h6:p 6) (h7:p 7):∀j,j<8→p j
 |0,_=>h0|1,_=>h1|2,_=>h2|3,_=>h3|4,_=>h4|5,_=>h5|6,_=>h6|7,_=>h7
 |_+8,h=>by omega
theorem rowA_at (f:Nat→Int):∀j,j<8→(rowA f)[j]?=some (.int .i64 (f j)):=eight rfl rfl rfl rfl rfl rfl rfl rfl
theorem rowA_set (f:Nat→Int) (x:Int):∀j,j<8→(rowA f).setIfInBounds j (.int .i64 x)=rowA (upd f j x):=eight rfl rfl rfl rfl rfl rfl rfl rfl
theorem rowA_size (f:Nat→Int):(rowA f).size=8:=rfl
theorem rowA_one (f:Nat→Int):(rowA f).all (·.oneCell')=true:=by simp[rowA,Value.oneCell']
theorem rowA_congr {f g:Nat→Int} (h:∀j,j<8→f j=g j):rowA f=rowA g:=by
 simp[rowA,h 0,h 1,h 2,h 3,h 4,h 5,h 6,h 7]
theorem Row.cell {w:World} {g:Nat} {f:Nat→Int} (h:Row w g f) (j:Nat) (hj:j<8):w.cell? ⟨g,j,none⟩=some (.int .i64 (f j)):=by
 rw[cell_of_row w g j _ _ _ h,rowA_at f j hj]
theorem Row.frozen {w:World} {g:Nat} {f:Nat→Int} (h:Row w g f) (j:Nat):w.frozen? ⟨g,j,none⟩=false:=frozen_of_row w g j _ _ h
theorem Row.lt {w:World} {g:Nat} {f:Nat→Int} (h:Row w g f):g<w.heap.size:=by
 rcases Nat.lt_or_ge g w.heap.size with hlt|hge
 ·exact hlt
 ·rw[Row,Array.getElem?_eq_none hge]at h;cases h
theorem Row.below {w w':World} {g:Nat} {f:Nat→Int} (h:Row w g f) (hb:Below w.heap.size w w'):Row w' g f:=(hb.block g h.lt).trans h
theorem Row.alloc {w:World} {g:Nat} {f:Nat→Int} (h:Row w g f) (o:Obj):Row (w.alloc o) g f:=(Below.heap_alloc w o g h.lt).trans h
theorem Row.new (w:World) (f:Nat→Int):Row (w.alloc (.cells (rowA f) 112)) w.heap.size f:=heap_alloc_new w _
theorem Row.setCell {w:World} {g:Nat} {f:Nat→Int} (h:Row w g f) (j:Nat) (hj:j<8) (x:Int):Row (w.setCell ⟨g,j,none⟩ (.int .i64 x)) g (upd f j x):=by
 have:=heap_setCell_same w g j _ _ (.int .i64 x) h
 rw[rowA_set f x j hj]at this
 exact this
theorem Row.other {w:World} {g:Nat} {f:Nat→Int} (h:Row w g f) (a:Addr) (v:Value) (hne:g≠a.block):Row (w.setCell a v) g f:=(heap_setCell_other w a g v hne).trans h
theorem Row.setRow {w:World} {g:Nat} {f:Nat→Int} (h:Row w g f) (f':Nat→Int):Row (w.setRow g (rowA f')) g f':=setRow_heap w g _ _ _ _ h
theorem Row.setRow_other {w:World} {g k:Nat} {f:Nat→Int} (h:Row w g f) (cs:Array Value) (hne:g≠k):Row (w.setRow k cs) g f:=(_root_.Go.setRow_other w k g cs hne).trans h
theorem below_row {B g:Nat} {w0 w:World} (h:Below B w0 w) (hB:B≤g) (cs:Array Value):Below B w0 (w.setRow g cs):=
 h.trans ⟨rfl,rfl,rfl,by simp,fun k hk=>_root_.Go.setRow_other w g k cs (by omega)⟩
theorem Tryz.info8 (f:Nat→Int):(Tryz.prog.info? 112).map (·.size)=some (rowA f).size:=by
 rw[rowA_size];kernel_rfl
theorem Tryz.under8:Tryz.prog.underlying 112=some (.array 8 2):=by kernel_rfl
theorem grown_setRow (w:World) (g:Nat) (cs:Array Value):w.grownBy (w.setRow g cs) (some g):=
 ⟨rfl,rfl,rfl,by simp,fun k _ hne=>_root_.Go.setRow_other w g k cs (fun e=>hne (by rw[e]))⟩
theorem Row.kept {w w':World} {g:Nat} {f:Nat→Int} {row:Option Nat} (h:Row w g f) (hg:w.grownBy w' row) (hne:some g≠row):Row w' g f:=(hg.block g h.lt hne).trans h
theorem wpList_get8 {ops:Array Oper} {rest:List Oper} {o:Oper} {a:Act} {w:World} {Q:Exit→Act→World→Prop} (hgd:o.guard=none) (x:Operand) (ho:o.op=.load 112 x)
  (g:Nat) (hx:a.eval x=.pointer (some ⟨g,0,none⟩)) (f:Nat→Int) (hr:Row w g f)
  (h:wpList Tryz.prog ops Q rest (a.put o.dst (.agg (rowA f))) w):wpList Tryz.prog ops Q (o::rest) a w:=
 wpList_load_row hgd _ x ho g hx _ _ _ _ hr Tryz.under8 rfl (Tryz.info8 f) h
theorem wpList_put8 {ops:Array Oper} {rest:List Oper} {o:Oper} {a:Act} {w:World} {Q:Exit→Act→World→Prop} (hgd:o.guard=none) (x y:Operand) (ho:o.op=.store 112 x y)
  (g:Nat) (f:Nat→Int) (hx:a.eval x=.pointer (some ⟨g,0,none⟩)) (hy:a.eval y=.agg (rowA f)) (old:Nat→Int) (hr:Row w g old)
  (h:∀w',Row w' g f→w.grownBy w' (some g)→wpList Tryz.prog ops Q rest (a.put o.dst undef) w'):wpList Tryz.prog ops Q (o::rest) a w:=
 wpList_store_row hgd _ x y ho g (rowA f) hx hy _ _ hr (Tryz.info8 f) rfl (rowA_one f) (h _ (hr.setRow f) (grown_setRow w g _))
theorem val_any (x:Int) (w:World):
  Calls Tryz.prog 159 #[.int .i64 x] w fun e w'=>e=.returned (.bool (valOk x))∧w'=w:=by
 by_cases h0:0≤x
 ·by_cases h1:x≤9999
  ·rw[valOk_yes h0 h1]
   go_enter Tryz.func159,Tryz.ntmps159
   go_wp2
   go_ret
   exact⟨ret_bool (by simp),rfl⟩
  ·rw[valOk_no (by omega)]
   go_enter Tryz.func159,Tryz.ntmps159
   go_wp2
   go_ret
   exact⟨ret_bool (by simp),rfl⟩
 ·rw[valOk_no (by omega)]
  go_enter Tryz.func159,Tryz.ntmps159
  go_wp2
  go_ret
  exact⟨ret_bool (by simp),rfl⟩
theorem cnt_any (x:Int) (w:World):
  Calls Tryz.prog 83 #[.int .i64 x] w fun e w'=>e=.returned (.bool (cntOk x))∧w'=w:=by
 by_cases h0:1≤x
 ·by_cases h1:x≤8
  ·rw[cntOk_yes h0 h1]
   go_enter Tryz.func83,Tryz.ntmps83
   go_wp2
   go_ret
   exact⟨ret_bool (by simp),rfl⟩
  ·rw[cntOk_no (by omega)]
   go_enter Tryz.func83,Tryz.ntmps83
   go_wp2
   go_ret
   exact⟨ret_bool (by simp),rfl⟩
 ·rw[cntOk_no (by omega)]
  go_enter Tryz.func83,Tryz.ntmps83
  go_wp2
  go_ret
  exact⟨ret_bool (by simp),rfl⟩
end Go.Proofs.YtpdggofaobmnlaaGreatDoor
namespace Go.Proofs.YtpdggofaobmnlaaGreatDoor
open Go.ChangeShapes Go.WideShapes Go.ChangeAt Go.RowKit
def partF (xs:List Int) (j:Nat):Nat→Int:=fun k=>if k<j then xs.getD k 0 else 0
def rowF (xs:List Int):Nat→Int:=fun j=>if blocksOk xs then xs.getD j 0 else 0
theorem partF_step (xs:List Int) (j:Nat):upd (partF xs j) j (xs.getD j 0)=partF xs (j+1):=by
 funext k
 unfold upd partF
 by_cases e:k=j
 ·subst e;simp
 ·have:k<j+1↔k<j:=by omega
  simp[e,this]
theorem partF_zero (xs:List Int):partF xs 0=fun _=>0:=by funext k;simp[partF]
theorem partF_full (xs:List Int):partF xs xs.length=fun k=>xs.getD k 0:=by
 funext k
 unfold partF
 split
 ·rfl
 ·rw[getD_past xs k (by omega)]
theorem results_row {fn:Func} {p u:Tmp} (h:fn.results=#[.cell p 112,.tmp u]) (tmps:Array Value) (w:World) (g:Nat) (f:Nat→Int) (x:Value)
  (hp:tmps.getD p undef=.pointer (some ⟨g,0,none⟩)) (hx:tmps.getD u undef=x) (hr:Row w g f):
  (results fn tmps).run Tryz.prog w=.ok (.tuple #[.agg (rowA f),x]) w:=by
 rw[results_cell_tmp h,hp,hx]
 simp only[asAddr,Sem.run_pure,Result.andThen_ok]
 rw[run_loadVar_row w g _ _ _ _ _ hr Tryz.under8 rfl (Tryz.info8 f)]
 rfl
theorem rowF_yes {xs:List Int} (h:blocksOk xs=true):rowF xs=fun k=>xs.getD k 0:=by funext k;simp[rowF,h]
theorem rowF_no {xs:List Int} (h:blocksOk xs=false):rowF xs=fun _=>0:=by funext k;simp[rowF,h]
theorem row_zero:(#[.int .i64 0,.int .i64 0,.int .i64 0,.int .i64 0,.int .i64 0,.int .i64 0,.int .i64 0,.int .i64 0]:Array Value)=rowA (fun _=>0):=rfl
def RowRel (xs:List Int) (w wr:World) (j:Nat):Prop:=Row wr w.heap.size (fun _=>0)∧Row wr (w.heap.size+1) (partF xs j)∧(xs.take j).all valOk=true∧Below w.heap.size w wr
theorem RowRel.start (xs:List Int) (w:World):RowRel xs w ((w.alloc (.cells (rowA fun _=>0) 112)).alloc (.cells (rowA fun _=>0) 112)) 0:=by
 refine⟨(Row.new w _).alloc _,?_,by simp,((Below.refl _ _).alloc (Nat.le_refl _) _).alloc (by simp) _⟩
 have:=Row.new (w.alloc (.cells (rowA fun _=>0) 112)) (fun _=>0)
 rw[partF_zero]
 simpa using this
theorem rowOf_any (v:Value) (xs:List Int) (w:World) (h:Reads w v xs) (hbig:xs.length≤1099511627776):
  Calls Tryz.prog 136 #[v] w fun e w'=>e=.returned (.tuple #[.agg (rowA (rowF xs)),.bool (blocksOk xs)])∧Below w.heap.size w w':=by
 obtain⟨ao,cap,rfl⟩:=h.form
 obtain⟨-,la,ma,hcell⟩:=h.cellOf
 clear h
 obtain⟨n,hn⟩:∃n,n=xs.length:=⟨_,rfl⟩
 rw[←hn]at la hcell hbig⊢
 have HN:Hid (n=xs.length):=hn
 clear hn
 unfold maxLen at ma
 by_cases hc:cntOk (n:Int)=true
 ·have h8:n≤8:=by simp[cntOk]at hc;omega
  have HL:Hid (lenOk xs.length=true):=by rw[Hid,←HN.out];exact hc
  go_enter Tryz.func136,Tryz.ntmps136
  go_wp2_with (first|(go_at_call 83;refine(cnt_any _ _).mono ?_;rw[hc];rintro e w' ⟨rfl,hw⟩;subst w'))
  clear hc
  go_loopw [14] (fun i wr=>∃j:Nat,j≤n∧i=.int .i64 j∧Hid (RowRel xs w wr j)) (fun i _=>n-(intOf i).toNat)
  case atStart=>exact⟨0,Nat.zero_le _,rfl,RowRel.start xs w⟩
  case round=>
   obtain⟨j,hj,rfl,HR⟩:=hrel
   by_cases hlt:(j:Int)<(n:Int)
   ·obtain⟨b,off,rfl,hb,hc0⟩:=hcell j (by omega)
    have hc1:=(HR.out.2.2.2.cell (p:=⟨b,off+j,none⟩) hb).trans hc0
    obtain⟨x,hx⟩:∃x,x=xs.getD j 0:=⟨_,rfl⟩
    rw[←hx]at hc1
    clear hc0 hcell
    by_cases hv:valOk x=true
    ·have hfr:=HR.out.2.1.frozen j
     have hcc:=HR.out.2.1.cell j (by omega)
     have HS:Hid (RowRel xs w (wr.setCell ⟨w.heap.size+1,j,none⟩ (.int .i64 x)) (j+1)):=by
      obtain⟨r1,r2,r3,r4⟩:=HR.out
      refine⟨r1.other _ _ (by simp),?_,all_snoc (by have:=HN.out;omega) r3 (by rw[←hx];exact hv),r4.setCell (by simp) _⟩
      have:=r2.setCell j (by omega) x
      rwa[hx,partF_step,←hx]at this
     clear hx HR
     go_wp2_with (first|(go_at_call 159;refine(val_any _ _).mono ?_;rw[hv];rintro e w' ⟨rfl,hw⟩;subst w'))
     go_roundw
     case rel=>exact⟨j+1,by omega,by go_num,HS⟩
     case measure=>simp[intOf];omega
    ·have hv':valOk x=false:=by simpa using hv
     have HB:Hid (blocksOk xs=false):=by
      simp[Hid,blocksOk,all_not (xs:=xs) (j:=j) (by have:=HN.out;omega) (by rw[←hx];exact hv')]
     have hrow:=HR.out.1
     clear hx hv
     go_wp2_with (first|(go_at_call 159;refine(val_any _ _).mono ?_;rw[hv'];rintro e w' ⟨rfl,hw⟩;subst w')|(refine wpList_store_row rfl 112 _ _ rfl w.heap.size (rowA fun _=>0) rfl rfl _ _ hrow (Tryz.info8 _) rfl (rowA_one _) ?_))
     refine bodyPost_ret (results_row rfl _ _ w.heap.size (fun _=>0) _ rfl rfl (hrow.setRow _)) rfl ?_
     rw[HB.out,rowF_no HB.out]
     exact⟨rfl,below_row HR.out.2.2.2 (Nat.le_refl _) _⟩
   ·have hrow:=HR.out.1
    have hrow2:=HR.out.2.1
    go_wp2_with (first|(refine wpList_load_row rfl 112 _ rfl (w.heap.size+1) rfl _ _ _ _ hrow2 Tryz.under8 rfl (Tryz.info8 _) ?_)|(refine wpList_store_row rfl 112 _ _ rfl w.heap.size (rowA (partF xs j)) rfl rfl _ _ hrow (Tryz.info8 _) rfl (rowA_one _) ?_))
    refine bodyPost_ret (results_row rfl _ _ w.heap.size (partF xs j) _ rfl rfl (hrow.setRow _)) rfl ?_
    have e:j=xs.length:=by have:=HN.out;omega
    have HB:blocksOk xs=true:=by
     have:=HR.out.2.2.1
     rw[e,List.take_length]at this
     simp[blocksOk,this,HL.out]
    rw[HB,rowF_yes HB,e,partF_full]
    exact⟨rfl,below_row HR.out.2.2.2 (Nat.le_refl _) _⟩
 ·have hc':cntOk (n:Int)=false:=by simpa using hc
  have HB:Hid (blocksOk xs=false):=by
   have:=HN.out
   rw[cntOk_len,this]at hc'
   simp[Hid,blocksOk,hc']
  clear hc
  go_enter Tryz.func136,Tryz.ntmps136
  go_wp2_with (first|(go_at_call 83;refine(cnt_any _ _).mono ?_;rw[hc'];rintro e w' ⟨rfl,hw⟩;subst w'))
  refine bodyPost_ret (results_row rfl _ _ w.heap.size (fun _=>0) _ rfl rfl (RowRel.start xs w).1) rfl ?_
  rw[HB.out,rowF_no HB.out]
  exact⟨rfl,((Below.refl _ _).alloc (Nat.le_refl _) _).alloc (by simp) _⟩
end Go.Proofs.YtpdggofaobmnlaaGreatDoor
