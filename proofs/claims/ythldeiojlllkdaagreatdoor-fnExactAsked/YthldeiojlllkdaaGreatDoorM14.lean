/- When a house is right, plainly, in the program's own order of tests. -/
import Derived.Test.YthldeiojlllkdaaGreatDoorM1
import Derived.Test.YthldeiojlllkdaaGreatDoorM8
import Derived.Test.YthldeiojlllkdaaGreatDoorM13
import Derived.Test.YthldeiojlllkdaaGreatDoorM3
import Derived.Test.YthldeiojlllkdaaGreatDoorM5
import Derived.Test.YthldeiojlllkdaaGreatDoorM11
import Derived.Deep.DeepCutAuto
import Derived.Test.YthldeiojlllkdaaGreatDoorM4
import Derived.Test.YthldeiojlllkdaaGreatDoorM12
import Derived.Laws.Tables
import Derived.Laws.ResultCell
import Derived.ChangeKeysEq
import Derived.BigRegion
set_option maxRecDepth 20000
set_option maxHeartbeats 8000000
namespace Go.Proofs.YthldeiojlllkdaaGreatDoor
open Go.ChangeShapes Go.WideShapes Go.ChangeAt Go.RowKit
section
open Go.RowKit
theorem Bp (l:List (Bs×Nat)):∀a:Option (Rc×Nat),(∀x,a=some x->x.1.ok=true)->∀x,l.foldl gg a=some x->x.1.ok=true:=by
 induction l with
 |nil=>intro a h x e;exact h x e
 |cons y l ih=>
  intro a h x e;refine ih (gg a y) (fun z hz=>?_) x e;unfold gg at hz;split at hz
  ·rename_i r hr
   simp only[Option.some.injEq]at hz;rw[<-hz];exact Bu _ _ hr
  ·exact h z hz
theorem zK (s:Bs) (h:(aE s).isSome=true):(gQ (aE s)).ok=true:=by
 cases e:aE s with
 |none=>rw[e]at h;cases h
 |some x=>exact Bp (bR s) none (fun _ h=>by cases h) x e
def Nd.logP (n:Nd):Bool:=decide (n.log.length<=40000)&&((aE n.log).isSome&&d8 (gQ (aE n.log)) n.r&&(!n.up||decide (n.log.take (recAt (aE n.log))=n.log)))
def Nd.copP (n:Nd):Bool:=n.c.unused||(n.up&&decide (n.r.s≠3)&&decide (n.c.tr=n.r.t)&&n.c.ok&&decide (n.c.ts.length=n.ys.length))
def Nd.snkP (n:Nd):Bool:=n.s.unused||(n.up&&decide (n.r.s=3)&&decide (n.s.tr=n.r.n)&&n.s.ok&&decide (n.s.ts.length=n.ys.length))
theorem Cp.unused_tr {c:Cp} (h:c.unused=true):c.tr=0:=by
 unfold Cp.unused at h;simp only[Bool.and_eq_true,decide_eq_true_eq]at h;exact h.1.1.1.1
theorem Cp.used_tr {c:Cp} (h:c.unused=false) (ho:c.ok=true):c.tr≠0:=by
 rw[Cp.ok_used h]at ho;simp only[Bool.and_eq_true,inI,decide_eq_true_eq]at ho;intro e;have:=ho.1.1.1;omega
theorem Sn.unused_tr {c:Sn} (h:c.unused=true):c.tr=0:=by
 unfold Sn.unused at h;simp only[Bool.and_eq_true,decide_eq_true_eq]at h;exact h.1
theorem Sn.used_tr {c:Sn} (h:c.unused=false) (ho:c.ok=true):c.tr≠0:=by
 rw[Sn.ok_used h]at ho;simp only[Bool.and_eq_true,inI,decide_eq_true_eq]at ho;intro e;have:=ho.1;omega
theorem Nd.ok_prog (n:Nd):n.ok=(inI n.id 0 1&&(Sr.ok ⟨n.xs,n.ys,n.h⟩&&(n.logP&&(n.copP&&n.snkP)))):=by
 have hl:=jB n.log;rw[Bool.eq_iff_iff,Nd.ok_iff];unfold Sr.ok Nd.logP;simp only[Bool.and_eq_true,decide_eq_true_eq,mg];constructor
 ·intro h
  refine⟨h.id,⟨h.dk,h.h⟩,⟨h.ll,⟨h.lg.is,h.lg.rc⟩,?_⟩,?_,?_⟩
  ·cases hu:n.up with
   |false=>rfl
   |true=>
    simp only[Bool.not_true,Bool.false_or,decide_eq_true_eq];exact(lx _ _ hl).2 (h.lg.al hu)
  ·unfold Nd.copP
   cases hc:n.c.unused with
   |true=>rfl
   |false=>
    have ht:=Cp.used_tr hc h.c;obtain⟨q1,q2,q3⟩:=h.cp ht;have hu:n.up=true:=by
     cases hu:n.up with
     |true=>rfl
     |false=>exact absurd (h.dn hu).1 ht
    simp[hu,q1,h.c,q3,<-q2]
  ·unfold Nd.snkP
   cases hc:n.s.unused with
   |true=>rfl
   |false=>
    have ht:=Sn.used_tr hc h.s;obtain⟨q1,q2,q3⟩:=h.sk ht;have hu:n.up=true:=by
     cases hu:n.up with
     |true=>rfl
     |false=>exact absurd (h.dn hu).2 ht
    simp[hu,q1,h.s,q3,<-q2]
 ·rintro⟨h1,⟨h2,h3⟩,⟨h4,⟨h5,h6⟩,h7⟩,h8,h9⟩
  have hc:n.c.ok=true/\(n.up=false->n.c.tr=0)/\(n.c.tr≠0->n.r.s≠3/\n.c.tr=n.r.t/\n.c.ts.length=n.ys.length):=by
   unfold Nd.copP at h8;cases hc:n.c.unused with
   |true=>exact⟨Cp.ok_unused hc,fun _=>Cp.unused_tr hc,fun e=>absurd (Cp.unused_tr hc) e⟩
   |false=>
    rw[hc]at h8;simp only[Bool.false_or,Bool.and_eq_true,decide_eq_true_eq]at h8;obtain⟨⟨⟨⟨a1,a2⟩,a3⟩,a4⟩,a5⟩:=h8;exact⟨a4,fun e=>by rw[a1]at e;(cases e),fun _=>⟨a2,a3,a5⟩⟩
  have hs:n.s.ok=true/\(n.up=false->n.s.tr=0)/\(n.s.tr≠0->n.r.s=3/\n.s.tr=n.r.n/\n.s.ts.length=n.ys.length):=by
   unfold Nd.snkP at h9;cases hc:n.s.unused with
   |true=>exact⟨Sn.ok_unused hc,fun _=>Sn.unused_tr hc,fun e=>absurd (Sn.unused_tr hc) e⟩
   |false=>
    rw[hc]at h9;simp only[Bool.false_or,Bool.and_eq_true,decide_eq_true_eq]at h9;obtain⟨⟨⟨⟨a1,a2⟩,a3⟩,a4⟩,a5⟩:=h9;exact⟨a4,fun e=>by rw[a1]at e;(cases e),fun _=>⟨a2,a3,a5⟩⟩
  have hr:n.r.ok=true:=by rw[<-h6];exact zK n.log h5
  refine⟨h1,h2,h3,hr,h4,hc.1,hs.1,⟨h5,h6,fun hu=>?_⟩,fun hu=>⟨hc.2.1 hu,hs.2.1 hu⟩,hc.2.2,hs.2.2⟩;rw[hu]at h7;simp only[Bool.not_true,Bool.false_or,decide_eq_true_eq]at h7;exact(lx _ _ hl).1 h7
end
theorem zj (x:Int) (w:World):
  Calls Tryz.prog 62 #[.int .i64 x] w fun e w'=>e=.returned (.bool (inI x 0 1))/\w'=w:=by
 by_cases h0:0<=x
 ·by_cases h1:x<=1
  ·rw[show inI x 0 1=true by simp[inI,h0,h1]]
   go_enter Tryz.func62,Tryz.ntmps62;go_wp2;go_ret;exact⟨af (by simp<;>omega),rfl⟩
  ·rw[show inI x 0 1=false by simp[inI];omega]
   go_enter Tryz.func62,Tryz.ntmps62;go_wp2;go_ret;exact⟨af (by simp<;>omega),rfl⟩
 ·rw[show inI x 0 1=false by simp[inI];omega]
  go_enter Tryz.func62,Tryz.ntmps62;go_wp2;go_ret;exact⟨af (by simp<;>omega),rfl⟩
theorem Tryz.isR:IsS 96 6:=⟨⟨_,Tryz.underlying96⟩,by kernel_rfl⟩
def aY (w:World) (base:Nat) (a b k:Value) (xs ys ks:List Int):Prop:=aS w base a b xs ys/\Own w base k ks/\apart a k/\apart b k
def zeR:Array Value:=#[.slice none 0 0,.slice none 0 0,.slice none 0 0,.int .i64 0,.int .i64 0,.int .i64 0]
theorem ec {a b k:Value} (h:Hd) (ha:a.oneCell'=true) (hb:b.oneCell'=true) (hk:k.oneCell'=true):(srA a b k h).all (·.oneCell')=true:=by
 unfold srA;simp[ha,hb,hk,show∀k n,(Value.int k n).oneCell'=true from fun _ _=>rfl]
theorem aY.below {w w':World} {base:Nat} {a b k:Value} {xs ys ks:List Int} (h:aY w base a b k xs ys ks) (e:bB w w'):aY w' base a b k xs ys ks:=
 ⟨⟨h.1.1.below e,h.1.2.1.below e,h.1.2.2⟩,h.2.1.below e,h.2.2⟩
theorem aY.mono {w:World} {base base':Nat} {a b k:Value} {xs ys ks:List Int} (h:aY w base a b k xs ys ks) (e:base'<=base):aY w base' a b k xs ys ks:=
 ⟨⟨h.1.1.mono e,h.1.2.1.mono e,h.1.2.2⟩,h.2.1.mono e,h.2.2⟩
theorem aY.keptLt {w w':World} {base g:Nat} {a b k:Value} {xs ys ks:List Int} (h:aY w base a b k xs ys ks) (e:w.grownBy w' (some g)) (hg:g<base):aY w' base a b k xs ys ks:=
 ⟨⟨h.1.1.keptLt e hg,h.1.2.1.keptLt e hg,h.1.2.2⟩,h.2.1.keptLt e hg,h.2.2⟩
theorem aY.nil (w:World) (base:Nat):aY w base (.slice none 0 0) (.slice none 0 0) (.slice none 0 0) [] [] []:=
 ⟨⟨Own.nil w base,Own.nil w base,⟨.inl rfl,.inl rfl⟩⟩,Own.nil w base,⟨.inl rfl,.inl rfl⟩,⟨.inl rfl,.inl rfl⟩⟩
section
open Go.ChangeShapes Go.WideShapes Go.ChangeAt Go.RowKit
end
def ee (f:Nat->Int):Array Value:=#[.int .i64 (f 0),.int .i64 (f 1),.int .i64 (f 2),.int .i64 (f 3),.int .i64 (f 4),.int .i64 (f 5),.int .i64 (f 6),.int .i64 (f 7)]
def upd (f:Nat->Int) (j:Nat) (x:Int):Nat->Int:=fun k=>if k=j then x else f k
def Row (w:World) (g:Nat) (f:Nat->Int):Prop:=w.heap[g]?=some (.cells (ee f) 159 (0,0))
theorem pW {p:Nat->Prop} (h0:p 0) (h1:p 1) (h2:p 2) (h3:p 3) (h4:p 4) (h5:p 5) (h6:p 6) (h7:p 7):∀j,j<8->p j
 |0,_=>h0|1,_=>h1|2,_=>h2|3,_=>h3|4,_=>h4|5,_=>h5|6,_=>h6|7,_=>h7
 |_+8,h=>by omega
theorem Ca (f:Nat->Int):∀j,j<8->(ee f)[j]?=some (.int .i64 (f j)):=pW rfl rfl rfl rfl rfl rfl rfl rfl
theorem Al (f:Nat->Int) (x:Int):∀j,j<8->(ee f).setIfInBounds j (.int .i64 x)=ee (upd f j x):=pW rfl rfl rfl rfl rfl rfl rfl rfl
theorem yu (f:Nat->Int):(ee f).size=8:=rfl
theorem nF (f:Nat->Int):(ee f).all (·.oneCell')=true:=by simp[ee,Value.oneCell']
theorem vr {f g:Nat->Int} (h:∀j,j<8->f j=g j):ee f=ee g:=by
 simp[ee,h 0,h 1,h 2,h 3,h 4,h 5,h 6,h 7]
theorem Row.cell {w:World} {g:Nat} {f:Nat->Int} (h:Row w g f) (j:Nat) (hj:j<8):w.cell? ⟨g,j,none⟩=some (.int .i64 (f j)):=by
 rw[cell_of_row w g j _ _ _ h,Ca f j hj]
theorem Row.frozen {w:World} {g:Nat} {f:Nat->Int} (h:Row w g f) (j:Nat):w.frozen? ⟨g,j,none⟩=false:=frozen_of_row w g j _ _ h
theorem Row.lt {w:World} {g:Nat} {f:Nat->Int} (h:Row w g f):g<w.heap.size:=by
 rcases Nat.lt_or_ge g w.heap.size with hlt|hge
 ·exact hlt
 ·rw[Row,Array.getElem?_eq_none hge]at h;cases h
theorem Row.below {w w':World} {g:Nat} {f:Nat->Int} (h:Row w g f) (hb:bB w w'):Row w' g f:=(hb.block g h.lt).trans h
theorem Row.alloc {w:World} {g:Nat} {f:Nat->Int} (h:Row w g f) (o:Obj):Row (w.alloc o) g f:=(Below.heap_alloc w o g h.lt).trans h
theorem Row.new (w:World) (f:Nat->Int):Row (w.alloc (.cells (ee f) 159)) w.heap.size f:=heap_alloc_new w _
theorem Row.setCell {w:World} {g:Nat} {f:Nat->Int} (h:Row w g f) (j:Nat) (hj:j<8) (x:Int):Row (w.setCell ⟨g,j,none⟩ (.int .i64 x)) g (upd f j x):=by
 have:=heap_setCell_same w g j _ _ (.int .i64 x) h;rw[Al f x j hj]at this;exact this
theorem Row.other {w:World} {g:Nat} {f:Nat->Int} (h:Row w g f) (a:Addr) (v:Value) (hne:g≠a.block):Row (w.setCell a v) g f:=(heap_setCell_other w a g v hne).trans h
theorem Row.setRow {w:World} {g:Nat} {f:Nat->Int} (h:Row w g f) (f':Nat->Int):Row (w.setRow g (ee f')) g f':=setRow_heap w g _ _ _ _ h
theorem pX {B g:Nat} {w0 w:World} (h:Below B w0 w) (hB:B<=g) (cs:Array Value):Below B w0 (w.setRow g cs):=
 h.trans ⟨rfl,rfl,rfl,by simp,fun k hk=>_root_.Go.setRow_other w g k cs (by omega)⟩
theorem Tryz.info8 (f:Nat->Int):(Tryz.prog.info? 159).map (·.size)=some (ee f).size:=by
 rw[yu];kernel_rfl
theorem Tryz.under8:Tryz.prog.underlying 159=some (.array 8 2):=by kernel_rfl
theorem rp (w:World) (g:Nat) (cs:Array Value):w.grownBy (w.setRow g cs) (some g):=
 ⟨rfl,rfl,rfl,by simp,fun k _ hne=>_root_.Go.setRow_other w g k cs (fun e=>hne (by rw[e]))⟩
theorem Row.kept {w w':World} {g:Nat} {f:Nat->Int} {row:Option Nat} (h:Row w g f) (hg:w.grownBy w' row) (hne:some g≠row):Row w' g f:=(hg.block g h.lt hne).trans h
theorem gZ {ops:Array Oper} {rest:List Oper} {o:Oper} {a:Act} {w:World} {Q:Exit->Act->World->Prop} (hgd:o.guard=none) (x:Operand) (ho:o.op=.load 159 x)
  (g:Nat) (hx:a.eval x=.pointer (some ⟨g,0,none⟩)) (f:Nat->Int) (hr:Row w g f)
  (h:wpList Tryz.prog ops Q rest (a.put o.dst (.agg (ee f))) w):wpList Tryz.prog ops Q (o::rest) a w:=
 wpList_load_row hgd _ x ho g hx _ _ _ _ hr Tryz.under8 rfl (Tryz.info8 f) h
theorem dF {ops:Array Oper} {rest:List Oper} {o:Oper} {a:Act} {w:World} {Q:Exit->Act->World->Prop} (hgd:o.guard=none) (x y:Operand) (ho:o.op=.store 159 x y)
  (g:Nat) (f:Nat->Int) (hx:a.eval x=.pointer (some ⟨g,0,none⟩)) (hy:a.eval y=.agg (ee f)) (old:Nat->Int) (hr:Row w g old)
  (h:∀w',Row w' g f->w.grownBy w' (some g)->wpList Tryz.prog ops Q rest (a.put o.dst undef) w'):wpList Tryz.prog ops Q (o::rest) a w:=
 wpList_store_row hgd _ x y ho g (ee f) hx hy _ _ hr (Tryz.info8 f) rfl (nF f) (h _ (hr.setRow f) (rp w g _))
theorem jo (x:Int) (w:World):
  Calls Tryz.prog 212 #[.int .i64 x] w fun e w'=>e=.returned (.bool (bM x))/\w'=w:=by
 by_cases h0:0<=x
 ·by_cases h1:x<=9999
  ·rw[qF h0 h1]
   go_enter Tryz.func212,Tryz.ntmps212;go_wp2;go_ret;exact⟨af (by simp),rfl⟩
  ·rw[lC (by omega)]
   go_enter Tryz.func212,Tryz.ntmps212;go_wp2;go_ret;exact⟨af (by simp),rfl⟩
 ·rw[lC (by omega)]
  go_enter Tryz.func212,Tryz.ntmps212;go_wp2;go_ret;exact⟨af (by simp),rfl⟩
theorem xP (x:Int) (w:World):
  Calls Tryz.prog 186 #[.int .i64 x] w fun e w'=>e=.returned (.bool (iV x))/\w'=w:=by
 by_cases h0:1<=x
 ·by_cases h1:x<=8
  ·rw[yv h0 h1]
   go_enter Tryz.func186,Tryz.ntmps186;go_wp2;go_ret;exact⟨af (by simp),rfl⟩
  ·rw[sG (by omega)]
   go_enter Tryz.func186,Tryz.ntmps186;go_wp2;go_ret;exact⟨af (by simp),rfl⟩
 ·rw[sG (by omega)]
  go_enter Tryz.func186,Tryz.ntmps186;go_wp2;go_ret;exact⟨af (by simp),rfl⟩
def jU (xs:List Int) (j:Nat):Nat->Int:=fun k=>if k<j then xs.getD k 0 else 0
def oV (xs:List Int):Nat->Int:=fun j=>if aJ xs then xs.getD j 0 else 0
theorem xe (xs:List Int) (j:Nat):upd (jU xs j) j (xs.getD j 0)=jU xs (j+1):=by
 funext k
 unfold upd jU;by_cases e:k=j
 ·subst e;simp
 ·have:k<j+1↔k<j:=by omega
  simp[e,this]
theorem xf (xs:List Int):jU xs 0=fun _=>0:=by funext k;simp[jU]
theorem xg (xs:List Int):jU xs xs.length=fun k=>xs.getD k 0:=by
 funext k
 unfold jU;split
 ·rfl
 ·rw[yy xs k (by omega)]
theorem ji {fn:Func} {p u:Tmp} (h:fn.results=#[.cell p 159,.tmp u]) (tmps:Array Value) (w:World) (g:Nat) (f:Nat->Int) (x:Value)
  (hp:tmps.getD p undef=.pointer (some ⟨g,0,none⟩)) (hx:tmps.getD u undef=x) (hr:Row w g f):
  (results fn tmps).run Tryz.prog w=.ok (.tuple #[.agg (ee f),x]) w:=by
 rw[results_cell_tmp h,hp,hx];simp only[asAddr,Sem.run_pure,Result.andThen_ok];rw[run_loadVar_row w g _ _ _ _ _ hr Tryz.under8 rfl (Tryz.info8 f)];rfl
theorem uM {xs:List Int} (h:aJ xs=true):oV xs=fun k=>xs.getD k 0:=by funext k;simp[oV,h]
theorem su {xs:List Int} (h:aJ xs=false):oV xs=fun _=>0:=by funext k;simp[oV,h]
def mi (xs:List Int) (w wr:World) (j:Nat):Prop:=Row wr w.heap.size (fun _=>0)/\Row wr (w.heap.size+1) (jU xs j)/\(xs.take j).all bM=true/\bB w wr
theorem mi.start (xs:List Int) (w:World):mi xs w ((w.alloc (.cells (ee fun _=>0) 159)).alloc (.cells (ee fun _=>0) 159)) 0:=by
 refine⟨(Row.new w _).alloc _,?_,by simp,bA.alloc (by simp) _⟩;have:=Row.new (w.alloc (.cells (ee fun _=>0) 159)) (fun _=>0);rw[xf];simpa using this
theorem mj (v:Value) (xs:List Int) (w:World) (h:ag w v xs) (hbig:xs.length<=1099511627776):
  Calls Tryz.prog 176 #[v] w fun e w'=>e=.returned (.tuple #[.agg (ee (oV xs)),.bool (aJ xs)])/\bB w w':=by
 obtain⟨ao,cap,rfl⟩:=h.form;obtain⟨-,la,ma,hcell⟩:=h.cellOf;clear h;obtain⟨n,hn⟩:=eX xs.length
 rw[<-hn]at la hcell hbig⊢;have HN:Hid (n=xs.length):=hn;clear hn;unfold maxLen at ma;by_cases hc:iV (n:Int)=true
 ·have h8:n<=8:=by simp[iV]at hc;omega
  have HL:Hid (jJ xs.length=true):=by rw[Hid,<-HN.out];exact hc
  go_enter Tryz.func176,Tryz.ntmps176;go_wp2_with (first|(go_at_call 186;refine(xP _ _).mono ?_;rw[hc];rintro e w' ⟨rfl,hw⟩;subst w'))
  clear hc;go_loopw [14] (fun i wr=>∃j:Nat,j<=n/\i=.int .i64 j/\Hid (mi xs w wr j)) (fun i _=>n-(intOf i).toNat)
  case atStart=>exact⟨0,Nat.zero_le _,rfl,mi.start xs w⟩
  case round=>
   obtain⟨j,hj,rfl,HR⟩:=hrel;by_cases hlt:(j:Int)<(n:Int)
   ·obtain⟨b,off,rfl,hb,hc0⟩:=hcell j (by omega)
    have hc1:=(HR.out.2.2.2.cell (p:=⟨b,off+j,none⟩) hb).trans hc0;obtain⟨x,hx⟩:=eX (xs.getD j 0)
    rw[<-hx]at hc1;clear hc0 hcell;by_cases hv:bM x=true
    ·have hfr:=HR.out.2.1.frozen j
     have hcc:=HR.out.2.1.cell j (by omega);have HS:Hid (mi xs w (wr.setCell ⟨w.heap.size+1,j,none⟩ (.int .i64 x)) (j+1)):=by
      obtain⟨r1,r2,r3,r4⟩:=HR.out;refine⟨r1.other _ _ (by simp),?_,sI (by have:=HN.out;omega) r3 (by rw[<-hx];exact hv),r4.setCell (by simp) _⟩;have:=r2.setCell j (by omega) x
      rwa[hx,xe,<-hx]at this
     clear hx HR;go_wp2_with (first|(go_at_call 212;refine(jo _ _).mono ?_;rw[hv];rintro e w' ⟨rfl,hw⟩;subst w'))
     go_roundw
     case rel=>exact⟨j+1,by omega,by go_num,HS⟩
     case measure=>simp[intOf];omega
    ·have hv':bM x=false:=by simpa using hv
     have HB:Hid (aJ xs=false):=by
      simp[Hid,aJ,ry (xs:=xs) (j:=j) (by have:=HN.out;omega) (by rw[<-hx];exact hv')]
     have hrow:=HR.out.1;clear hx hv;go_wp2_with (first|(go_at_call 212;refine(jo _ _).mono ?_;rw[hv'];rintro e w' ⟨rfl,hw⟩;subst w')|(refine wpList_store_row rfl 159 _ _ rfl w.heap.size (ee fun _=>0) rfl rfl _ _ hrow (Tryz.info8 _) rfl (nF _) ?_))
     refine bodyPost_ret (ji rfl _ _ w.heap.size (fun _=>0) _ rfl rfl (hrow.setRow _)) rfl ?_;rw[HB.out,su HB.out];exact⟨rfl,pX HR.out.2.2.2 (Nat.le_refl _) _⟩
   ·have hrow:=HR.out.1
    have hrow2:=HR.out.2.1;go_wp2_with (first|(refine wpList_load_row rfl 159 _ rfl (w.heap.size+1) rfl _ _ _ _ hrow2 Tryz.under8 rfl (Tryz.info8 _) ?_)|(refine wpList_store_row rfl 159 _ _ rfl w.heap.size (ee (jU xs j)) rfl rfl _ _ hrow (Tryz.info8 _) rfl (nF _) ?_))
    refine bodyPost_ret (ji rfl _ _ w.heap.size (jU xs j) _ rfl rfl (hrow.setRow _)) rfl ?_;have e:j=xs.length:=by have:=HN.out;omega
    have HB:aJ xs=true:=by
     have:=HR.out.2.2.1;rw[e,List.take_length]at this;simp[aJ,this,HL.out]
    rw[HB,uM HB,e,xg];exact⟨rfl,pX HR.out.2.2.2 (Nat.le_refl _) _⟩
 ·have hc':iV (n:Int)=false:=by simpa using hc
  have HB:Hid (aJ xs=false):=by
   have:=HN.out;rw[yw,this]at hc';simp[Hid,aJ,hc']
  clear hc;go_enter Tryz.func176,Tryz.ntmps176;go_wp2_with (first|(go_at_call 186;refine(xP _ _).mono ?_;rw[hc'];rintro e w' ⟨rfl,hw⟩;subst w'))
  refine bodyPost_ret (ji rfl _ _ w.heap.size (fun _=>0) _ rfl rfl (mi.start xs w).1) rfl ?_;rw[HB.out,su HB.out];exact⟨rfl,bA.alloc (by simp) _⟩
def fd (f:Nat->Int) (n:Nat):List Int:=(List.range n).map f
theorem yR (f:Nat->Int) (n:Nat):(fd f n).length=n:=by simp[fd]
theorem vJ (xs:List Int):fd (fun k=>xs.getD k 0) xs.length=xs:=by
 apply List.ext_getElem
 ·simp[fd]
 ·intro j h1 h2
  simp[fd,List.getD,h2]
theorem kZ (f:Nat->Int) (n:Nat) (w:World) (h8:n<=8):
  Calls Tryz.prog 286 #[.agg (ee f),.int .i64 n] w fun e w'=>∃u,e=.returned u/\Own w' w.heap.size u (fd f n)/\bB w w':=by
 obtain⟨i0,hi,hz0,hz1,hz2⟩:=info_parts Tryz.infoI;have h8':(n:Int)<=8:=by omega
 obtain⟨w1,hw1⟩:=eX ((w.alloc (.cells (ee f) 159)).alloc (.cells #[] 2))
 have hown:w1.ownsRow w.heap.size 2 1 (.slice (some ⟨w.heap.size+1,0,none⟩) 0 0) 0 []:=by
  have:=World.ownsRow_lit (base:=w.heap.size) (e:=2) (size:=1) (w.alloc (.cells (ee f) 159)) #[] 0 (by simp) (Nat.zero_le _) rfl;rw[hw1];simpa using this
 have hrow:Row w1 w.heap.size f:=by rw[hw1];exact(Row.new w f).alloc _
 have hnews:∀j u,((fd f n).map (Value.int .i64))[j]?=some u->w1.cell? ((⟨w.heap.size,0,none⟩:Addr).add j)=some u:=by
  intro j u hj;have hlt:j<n:=by
   rcases Nat.lt_or_ge j n with h|h
   ·exact h
   ·rw[List.getElem?_eq_none (by simpa[fd]using h)]at hj;cases hj
  rw[show(⟨w.heap.size,0,none⟩:Addr).add j=⟨w.heap.size,j,none⟩ by unfold Addr.add;split<;>simp_all];rw[hrow.cell j (by omega)];simp[fd,hlt]at hj⊢;exact hj
 have hone:∀u∈(fd f n).map (Value.int .i64),u.oneCell'=true:=by
  intro u hu;obtain⟨x,_,rfl⟩:=List.mem_map.1 hu;rfl
 have hll:((fd f n).map (Value.int .i64)).length=n*1:=by simp[fd]
 have hb1:bB w w1:=by rw[hw1];exactbA.alloc (by simp) _
 go_enter Tryz.func286,Tryz.ntmps286;go_wp2_with (at_builtin;rw[<-hw1];refine wpList_append_own _ rfl _ _ 22 rfl w.heap.size 2 i0 (.int .i64 0) 1 8 Tryz.underlying22 hi hz0 hz1 hz2 rfl (by decide) _ _ _ rfl hown _ n 8 ((fd f n).map (Value.int .i64)) rfl hll hnews hone (by unfold maxLen;omega) (by omega) hb1.size ?_)
 intro v' w2 hown' hgrow _;rw[<-hw1]at hgrow;have HG:Hid (bB w w2):=hb1.grown hgrow hb1.size (fun g e=>by simp[Value.ownBlock]at e;omega);go_wp2;go_ret;refine⟨_,rfl,?_,HG.out⟩;unfold Own;simpa[yR]using hown'
theorem yS (xs:List Int) (i:Nat) (x:Int):fd (upd (fun k=>xs.getD k 0) i x) xs.length=xs.set i x:=by
 apply List.ext_getElem
 ·simp[fd]
 ·intro j h1 h2
  have h3:j<xs.length:=by simpa[fd]using h1
  rw[List.getElem_set];by_cases e:i=j
  ·subst e;simp[fd,upd]
  ·have e':¬j=i:=fun h=>e h.symm
   simp[fd,upd,e,e',List.getD,h3]
theorem Co (v:Value) (xs:List Int) (i x:Int) (w:World) (h:ag w v xs) (hbig:xs.length<=1099511627776):
  Calls Tryz.prog 271 #[v,.int .i64 i,.int .i64 x] w fun e w'=>∃u,e=.returned (.tuple #[u,.bool (fy xs i x)])/\Own w' w.heap.size u (eV xs i x)/\bB w w':=by
 have c1:=mj v xs w h hbig;obtain⟨ao,cap,rfl⟩:=h.form;clear h;obtain⟨n,hn⟩:=eX xs.length
 by_cases hok:aJ xs=true
 ·have hlen:=bD hok
  rw[hok,uM hok]at c1;obtain⟨f,hf⟩:∃f:Nat->Int,f=fun k=>xs.getD k 0:=⟨_,rfl⟩
  have HL:Hid (fd f n=xs):=by rw[Hid,hf,hn];exact vJ xs
  have HL2:Hid (∀i x,fd (upd f i x) n=xs.set i x):=by rw[hf,hn];exact yS xs
  rw[<-hf]at c1;clear hf;rw[<-hn]at c1 hbig hlen⊢;by_cases h0:0<=i
  ·by_cases h1:i<(n:Int)
   ·by_cases hv:bM x=true
    ·have HB:Hid (fy xs i x=true/\eV xs i x=xs.set i.toNat x):=by
      simp[Hid,fy,eV,hok,ew,hv,h0,<-hn,h1]
     clear hn hok;go_enter Tryz.func271,Tryz.ntmps271;go_wp2_with fail
     refine c1.mono ?_;rintro e w1 ⟨rfl,b1⟩;go_wp2_with (refine dF rfl _ _ rfl w1.heap.size f rfl rfl (fun _=>0) (Row.new w1 fun _=>0) ?_)
     intro w2 r2 g2;have b2:bB w w2:=(b1.alloc b1.size _).grown g2 (by simp;have:=b1.size;omega) (fun k e=>by cases e;exact b1.size);have hfr:=r2.frozen i.toNat;have hc2:=r2.cell i.toNat (by omega);have r3:=r2.setCell i.toNat (by omega) x;have b3:Hid (bB w (w2.setCell ⟨w1.heap.size,i.toNat,none⟩ (.int .i64 x))):=b2.setCell (p:=⟨w1.heap.size,i.toNat,none⟩) b1.size (.int .i64 x);clear g2 b2 r2;go_wp2_with (first
      |(go_at_call 212;refine(jo _ _).mono ?_;rw[hv];rintro e w' ⟨rfl,hw⟩;subst w')
      |(refine gZ rfl _ rfl w1.heap.size rfl _ r3 ?_)
      |(go_at_call 286;refine(kZ _ n _ (by omega)).mono ?_;rintro e w4 ⟨u,rfl,o4,b4⟩;rw[HL2.out]at o4;have HU:Hid (Own w4 w.heap.size u (xs.set i.toNat x)/\bB w w4):=⟨o4.mono b3.out.size,b3.out.trans (b4.mono b3.out.size)⟩;clear o4 b4))
     go_ret2
     rw[HB.out.1,HB.out.2];exact⟨_,rfl,HU.out⟩
    ·have HB:Hid (fy xs i x=false/\eV xs i x=xs):=by
      have hv:bM x=false:=by simpa using hv
      simp[Hid,fy,eV,hok,ew,hv]
     replace hv:bM x=false:=by simpa using hv
     clear hn hok;go_enter Tryz.func271,Tryz.ntmps271;go_wp2_with fail
     refine c1.mono ?_;rintro e w1 ⟨rfl,b1⟩;go_wp2_with (refine dF rfl _ _ rfl w1.heap.size f rfl rfl (fun _=>0) (Row.new w1 fun _=>0) ?_)
     intro w2 r2 g2;have b2:Hid (bB w w2):=(b1.alloc b1.size _).grown g2 (by simp;have:=b1.size;omega) (fun k e=>by cases e;exact b1.size);clear g2;go_wp2_with (first
      |(go_at_call 212;refine(jo _ _).mono ?_;rw[hv];rintro e w' ⟨rfl,hw⟩;subst w')
      |(refine gZ rfl _ rfl w1.heap.size rfl _ r2 ?_)
      |(go_at_call 286;refine(kZ _ n _ (by omega)).mono ?_;rw[HL.out];rintro e w4 ⟨u,rfl,o4,b4⟩;have HU:Hid (Own w4 w.heap.size u xs/\bB w w4):=⟨o4.mono b2.out.size,b2.out.trans (b4.mono b2.out.size)⟩;clear o4 b4))
     go_ret2
     rw[HB.out.1,HB.out.2];exact⟨_,rfl,HU.out⟩
   ·have HB:Hid (fy xs i x=false/\eV xs i x=xs):=by
     simp[Hid,fy,eV,hok,ew,<-hn];omega
    obtain⟨bv,hv⟩:∃bv,bM x=bv:=⟨_,rfl⟩
    clear hn hok;go_enter Tryz.func271,Tryz.ntmps271;go_wp2_with fail
    refine c1.mono ?_;rintro e w1 ⟨rfl,b1⟩;go_wp2_with (refine dF rfl _ _ rfl w1.heap.size f rfl rfl (fun _=>0) (Row.new w1 fun _=>0) ?_)
    intro w2 r2 g2;have b2:Hid (bB w w2):=(b1.alloc b1.size _).grown g2 (by simp;have:=b1.size;omega) (fun k e=>by cases e;exact b1.size);clear g2;go_wp2_with (first
     |(go_at_call 212;refine(jo _ _).mono ?_;rw[hv];rintro e w' ⟨rfl,hw⟩;subst w')
     |(refine gZ rfl _ rfl w1.heap.size rfl _ r2 ?_)
     |(go_at_call 286;refine(kZ _ n _ (by omega)).mono ?_;rw[HL.out];rintro e w4 ⟨u,rfl,o4,b4⟩;have HU:Hid (Own w4 w.heap.size u xs/\bB w w4):=⟨o4.mono b2.out.size,b2.out.trans (b4.mono b2.out.size)⟩;clear o4 b4))
    go_ret2
    rw[HB.out.1,HB.out.2];exact⟨_,rfl,HU.out⟩
  ·have HB:Hid (fy xs i x=false/\eV xs i x=xs):=by
    simp[Hid,fy,eV,hok,ew];omega
   obtain⟨bv,hv⟩:∃bv,bM x=bv:=⟨_,rfl⟩
   clear hn hok;go_enter Tryz.func271,Tryz.ntmps271;go_wp2_with fail
   refine c1.mono ?_;rintro e w1 ⟨rfl,b1⟩;go_wp2_with (refine dF rfl _ _ rfl w1.heap.size f rfl rfl (fun _=>0) (Row.new w1 fun _=>0) ?_)
   intro w2 r2 g2;have b2:Hid (bB w w2):=(b1.alloc b1.size _).grown g2 (by simp;have:=b1.size;omega) (fun k e=>by cases e;exact b1.size);clear g2;go_wp2_with (first
    |(go_at_call 212;refine(jo _ _).mono ?_;rw[hv];rintro e w' ⟨rfl,hw⟩;subst w')
    |(refine gZ rfl _ rfl w1.heap.size rfl _ r2 ?_)
    |(go_at_call 286;refine(kZ _ n _ (by omega)).mono ?_;rw[HL.out];rintro e w4 ⟨u,rfl,o4,b4⟩;have HU:Hid (Own w4 w.heap.size u xs/\bB w w4):=⟨o4.mono b2.out.size,b2.out.trans (b4.mono b2.out.size)⟩;clear o4 b4))
   go_ret2
   rw[HB.out.1,HB.out.2];exact⟨_,rfl,HU.out⟩
 ·have hok':aJ xs=false:=by simpa using hok
  rw[hok',su hok']at c1;have HB:Hid (fy xs i x=false/\eV xs i x=[]):=by
   simp[Hid,fy,eV,hok']
  clear hok hok';rw[<-hn]at c1;rw[<-hn];clear hn hbig;go_enter Tryz.func271,Tryz.ntmps271;go_wp2_with fail
  refine c1.mono ?_;rintro e w1 ⟨rfl,b1⟩;go_wp2_with (refine dF rfl _ _ rfl w1.heap.size (fun _=>0) rfl rfl (fun _=>0) (Row.new w1 fun _=>0) ?_)
  intro w2 r2 g2;have b2:Hid (bB w w2):=(b1.alloc b1.size _).grown g2 (by simp;have:=b1.size;omega) (fun k e=>by cases e;exact b1.size);clear g2;go_wp2
  go_ret2
  rw[HB.out.1,HB.out.2];exact⟨_,rfl,(Ao w2).mono b2.out.size,b2.out.trans ((Ap w2 _).mono b2.out.size)⟩
def fE (w:World) (g:Nat) (f:Nat->Int):World:=
 (((((((w.setCell ⟨g,0,none⟩ (.int .i64 (f 0))).setCell ⟨g,1,none⟩ (.int .i64 (f 1))).setCell ⟨g,2,none⟩ (.int .i64 (f 2))).setCell ⟨g,3,none⟩ (.int .i64 (f 3))).setCell ⟨g,4,none⟩ (.int .i64 (f 4))).setCell ⟨g,5,none⟩ (.int .i64 (f 5))).setCell ⟨g,6,none⟩ (.int .i64 (f 6))).setCell ⟨g,7,none⟩ (.int .i64 (f 7))
theorem Row.fill {w:World} {g:Nat} {old:Nat->Int} (h:Row w g old) (f:Nat->Int):Row (fE w g f) g f:=by
 have:=(((((((h.setCell 0 (by omega) (f 0)).setCell 1 (by omega) (f 1)).setCell 2 (by omega) (f 2)).setCell 3 (by omega) (f 3)).setCell 4 (by omega) (f 4)).setCell 5 (by omega) (f 5)).setCell 6 (by omega) (f 6)).setCell 7 (by omega) (f 7);exact Eq.trans this (congrArg (fun c=>some (Obj.cells c 159 (0,0))) (vr (pW rfl rfl rfl rfl rfl rfl rfl rfl)))
theorem Row.fill_other {w:World} {g k:Nat} {old:Nat->Int} (h:Row w g old) (f:Nat->Int) (hne:g≠k):Row (fE w k f) g old:=by
 unfold fE;exact(((((((h.other _ _ hne).other _ _ hne).other _ _ hne).other _ _ hne).other _ _ hne).other _ _ hne).other _ _ hne).other _ _ hne
theorem oy {B g:Nat} {w0 w:World} (h:Below B w0 w) (hB:B<=g) (f:Nat->Int):Below B w0 (fE w g f):=by
 unfold fE;exact(((((((h.setCell hB _).setCell hB _).setCell hB _).setCell hB _).setCell hB _).setCell hB _).setCell hB _).setCell hB _
theorem Row.drew {w:World} {g:Nat} {f:Nat->Int} (h:Row w g f):Row w.drew g f:=h
theorem fJ {w w4:World} {H:Nat} (f g:Nat->Int) (hH:H=w.heap.size) (h:bB w w4/\Row w4 H (fun _=>0)/\Row w4 (H+1) (fun _=>0)):
  Row (((((((((((((((((w4.setCell ⟨H,0,none⟩ (.int .i64 (f 0))).setCell ⟨H,1,none⟩ (.int .i64 (f 1))).setCell ⟨H,2,none⟩ (.int .i64 (f 2))).setCell ⟨H,3,none⟩ (.int .i64 (f 3))).setCell ⟨H,4,none⟩ (.int .i64 (f 4))).setCell ⟨H,5,none⟩ (.int .i64 (f 5))).setCell ⟨H,6,none⟩ (.int .i64 (f 6))).setCell ⟨H,7,none⟩ (.int .i64 (f 7))).setCell ⟨(H+1),0,none⟩ (.int .i64 (g 0))).setCell ⟨(H+1),1,none⟩ (.int .i64 (g 1))).setCell ⟨(H+1),2,none⟩ (.int .i64 (g 2))).setCell ⟨(H+1),3,none⟩ (.int .i64 (g 3))).setCell ⟨(H+1),4,none⟩ (.int .i64 (g 4))).setCell ⟨(H+1),5,none⟩ (.int .i64 (g 5))).setCell ⟨(H+1),6,none⟩ (.int .i64 (g 6))).setCell ⟨(H+1),7,none⟩ (.int .i64 (g 7))).drew) H f/\Row (((((((((((((((((w4.setCell ⟨H,0,none⟩ (.int .i64 (f 0))).setCell ⟨H,1,none⟩ (.int .i64 (f 1))).setCell ⟨H,2,none⟩ (.int .i64 (f 2))).setCell ⟨H,3,none⟩ (.int .i64 (f 3))).setCell ⟨H,4,none⟩ (.int .i64 (f 4))).setCell ⟨H,5,none⟩ (.int .i64 (f 5))).setCell ⟨H,6,none⟩ (.int .i64 (f 6))).setCell ⟨H,7,none⟩ (.int .i64 (f 7))).setCell ⟨(H+1),0,none⟩ (.int .i64 (g 0))).setCell ⟨(H+1),1,none⟩ (.int .i64 (g 1))).setCell ⟨(H+1),2,none⟩ (.int .i64 (g 2))).setCell ⟨(H+1),3,none⟩ (.int .i64 (g 3))).setCell ⟨(H+1),4,none⟩ (.int .i64 (g 4))).setCell ⟨(H+1),5,none⟩ (.int .i64 (g 5))).setCell ⟨(H+1),6,none⟩ (.int .i64 (g 6))).setCell ⟨(H+1),7,none⟩ (.int .i64 (g 7))).drew) (H+1) g/\bB w (((((((((((((((((w4.setCell ⟨H,0,none⟩ (.int .i64 (f 0))).setCell ⟨H,1,none⟩ (.int .i64 (f 1))).setCell ⟨H,2,none⟩ (.int .i64 (f 2))).setCell ⟨H,3,none⟩ (.int .i64 (f 3))).setCell ⟨H,4,none⟩ (.int .i64 (f 4))).setCell ⟨H,5,none⟩ (.int .i64 (f 5))).setCell ⟨H,6,none⟩ (.int .i64 (f 6))).setCell ⟨H,7,none⟩ (.int .i64 (f 7))).setCell ⟨(H+1),0,none⟩ (.int .i64 (g 0))).setCell ⟨(H+1),1,none⟩ (.int .i64 (g 1))).setCell ⟨(H+1),2,none⟩ (.int .i64 (g 2))).setCell ⟨(H+1),3,none⟩ (.int .i64 (g 3))).setCell ⟨(H+1),4,none⟩ (.int .i64 (g 4))).setCell ⟨(H+1),5,none⟩ (.int .i64 (g 5))).setCell ⟨(H+1),6,none⟩ (.int .i64 (g 6))).setCell ⟨(H+1),7,none⟩ (.int .i64 (g 7))).drew):=by
 obtain⟨z1,z2,z3⟩:=h;have HW0:Row (fE (fE w4 H f) (H+1) g) H f/\Row (fE (fE w4 H f) (H+1) g) (H+1) g/\bB w (fE (fE w4 H f) (H+1) g):=by
  refine⟨(z2.fill f).fill_other _ (by omega),(z3.fill_other f (by omega)).fill g,oy (oy z1 (by omega) _) (by omega) _⟩
 have HW:Row (fE (fE w4 H f) (H+1) g).drew H f/\Row (fE (fE w4 H f) (H+1) g).drew (H+1) g/\bB w (fE (fE w4 H f) (H+1) g).drew:=⟨HW0.1.drew,HW0.2.1.drew,HW0.2.2.drew⟩
 unfold fE at HW;exact HW
theorem gj {fn:Func} {p q u:Tmp} (h:fn.results=#[.cell p 159,.cell q 159,.tmp u]) (tmps:Array Value) (w:World) (g k:Nat) (f f':Nat->Int) (x:Value)
  (hp:tmps.getD p undef=.pointer (some ⟨g,0,none⟩)) (hq:tmps.getD q undef=.pointer (some ⟨k,0,none⟩)) (hx:tmps.getD u undef=x) (hr:Row w g f) (hr':Row w k f'):
  (results fn tmps).run Tryz.prog w=.ok (.tuple #[.agg (ee f),.agg (ee f'),x]) w:=by
 have l1:=run_loadVar_row w g _ _ _ _ _ hr Tryz.under8 rfl (Tryz.info8 f);have l2:=run_loadVar_row w k _ _ _ _ _ hr' Tryz.under8 rfl (Tryz.info8 f');have hp':tmps[p]?.getD undef=.pointer (some ⟨g,0,none⟩):=by simpa using hp
 have hq':tmps[q]?.getD undef=.pointer (some ⟨k,0,none⟩):=by simpa using hq
 have hx':tmps[u]?.getD undef=x:=by simpa using hx
 simp only[results,h];simp[Sem.run_bind,Result.andThen,asAddr,hp',hq',hx',l1,l2]
theorem wm (va vb:Value) (a b:List Int) (w:World) (ha:ag w va a) (hb:ag w vb b) (ga:a.length<=1099511627776) (gb:b.length<=1099511627776):
  Calls Tryz.prog 144 #[va,vb] w fun e w'=>e=.returned (.tuple #[.agg (ee (oV a)),.agg (ee (oV b)),.bool (au a b)])/\bB w w':=by
 obtain⟨f,hf⟩:=eX (oV a)
 obtain⟨g,hg⟩:=eX (oV b)
 obtain⟨x,hx⟩:=eX (aJ a)
 obtain⟨y,hy⟩:=eX (aJ b)
 have c1:∀w',ag w' va a->_:=fun w' h=>mj va a w' h ga
 have c2:∀w',ag w' vb b->_:=fun w' h=>mj vb b w' h gb
 rw[<-hf,<-hg];simp only[<-hf,<-hg,<-hx,<-hy]at c1 c2;have HB:Hid (au a b=(x&&(y&&decide (a.length=b.length)))):=by rw[hx,hy];rfl
 clear hf hg hx hy;obtain⟨w0,hw0⟩:=eX ((w.alloc (.cells (ee fun _=>0) 159)).alloc (.cells (ee fun _=>0) 159))
 have b0:bB w w0:=by rw[hw0];exactbA.alloc (by simp) _
 have s0:w0.heap.size=w.heap.size+2:=by rw[hw0];simp
 have r0:Row w0 w.heap.size (fun _=>0):=by rw[hw0];exact(Row.new w _).alloc _
 have q0:Row w0 (w.heap.size+1) (fun _=>0):=by
  rw[hw0];have:=Row.new (w.alloc (.cells (ee fun _=>0) 159)) (fun _=>0);simpa using this
 have k1:=c1 w0 (ha.below b0 (Nat.le_refl _));rw[hw0]at k1;obtain⟨ao,ca,rfl⟩:=ha.form;obtain⟨bo,cb,rfl⟩:=hb.form;go_enter Tryz.func144,Tryz.ntmps144;go_wp2_with fail
 refine k1.mono ?_;rw[<-hw0];rintro e w1 ⟨rfl,b1⟩;clear hw0;go_wp2_with (refine dF rfl _ _ rfl w1.heap.size f rfl rfl (fun _=>0) (Row.new w1 fun _=>0) ?_)
 intro w2 r2 g2;have b2:bB w w2:=((b0.trans (b1.mono b0.size)).alloc (Nat.le_trans b0.size b1.size) _).grown g2 (by simp;have:=b1.size;omega) (fun k e=>by cases e;have:=b1.size;omega);have r2a:Row w2 w.heap.size (fun _=>0):=((r0.below b1).alloc _).kept g2 (by have:=(r0.below b1).lt;simp;omega);have r2b:Row w2 (w.heap.size+1) (fun _=>0):=((q0.below b1).alloc _).kept g2 (by have:=(q0.below b1).lt;simp;omega);have n2:w.heap.size+2<=w1.heap.size:=by have:=b1.size;omega
 obtain⟨G7,hG7⟩:=eX w1.heap.size
 rw[<-hG7]at r2 n2;have k2:=c2 w2 (hb.below b2 (Nat.le_refl _));clear k1 c1 c2 b1 g2 r0 q0 b0 s0;go_wp2_with fail
 refine k2.mono ?_;rintro e w3 ⟨rfl,b3⟩;go_wp2_with (refine dF rfl _ _ rfl w3.heap.size g rfl rfl (fun _=>0) (Row.new w3 fun _=>0) ?_)
 intro w4 r4 g4;have b4:bB w w4:=((b2.trans (b3.mono b2.size)).alloc (Nat.le_trans b2.size b3.size) _).grown g4 (by simp;have:=b3.size;have:=b2.size;omega) (fun k e=>by cases e;have:=b3.size;have:=b2.size;omega);have r4a:Row w4 w.heap.size (fun _=>0):=((r2a.below b3).alloc _).kept g4 (by have:=(r2a.below b3).lt;simp;omega);have r4b:Row w4 (w.heap.size+1) (fun _=>0):=((r2b.below b3).alloc _).kept g4 (by have:=(r2b.below b3).lt;simp;omega);have r4c:Row w4 G7 f:=((r2.below b3).alloc _).kept g4 (by have:=(r2.below b3).lt;simp;omega);have n4:G7<w3.heap.size:=(r2.below b3).lt;obtain⟨G9,hG9⟩:=eX w3.heap.size
 rw[<-hG9]at r4 n4;rw[<-hG7,<-hG9];clear hG7 hG9 g4 b3 r2a r2b r2 b2 k2;go_wp2;obtain⟨H,hH⟩:=eX w.heap.size
 have HH:Hid (H=w.heap.size):=hH;have HR:Hid (bB w w4/\Row w4 H (fun _=>0)/\Row w4 (H+1) (fun _=>0)):=⟨b4,hH▸r4a,hH▸r4b⟩
 rw[<-hH]at n2 r4a r4b;rw[<-hH];clear hH b4;have e1:G7≠H:=by omega
 have e2:G7≠H+1:=by omega
 have e3:G9≠H:=by omega
 have e4:G9≠H+1:=by omega
 have p0:=r4c.cell 0 (by omega);have q0:=r4.cell 0 (by omega);have s0:=r4a.cell 0 (by omega);have t0:=r4b.cell 0 (by omega);have u0:=r4a.frozen 0;have v0:=r4b.frozen 0;have p1:=r4c.cell 1 (by omega);have q1:=r4.cell 1 (by omega);have s1:=r4a.cell 1 (by omega);have t1:=r4b.cell 1 (by omega);have u1:=r4a.frozen 1;have v1:=r4b.frozen 1;have p2:=r4c.cell 2 (by omega);have q2:=r4.cell 2 (by omega);have s2:=r4a.cell 2 (by omega);have t2:=r4b.cell 2 (by omega);have u2:=r4a.frozen 2;have v2:=r4b.frozen 2;have p3:=r4c.cell 3 (by omega);have q3:=r4.cell 3 (by omega);have s3:=r4a.cell 3 (by omega);have t3:=r4b.cell 3 (by omega);have u3:=r4a.frozen 3;have v3:=r4b.frozen 3;have p4:=r4c.cell 4 (by omega);have q4:=r4.cell 4 (by omega);have s4:=r4a.cell 4 (by omega);have t4:=r4b.cell 4 (by omega);have u4:=r4a.frozen 4;have v4:=r4b.frozen 4;have p5:=r4c.cell 5 (by omega);have q5:=r4.cell 5 (by omega);have s5:=r4a.cell 5 (by omega);have t5:=r4b.cell 5 (by omega);have u5:=r4a.frozen 5;have v5:=r4b.frozen 5;have p6:=r4c.cell 6 (by omega);have q6:=r4.cell 6 (by omega);have s6:=r4a.cell 6 (by omega);have t6:=r4b.cell 6 (by omega);have u6:=r4a.frozen 6;have v6:=r4b.frozen 6;have p7:=r4c.cell 7 (by omega);have q7:=r4.cell 7 (by omega);have s7:=r4a.cell 7 (by omega);have t7:=r4b.cell 7 (by omega);have u7:=r4a.frozen 7;have v7:=r4b.frozen 7;clear r4 r4a r4b r4c;by_cases hx:x=true
 ·by_cases hy:y=true
  ·by_cases hl:a.length=b.length
   ·have hl':((a.length:Int)==(b.length:Int))=true:=by simp[hl]
    have HB':Hid (au a b=true):=by rw[Hid,HB.out,hx,hy,decide_eq_true hl];rfl
    obtain⟨n,hn⟩:=eX a.length
    obtain⟨m,hm⟩:=eX b.length
    rw[<-hn]at hl'⊢;rw[<-hm]at hl'⊢;clear HB hl ga gb ha hb hn hm;subst hx hy
    go_big_region
    go_wp2;refine bodyPost_ret (gj rfl _ _ H (H+1) f g _ rfl rfl rfl (fJ f g HH.out HR.out).1 (fJ f g HH.out HR.out).2.1) rfl ?_;rw[HB'.out];exact⟨rfl,(fJ f g HH.out HR.out).2.2⟩
   ·have hl':((a.length:Int)==(b.length:Int))=false:=by simp;omega
    have HB':Hid (au a b=false):=by rw[Hid,HB.out,decide_eq_false hl];simp
    obtain⟨n,hn⟩:=eX a.length
    obtain⟨m,hm⟩:=eX b.length
    rw[<-hn]at hl'⊢;rw[<-hm]at hl'⊢;clear HB hl ga gb ha hb hn hm;subst hx hy
    go_big_region
    go_wp2;refine bodyPost_ret (gj rfl _ _ H (H+1) f g _ rfl rfl rfl (fJ f g HH.out HR.out).1 (fJ f g HH.out HR.out).2.1) rfl ?_;rw[HB'.out];exact⟨rfl,(fJ f g HH.out HR.out).2.2⟩
  ·have hy':y=false:=by simpa using hy
   have HB':Hid (au a b=false):=by rw[Hid,HB.out,hy'];simp
   clear HB ga gb ha hb hy;subst hx hy'
   go_big_region
   go_wp2;refine bodyPost_ret (gj rfl _ _ H (H+1) f g _ rfl rfl rfl (fJ f g HH.out HR.out).1 (fJ f g HH.out HR.out).2.1) rfl ?_;rw[HB'.out];exact⟨rfl,(fJ f g HH.out HR.out).2.2⟩
 ·have hx':x=false:=by simpa using hx
  have HB':Hid (au a b=false):=by rw[Hid,HB.out,hx'];simp
  clear HB ga gb ha hb hx;subst hx'
  go_big_region
  go_wp2;refine bodyPost_ret (gj rfl _ _ H (H+1) f g _ rfl rfl rfl (fJ f g HH.out HR.out).1 (fJ f g HH.out HR.out).2.1) rfl ?_;rw[HB'.out];exact⟨rfl,(fJ f g HH.out HR.out).2.2⟩
end Go.Proofs.YthldeiojlllkdaaGreatDoor
