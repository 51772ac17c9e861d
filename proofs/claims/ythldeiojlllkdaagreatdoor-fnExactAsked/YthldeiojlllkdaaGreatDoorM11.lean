/- When a house is right, plainly, in the program's own order of tests. -/
import Derived.Test.YthldeiojlllkdaaGreatDoorM10
import Derived.ChangeKeysEq
import Derived.Laws.StructEq
import Derived.Laws.CopyOwn
import Derived.MapKept
import Derived.Carry
set_option maxRecDepth 20000
set_option maxHeartbeats 8000000
namespace Go.Proofs.YthldeiojlllkdaaGreatDoor
open Go.ChangeShapes Go.WideShapes Go.ChangeAt Go.RowKit
section
open Go.RowKit
theorem Bm (l:List (Bs×Nat)):∀a:Option (Rc×Nat),(∀x,a=some x->x.1.ok=true)->∀x,l.foldl gd a=some x->x.1.ok=true:=by
 induction l with
 |nil=>intro a h x e;exact h x e
 |cons y l ih=>
  intro a h x e;refine ih (gd a y) (fun z hz=>?_) x e;unfold gd at hz;split at hz
  ·rename_i r hr
   simp only[Option.some.injEq]at hz;rw[<-hz];exact Bt _ _ hr
  ·exact h z hz
theorem zJ (s:Bs) (h:(aF s).isSome=true):(gP (aF s)).ok=true:=by
 cases e:aF s with
 |none=>rw[e]at h;cases h
 |some x=>exact Bm (bV s) none (fun _ h=>by cases h) x e
def Nd.logP (n:Nd):Bool:=decide (n.log.length<=40000)&&((aF n.log).isSome&&d8 (gP (aF n.log)) n.r&&(!n.up||decide (n.log.take (recAt (aF n.log))=n.log)))
def Nd.copP (n:Nd):Bool:=n.c.unused||(n.up&&decide (n.r.s≠3)&&decide (n.c.tr=n.r.t)&&n.c.ok&&decide (n.c.ts.length=n.ys.length))
def Nd.snkP (n:Nd):Bool:=n.s.unused||(n.up&&decide (n.r.s=3)&&decide (n.s.tr=n.r.n)&&n.s.ok&&decide (n.s.ts.length=n.ys.length))
theorem Cp.unused_tr {c:Cp} (h:c.unused=true):c.tr=0:=by
 unfold Cp.unused at h;simp only[Bool.and_eq_true,decide_eq_true_eq]at h;exact h.1.1.1.1
theorem Cp.used_tr {c:Cp} (h:c.unused=false) (ho:c.ok=true):c.tr≠0:=by
 rw[Cp.ok_used h]at ho;simp only[Bool.and_eq_true,inI,decide_eq_true_eq]at ho;intro e;have:=ho.1.1.1;omega
theorem Sn.unused_tr {c:Sn} (h:c.unused=true):c.tr=0:=by
 unfold Sn.unused at h;simp only[Bool.and_eq_true,decide_eq_true_eq]at h;exact h.1
theorem Sn.used_tr {c:Sn} (h:c.unused=false) (ho:c.ok=true):c.tr≠0:=by
 rw[Sn.ok_used h]at ho;simp only[Bool.and_eq_true,inI,decide_eq_true_eq]at ho;intro e;have:=ho.1;omega
theorem Nd.ok_prog (n:Nd):n.ok=(inI n.id 0 1&&(Sr.ok ⟨n.xs,n.ys,n.h⟩&&(n.logP&&(n.copP&&n.snkP)))):=by
 have hl:=jC n.log;rw[Bool.eq_iff_iff,Nd.ok_iff];unfold Sr.ok Nd.logP;simp only[Bool.and_eq_true,decide_eq_true_eq,mf];constructor
 ·intro h
  refine⟨h.id,⟨h.dk,h.h⟩,⟨h.ll,⟨h.lg.is,h.lg.rc⟩,?_⟩,?_,?_⟩
  ·cases hu:n.up with
   |false=>rfl
   |true=>
    simp only[Bool.not_true,Bool.false_or,decide_eq_true_eq];exact(lw _ _ hl).2 (h.lg.al hu)
  ·unfold Nd.copP
   cases hc:n.c.unused with
   |true=>rfl
   |false=>
    have ht:=Cp.used_tr hc h.c;obtain⟨q1,q2,q3⟩:=h.cp ht;have hu:n.up=true:=by
     cases hu:n.up with
     |true=>rfl
     |false=>exact absurd (h.dn hu).1 ht
    simp[hu,q1,h.c,q3,<-q2]
  ·unfold Nd.snkP
   cases hc:n.s.unused with
   |true=>rfl
   |false=>
    have ht:=Sn.used_tr hc h.s;obtain⟨q1,q2,q3⟩:=h.sk ht;have hu:n.up=true:=by
     cases hu:n.up with
     |true=>rfl
     |false=>exact absurd (h.dn hu).2 ht
    simp[hu,q1,h.s,q3,<-q2]
 ·rintro⟨h1,⟨h2,h3⟩,⟨h4,⟨h5,h6⟩,h7⟩,h8,h9⟩
  have hc:n.c.ok=true/\(n.up=false->n.c.tr=0)/\(n.c.tr≠0->n.r.s≠3/\n.c.tr=n.r.t/\n.c.ts.length=n.ys.length):=by
   unfold Nd.copP at h8;cases hc:n.c.unused with
   |true=>exact⟨Cp.ok_unused hc,fun _=>Cp.unused_tr hc,fun e=>absurd (Cp.unused_tr hc) e⟩
   |false=>
    rw[hc]at h8;simp only[Bool.false_or,Bool.and_eq_true,decide_eq_true_eq]at h8;obtain⟨⟨⟨⟨a1,a2⟩,a3⟩,a4⟩,a5⟩:=h8;exact⟨a4,fun e=>by rw[a1]at e;(cases e),fun _=>⟨a2,a3,a5⟩⟩
  have hs:n.s.ok=true/\(n.up=false->n.s.tr=0)/\(n.s.tr≠0->n.r.s=3/\n.s.tr=n.r.n/\n.s.ts.length=n.ys.length):=by
   unfold Nd.snkP at h9;cases hc:n.s.unused with
   |true=>exact⟨Sn.ok_unused hc,fun _=>Sn.unused_tr hc,fun e=>absurd (Sn.unused_tr hc) e⟩
   |false=>
    rw[hc]at h9;simp only[Bool.false_or,Bool.and_eq_true,decide_eq_true_eq]at h9;obtain⟨⟨⟨⟨a1,a2⟩,a3⟩,a4⟩,a5⟩:=h9;exact⟨a4,fun e=>by rw[a1]at e;(cases e),fun _=>⟨a2,a3,a5⟩⟩
  have hr:n.r.ok=true:=by rw[<-h6];exact zJ n.log h5
  refine⟨h1,h2,h3,hr,h4,hc.1,hs.1,⟨h5,h6,fun hu=>?_⟩,fun hu=>⟨hc.2.1 hu,hs.2.1 hu⟩,hc.2.2,hs.2.2⟩;rw[hu]at h7;simp only[Bool.not_true,Bool.false_or,decide_eq_true_eq]at h7;exact(lw _ _ hl).1 h7
end
theorem zi (x:Int) (w:World):
  Calls Tryz.prog 62 #[.int .i64 x] w fun e w'=>e=.returned (.bool (inI x 0 1))/\w'=w:=by
 by_cases h0:0<=x
 ·by_cases h1:x<=1
  ·rw[show inI x 0 1=true by simp[inI,h0,h1]]
   go_enter Tryz.func62,Tryz.ntmps62;go_wp2;go_ret;exact⟨af (by simp<;>omega),rfl⟩
  ·rw[show inI x 0 1=false by simp[inI];omega]
   go_enter Tryz.func62,Tryz.ntmps62;go_wp2;go_ret;exact⟨af (by simp<;>omega),rfl⟩
 ·rw[show inI x 0 1=false by simp[inI];omega]
  go_enter Tryz.func62,Tryz.ntmps62;go_wp2;go_ret;exact⟨af (by simp<;>omega),rfl⟩
theorem GP:IsS 96 6:=⟨⟨_,Tryz.underlying96⟩,by kernel_rfl⟩
def aZ (w:World) (base:Nat) (a b k:Value) (xs ys ks:List Int):Prop:=aV w base a b xs ys/\Own w base k ks/\apart a k/\apart b k
def zeR:Array Value:=#[.slice none 0 0,.slice none 0 0,.slice none 0 0,.int .i64 0,.int .i64 0,.int .i64 0]
theorem ee {a b k:Value} (h:Hd) (ha:a.oneCell'=true) (hb:b.oneCell'=true) (hk:k.oneCell'=true):(srA a b k h).all (·.oneCell')=true:=by
 unfold srA;simp[ha,hb,hk,show∀k n,(Value.int k n).oneCell'=true from fun _ _=>rfl]
theorem aZ.below {w w':World} {base:Nat} {a b k:Value} {xs ys ks:List Int} (h:aZ w base a b k xs ys ks) (e:iO w w'):aZ w' base a b k xs ys ks:=
 ⟨⟨h.1.1.below e,h.1.2.1.below e,h.1.2.2⟩,h.2.1.below e,h.2.2⟩
theorem aZ.mono {w:World} {base base':Nat} {a b k:Value} {xs ys ks:List Int} (h:aZ w base a b k xs ys ks) (e:base'<=base):aZ w base' a b k xs ys ks:=
 ⟨⟨h.1.1.mono e,h.1.2.1.mono e,h.1.2.2⟩,h.2.1.mono e,h.2.2⟩
theorem aZ.keptLt {w w':World} {base g:Nat} {a b k:Value} {xs ys ks:List Int} (h:aZ w base a b k xs ys ks) (e:w.grownBy w' (some g)) (hg:g<base):aZ w' base a b k xs ys ks:=
 ⟨⟨h.1.1.keptLt e hg,h.1.2.1.keptLt e hg,h.1.2.2⟩,h.2.1.keptLt e hg,h.2.2⟩
theorem aZ.nil (w:World) (base:Nat):aZ w base (.slice none 0 0) (.slice none 0 0) (.slice none 0 0) [] [] []:=
 ⟨⟨Own.nil w base,Own.nil w base,⟨.inl rfl,.inl rfl⟩⟩,Own.nil w base,⟨.inl rfl,.inl rfl⟩,⟨.inl rfl,.inl rfl⟩⟩
section
open Go.ChangeShapes Go.WideShapes Go.ChangeAt Go.RowKit
end
def ef (f:Nat->Int):Array Value:=#[.int .i64 (f 0),.int .i64 (f 1),.int .i64 (f 2),.int .i64 (f 3),.int .i64 (f 4),.int .i64 (f 5),.int .i64 (f 6),.int .i64 (f 7)]
def upd (f:Nat->Int) (j:Nat) (x:Int):Nat->Int:=fun k=>if k=j then x else f k
def Row (w:World) (g:Nat) (f:Nat->Int):Prop:=w.heap[g]?=some (.cells (ef f) 159 (0,0))
theorem pV {p:Nat->Prop} (h0:p 0) (h1:p 1) (h2:p 2) (h3:p 3) (h4:p 4) (h5:p 5) (h6:p 6) (h7:p 7):∀j,j<8->p j
 |0,_=>h0|1,_=>h1|2,_=>h2|3,_=>h3|4,_=>h4|5,_=>h5|6,_=>h6|7,_=>h7
 |_+8,h=>by omega
theorem B9 (f:Nat->Int):∀j,j<8->(ef f)[j]?=some (.int .i64 (f j)):=pV rfl rfl rfl rfl rfl rfl rfl rfl
theorem Ak (f:Nat->Int) (x:Int):∀j,j<8->(ef f).setIfInBounds j (.int .i64 x)=ef (upd f j x):=pV rfl rfl rfl rfl rfl rfl rfl rfl
theorem yt (f:Nat->Int):(ef f).size=8:=rfl
theorem nD (f:Nat->Int):(ef f).all (·.oneCell')=true:=by simp[ef,Value.oneCell']
theorem vr {f g:Nat->Int} (h:∀j,j<8->f j=g j):ef f=ef g:=by
 simp[ef,h 0,h 1,h 2,h 3,h 4,h 5,h 6,h 7]
theorem Row.cell {w:World} {g:Nat} {f:Nat->Int} (h:Row w g f) (j:Nat) (hj:j<8):w.cell? ⟨g,j,none⟩=some (.int .i64 (f j)):=by
 rw[cell_of_row w g j _ _ _ h,B9 f j hj]
theorem Row.frozen {w:World} {g:Nat} {f:Nat->Int} (h:Row w g f) (j:Nat):w.frozen? ⟨g,j,none⟩=false:=frozen_of_row w g j _ _ h
theorem Row.lt {w:World} {g:Nat} {f:Nat->Int} (h:Row w g f):g<w.heap.size:=by
 rcases Nat.lt_or_ge g w.heap.size with hlt|hge
 ·exact hlt
 ·rw[Row,Array.getElem?_eq_none hge]at h;cases h
theorem Row.below {w w':World} {g:Nat} {f:Nat->Int} (h:Row w g f) (hb:iO w w'):Row w' g f:=(hb.block g h.lt).trans h
theorem Row.alloc {w:World} {g:Nat} {f:Nat->Int} (h:Row w g f) (o:Obj):Row (w.alloc o) g f:=(Below.heap_alloc w o g h.lt).trans h
theorem Row.new (w:World) (f:Nat->Int):Row (w.alloc (.cells (ef f) 159)) w.heap.size f:=heap_alloc_new w _
theorem Row.setCell {w:World} {g:Nat} {f:Nat->Int} (h:Row w g f) (j:Nat) (hj:j<8) (x:Int):Row (w.setCell ⟨g,j,none⟩ (.int .i64 x)) g (upd f j x):=by
 have:=heap_setCell_same w g j _ _ (.int .i64 x) h;rw[Ak f x j hj]at this;exact this
theorem Row.other {w:World} {g:Nat} {f:Nat->Int} (h:Row w g f) (a:Addr) (v:Value) (hne:g≠a.block):Row (w.setCell a v) g f:=(heap_setCell_other w a g v hne).trans h
theorem Row.setRow {w:World} {g:Nat} {f:Nat->Int} (h:Row w g f) (f':Nat->Int):Row (w.setRow g (ef f')) g f':=setRow_heap w g _ _ _ _ h
theorem pW {B g:Nat} {w0 w:World} (h:Below B w0 w) (hB:B<=g) (cs:Array Value):Below B w0 (w.setRow g cs):=
 h.trans ⟨rfl,rfl,rfl,by simp,fun k hk=>_root_.Go.setRow_other w g k cs Ff⟩
theorem Gw (f:Nat->Int):(Tryz.prog.info? 159).map (·.size)=some (ef f).size:=by
 rw[yt];kernel_rfl
theorem Ht:Tryz.prog.underlying 159=some (.array 8 2):=by kernel_rfl
theorem rp (w:World) (g:Nat) (cs:Array Value):w.grownBy (w.setRow g cs) (some g):=
 ⟨rfl,rfl,rfl,by simp,fun k _ hne=>_root_.Go.setRow_other w g k cs (fun e=>hne (by rw[e]))⟩
theorem Row.kept {w w':World} {g:Nat} {f:Nat->Int} {row:Option Nat} (h:Row w g f) (hg:w.grownBy w' row) (hne:some g≠row):Row w' g f:=(hg.block g h.lt hne).trans h
theorem gY {ops:Array Oper} {rest:List Oper} {o:Oper} {a:Act} {w:World} {Q:Exit->Act->World->Prop} (hgd:o.guard=none) (x:Operand) (ho:o.op=.load 159 x)
  (g:Nat) (hx:a.eval x=.pointer (some ⟨g,0,none⟩)) (f:Nat->Int) (hr:Row w g f)
  (h:wpList Tryz.prog ops Q rest (a.put o.dst (.agg (ef f))) w):wpList Tryz.prog ops Q (o::rest) a w:=
 wpList_load_row hgd _ x ho g hx _ _ _ _ hr Ht rfl (Gw f) h
theorem dF {ops:Array Oper} {rest:List Oper} {o:Oper} {a:Act} {w:World} {Q:Exit->Act->World->Prop} (hgd:o.guard=none) (x y:Operand) (ho:o.op=.store 159 x y)
  (g:Nat) (f:Nat->Int) (hx:a.eval x=.pointer (some ⟨g,0,none⟩)) (hy:a.eval y=.agg (ef f)) (old:Nat->Int) (hr:Row w g old)
  (h:∀w',Row w' g f->w.grownBy w' (some g)->wpList Tryz.prog ops Q rest (a.put o.dst undef) w'):wpList Tryz.prog ops Q (o::rest) a w:=
 wpList_store_row hgd _ x y ho g (ef f) hx hy _ _ hr (Gw f) rfl (nD f) (h _ (hr.setRow f) (rp w g _))
theorem jp (x:Int) (w:World):
  Calls Tryz.prog 212 #[.int .i64 x] w fun e w'=>e=.returned (.bool (bJ x))/\w'=w:=by
 by_cases h0:0<=x
 ·by_cases h1:x<=9999
  ·rw[qF h0 h1]
   go_enter Tryz.func212,Tryz.ntmps212;go_wp2;go_ret;exact⟨af Fg,rfl⟩
  ·rw[lB Ff]
   go_enter Tryz.func212,Tryz.ntmps212;go_wp2;go_ret;exact⟨af Fg,rfl⟩
 ·rw[lB Ff]
  go_enter Tryz.func212,Tryz.ntmps212;go_wp2;go_ret;exact⟨af Fg,rfl⟩
theorem xP (x:Int) (w:World):
  Calls Tryz.prog 186 #[.int .i64 x] w fun e w'=>e=.returned (.bool (iW x))/\w'=w:=by
 by_cases h0:1<=x
 ·by_cases h1:x<=8
  ·rw[yu h0 h1]
   go_enter Tryz.func186,Tryz.ntmps186;go_wp2;go_ret;exact⟨af Fg,rfl⟩
  ·rw[sG Ff]
   go_enter Tryz.func186,Tryz.ntmps186;go_wp2;go_ret;exact⟨af Fg,rfl⟩
 ·rw[sG Ff]
  go_enter Tryz.func186,Tryz.ntmps186;go_wp2;go_ret;exact⟨af Fg,rfl⟩
def jV (xs:List Int) (j:Nat):Nat->Int:=fun k=>if k<j then xs.getD k 0 else 0
def oU (xs:List Int):Nat->Int:=fun j=>if aK xs then xs.getD j 0 else 0
theorem xe (xs:List Int) (j:Nat):upd (jV xs j) j (xs.getD j 0)=jV xs (j+1):=by
 funext k
 unfold upd jV;by_cases e:k=j
 ·subst e;simp
 ·have:k<j+1↔k<j:=by omega
  simp[e,this]
theorem xf (xs:List Int):jV xs 0=fun _=>0:=by funext k;simp[jV]
theorem xg (xs:List Int):jV xs xs.length=fun k=>xs.getD k 0:=by
 funext k
 unfold jV;split
 ·rfl
 ·rw[yx xs k Ff]
theorem jj {fn:Func} {p u:Tmp} (h:fn.results=#[.cell p 159,.tmp u]) (tmps:Array Value) (w:World) (g:Nat) (f:Nat->Int) (x:Value)
  (hp:tmps.getD p undef=.pointer (some ⟨g,0,none⟩)) (hx:tmps.getD u undef=x) (hr:Row w g f):
  (results fn tmps).run Tryz.prog w=.ok (.tuple #[.agg (ef f),x]) w:=by
 rw[results_cell_tmp h,hp,hx];simp only[asAddr,Sem.run_pure,Result.andThen_ok];rw[run_loadVar_row w g _ _ _ _ _ hr Ht rfl (Gw f)];rfl
theorem uM {xs:List Int} (h:aK xs=true):oU xs=fun k=>xs.getD k 0:=by funext k;simp[oU,h]
theorem su {xs:List Int} (h:aK xs=false):oU xs=fun _=>0:=by funext k;simp[oU,h]
def mh (xs:List Int) (w wr:World) (j:Nat):Prop:=Row wr w.heap.size (fun _=>0)/\Row wr (w.heap.size+1) (jV xs j)/\(xs.take j).all bJ=true/\iO w wr
theorem mh.start (xs:List Int) (w:World):mh xs w ((w.alloc (.cells (ef fun _=>0) 159)).alloc (.cells (ef fun _=>0) 159)) 0:=by
 refine⟨(Row.new w _).alloc _,?_,by simp,Fc.alloc Fg _⟩;have:=Row.new (w.alloc (.cells (ef fun _=>0) 159)) (fun _=>0);rw[xf];simpa using this
theorem mi (v:Value) (xs:List Int) (w:World) (h:ag w v xs) (hbig:xs.length<=1099511627776):
  Calls Tryz.prog 176 #[v] w fun e w'=>e=.returned (.tuple #[.agg (ef (oU xs)),.bool (aK xs)])/\iO w w':=by
 obtain⟨ao,cap,rfl⟩:=h.form;obtain⟨-,la,ma,hcell⟩:=h.cellOf;clear h;obtain⟨n,hn⟩:=Fe xs.length
 rw[<-hn]at la hcell hbig⊢;have HN:Hid (n=xs.length):=hn;clear hn;unfold maxLen at ma;by_cases hc:iW (n:Int)=true
 ·have h8:n<=8:=by simp[iW]at hc;omega
  have HL:Hid (jK xs.length=true):=by rw[Hid,<-HN.out];exact hc
  go_enter Tryz.func176,Tryz.ntmps176;go_wp2_with (first|(go_at_call 186;refine(xP _ _).mono ?_;rw[hc];rintro e w' ⟨rfl,hw⟩;subst w'))
  clear hc;go_loopw [14] (fun i wr=>∃j:Nat,j<=n/\i=.int .i64 j/\Hid (mh xs w wr j)) (fun i _=>n-(intOf i).toNat)
  case atStart=>exact⟨0,Nat.zero_le _,rfl,mh.start xs w⟩
  case round=>
   obtain⟨j,hj,rfl,HR⟩:=hrel;by_cases hlt:(j:Int)<(n:Int)
   ·obtain⟨b,off,rfl,hb,hc0⟩:=hcell j Ff
    have hc1:=(HR.out.2.2.2.cell (p:=⟨b,off+j,none⟩) hb).trans hc0;obtain⟨x,hx⟩:=Fe (xs.getD j 0)
    rw[<-hx]at hc1;clear hc0 hcell;by_cases hv:bJ x=true
    ·have hfr:=HR.out.2.1.frozen j
     have hcc:=HR.out.2.1.cell j Ff;have HS:Hid (mh xs w (wr.setCell ⟨w.heap.size+1,j,none⟩ (.int .i64 x)) (j+1)):=by
      obtain⟨r1,r2,r3,r4⟩:=HR.out;refine⟨r1.other _ _ Fg,?_,sI (by have:=HN.out;omega) r3 (by rw[<-hx];exact hv),r4.setCell Fg _⟩;have:=r2.setCell j Ff x
      rwa[hx,xe,<-hx]at this
     clear hx HR;go_wp2_with (first|(go_at_call 212;refine(jp _ _).mono ?_;rw[hv];rintro e w' ⟨rfl,hw⟩;subst w'))
     go_roundw
     case rel=>exact⟨j+1,by omega,by go_num,HS⟩
     case measure=>simp[intOf];omega
    ·have hv':bJ x=false:=by simpa using hv
     have HB:Hid (aK xs=false):=by
      simp[Hid,aK,ry (xs:=xs) (j:=j) (by have:=HN.out;omega) (by rw[<-hx];exact hv')]
     have hrow:=HR.out.1;clear hx hv;go_wp2_with (first|(go_at_call 212;refine(jp _ _).mono ?_;rw[hv'];rintro e w' ⟨rfl,hw⟩;subst w')|(refine wpList_store_row rfl 159 _ _ rfl w.heap.size (ef fun _=>0) rfl rfl _ _ hrow (Gw _) rfl (nD _) ?_))
     refine bodyPost_ret (jj rfl _ _ w.heap.size (fun _=>0) _ rfl rfl (hrow.setRow _)) rfl ?_;rw[HB.out,su HB.out];exact⟨rfl,pW HR.out.2.2.2 (Nat.le_refl _) _⟩
   ·have hrow:=HR.out.1
    have hrow2:=HR.out.2.1;go_wp2_with (first|(refine wpList_load_row rfl 159 _ rfl (w.heap.size+1) rfl _ _ _ _ hrow2 Ht rfl (Gw _) ?_)|(refine wpList_store_row rfl 159 _ _ rfl w.heap.size (ef (jV xs j)) rfl rfl _ _ hrow (Gw _) rfl (nD _) ?_))
    refine bodyPost_ret (jj rfl _ _ w.heap.size (jV xs j) _ rfl rfl (hrow.setRow _)) rfl ?_;have e:j=xs.length:=by have:=HN.out;omega
    have HB:aK xs=true:=by
     have:=HR.out.2.2.1;rw[e,List.take_length]at this;simp[aK,this,HL.out]
    rw[HB,uM HB,e,xg];exact⟨rfl,pW HR.out.2.2.2 (Nat.le_refl _) _⟩
 ·have hc':iW (n:Int)=false:=by simpa using hc
  have HB:Hid (aK xs=false):=by
   have:=HN.out;rw[yv,this]at hc';simp[Hid,aK,hc']
  clear hc;go_enter Tryz.func176,Tryz.ntmps176;go_wp2_with (first|(go_at_call 186;refine(xP _ _).mono ?_;rw[hc'];rintro e w' ⟨rfl,hw⟩;subst w'))
  refine bodyPost_ret (jj rfl _ _ w.heap.size (fun _=>0) _ rfl rfl (mh.start xs w).1) rfl ?_;rw[HB.out,su HB.out];exact⟨rfl,Fc.alloc Fg _⟩
def fd (f:Nat->Int) (n:Nat):List Int:=(List.range n).map f
theorem yQ (f:Nat->Int) (n:Nat):(fd f n).length=n:=by simp[fd]
theorem vJ (xs:List Int):fd (fun k=>xs.getD k 0) xs.length=xs:=by
 apply List.ext_getElem
 ·simp[fd]
 ·intro j h1 h2
  simp[fd,List.getD,h2]
theorem kZ (f:Nat->Int) (n:Nat) (w:World) (h8:n<=8):
  Calls Tryz.prog 286 #[.agg (ef f),.int .i64 n] w fun e w'=>∃u,e=.returned u/\Own w' w.heap.size u (fd f n)/\iO w w':=by
 obtain⟨i0,hi,hz0,hz1,hz2⟩:=info_parts Gz;have h8':(n:Int)<=8:=by omega
 obtain⟨w1,hw1⟩:=Fe ((w.alloc (.cells (ef f) 159)).alloc (.cells #[] 2))
 have hown:w1.ownsRow w.heap.size 2 1 (.slice (some ⟨w.heap.size+1,0,none⟩) 0 0) 0 []:=by
  have:=World.ownsRow_lit (base:=w.heap.size) (e:=2) (size:=1) (w.alloc (.cells (ef f) 159)) #[] 0 Fg (Nat.zero_le _) rfl;rw[hw1];simpa using this
 have hrow:Row w1 w.heap.size f:=by rw[hw1];exact(Row.new w f).alloc _
 have hnews:∀j u,((fd f n).map (Value.int .i64))[j]?=some u->w1.cell? ((⟨w.heap.size,0,none⟩:Addr).add j)=some u:=by
  intro j u hj;have hlt:j<n:=by
   rcases Nat.lt_or_ge j n with h|h
   ·exact h
   ·rw[List.getElem?_eq_none (by simpa[fd]using h)]at hj;cases hj
  rw[show(⟨w.heap.size,0,none⟩:Addr).add j=⟨w.heap.size,j,none⟩ by unfold Addr.add;split<;>simp_all];rw[hrow.cell j Ff];simp[fd,hlt]at hj⊢;exact hj
 have hone:∀u∈(fd f n).map (Value.int .i64),u.oneCell'=true:=by
  intro u hu;obtain⟨x,_,rfl⟩:=List.mem_map.1 hu;rfl
 have hll:((fd f n).map (Value.int .i64)).length=n*1:=by simp[fd]
 have hb1:iO w w1:=by rw[hw1];exact Fc.alloc Fg _
 go_enter Tryz.func286,Tryz.ntmps286;go_wp2_with (at_builtin;rw[<-hw1];refine wpList_append_own _ rfl _ _ 22 rfl w.heap.size 2 i0 (.int .i64 0) 1 8 Tryz.underlying22 hi hz0 hz1 hz2 rfl Fh _ _ _ rfl hown _ n 8 ((fd f n).map (Value.int .i64)) rfl hll hnews hone (by unfold maxLen;omega) Ff hb1.size ?_)
 intro v' w2 hown' hgrow _;rw[<-hw1]at hgrow;have HG:Hid (iO w w2):=hb1.grown hgrow hb1.size (fun g e=>by simp[Value.ownBlock]at e;omega);go_wp2;go_ret;refine⟨_,rfl,?_,HG.out⟩;unfold Own;simpa[yQ]using hown'
theorem yR (xs:List Int) (i:Nat) (x:Int):fd (upd (fun k=>xs.getD k 0) i x) xs.length=xs.set i x:=by
 apply List.ext_getElem
 ·simp[fd]
 ·intro j h1 h2
  have h3:j<xs.length:=by simpa[fd]using h1
  rw[List.getElem_set];by_cases e:i=j
  ·subst e;simp[fd,upd]
  ·have e':¬j=i:=fun h=>e h.symm
   simp[fd,upd,e,e',List.getD,h3]
theorem Cn (v:Value) (xs:List Int) (i x:Int) (w:World) (h:ag w v xs) (hbig:xs.length<=1099511627776):
  Calls Tryz.prog 271 #[v,.int .i64 i,.int .i64 x] w fun e w'=>∃u,e=.returned (.tuple #[u,.bool (fy xs i x)])/\Own w' w.heap.size u (eV xs i x)/\iO w w':=by
 have c1:=mi v xs w h hbig;obtain⟨ao,cap,rfl⟩:=h.form;clear h;obtain⟨n,hn⟩:=Fe xs.length
 by_cases hok:aK xs=true
 ·have hlen:=bE hok
  rw[hok,uM hok]at c1;obtain⟨f,hf⟩:∃f:Nat->Int,f=fun k=>xs.getD k 0:=⟨_,rfl⟩
  have HL:Hid (fd f n=xs):=by rw[Hid,hf,hn];exact vJ xs
  have HL2:Hid (∀i x,fd (upd f i x) n=xs.set i x):=by rw[hf,hn];exact yR xs
  rw[<-hf]at c1;clear hf;rw[<-hn]at c1 hbig hlen⊢;by_cases h0:0<=i
  ·by_cases h1:i<(n:Int)
   ·by_cases hv:bJ x=true
    ·have HB:Hid (fy xs i x=true/\eV xs i x=xs.set i.toNat x):=by
      simp[Hid,fy,eV,hok,ex,hv,h0,<-hn,h1]
     clear hn hok;go_enter Tryz.func271,Tryz.ntmps271;go_wp2_with fail
     refine c1.mono ?_;rintro e w1 ⟨rfl,b1⟩;go_wp2_with (refine dF rfl _ _ rfl w1.heap.size f rfl rfl (fun _=>0) (Row.new w1 fun _=>0) ?_)
     intro w2 r2 g2;have b2:iO w w2:=(b1.alloc b1.size _).grown g2 (by simp;have:=b1.size;omega) (fun k e=>by cases e;exact b1.size);have hfr:=r2.frozen i.toNat;have hc2:=r2.cell i.toNat Ff;have r3:=r2.setCell i.toNat Ff x;have b3:Hid (iO w (w2.setCell ⟨w1.heap.size,i.toNat,none⟩ (.int .i64 x))):=b2.setCell (p:=⟨w1.heap.size,i.toNat,none⟩) b1.size (.int .i64 x);clear g2 b2 r2;go_wp2_with (first
      |(go_at_call 212;refine(jp _ _).mono ?_;rw[hv];rintro e w' ⟨rfl,hw⟩;subst w')
      |(refine gY rfl _ rfl w1.heap.size rfl _ r3 ?_)
      |(go_at_call 286;refine(kZ _ n _ Ff).mono ?_;rintro e w4 ⟨u,rfl,o4,b4⟩;rw[HL2.out]at o4;have HU:Hid (Own w4 w.heap.size u (xs.set i.toNat x)/\iO w w4):=⟨o4.mono b3.out.size,b3.out.trans (b4.mono b3.out.size)⟩;clear o4 b4))
     go_ret2
     rw[HB.out.1,HB.out.2];exact⟨_,rfl,HU.out⟩
    ·have HB:Hid (fy xs i x=false/\eV xs i x=xs):=by
      have hv:bJ x=false:=by simpa using hv
      simp[Hid,fy,eV,hok,ex,hv]
     replace hv:bJ x=false:=by simpa using hv
     clear hn hok;go_enter Tryz.func271,Tryz.ntmps271;go_wp2_with fail
     refine c1.mono ?_;rintro e w1 ⟨rfl,b1⟩;go_wp2_with (refine dF rfl _ _ rfl w1.heap.size f rfl rfl (fun _=>0) (Row.new w1 fun _=>0) ?_)
     intro w2 r2 g2;have b2:Hid (iO w w2):=(b1.alloc b1.size _).grown g2 (by simp;have:=b1.size;omega) (fun k e=>by cases e;exact b1.size);clear g2;go_wp2_with (first
      |(go_at_call 212;refine(jp _ _).mono ?_;rw[hv];rintro e w' ⟨rfl,hw⟩;subst w')
      |(refine gY rfl _ rfl w1.heap.size rfl _ r2 ?_)
      |(go_at_call 286;refine(kZ _ n _ Ff).mono ?_;rw[HL.out];rintro e w4 ⟨u,rfl,o4,b4⟩;have HU:Hid (Own w4 w.heap.size u xs/\iO w w4):=⟨o4.mono b2.out.size,b2.out.trans (b4.mono b2.out.size)⟩;clear o4 b4))
     go_ret2
     rw[HB.out.1,HB.out.2];exact⟨_,rfl,HU.out⟩
   ·have HB:Hid (fy xs i x=false/\eV xs i x=xs):=by
     simp[Hid,fy,eV,hok,ex,<-hn];omega
    obtain⟨bv,hv⟩:∃bv,bJ x=bv:=⟨_,rfl⟩
    clear hn hok;go_enter Tryz.func271,Tryz.ntmps271;go_wp2_with fail
    refine c1.mono ?_;rintro e w1 ⟨rfl,b1⟩;go_wp2_with (refine dF rfl _ _ rfl w1.heap.size f rfl rfl (fun _=>0) (Row.new w1 fun _=>0) ?_)
    intro w2 r2 g2;have b2:Hid (iO w w2):=(b1.alloc b1.size _).grown g2 (by simp;have:=b1.size;omega) (fun k e=>by cases e;exact b1.size);clear g2;go_wp2_with (first
     |(go_at_call 212;refine(jp _ _).mono ?_;rw[hv];rintro e w' ⟨rfl,hw⟩;subst w')
     |(refine gY rfl _ rfl w1.heap.size rfl _ r2 ?_)
     |(go_at_call 286;refine(kZ _ n _ Ff).mono ?_;rw[HL.out];rintro e w4 ⟨u,rfl,o4,b4⟩;have HU:Hid (Own w4 w.heap.size u xs/\iO w w4):=⟨o4.mono b2.out.size,b2.out.trans (b4.mono b2.out.size)⟩;clear o4 b4))
    go_ret2
    rw[HB.out.1,HB.out.2];exact⟨_,rfl,HU.out⟩
  ·have HB:Hid (fy xs i x=false/\eV xs i x=xs):=by
    simp[Hid,fy,eV,hok,ex];omega
   obtain⟨bv,hv⟩:∃bv,bJ x=bv:=⟨_,rfl⟩
   clear hn hok;go_enter Tryz.func271,Tryz.ntmps271;go_wp2_with fail
   refine c1.mono ?_;rintro e w1 ⟨rfl,b1⟩;go_wp2_with (refine dF rfl _ _ rfl w1.heap.size f rfl rfl (fun _=>0) (Row.new w1 fun _=>0) ?_)
   intro w2 r2 g2;have b2:Hid (iO w w2):=(b1.alloc b1.size _).grown g2 (by simp;have:=b1.size;omega) (fun k e=>by cases e;exact b1.size);clear g2;go_wp2_with (first
    |(go_at_call 212;refine(jp _ _).mono ?_;rw[hv];rintro e w' ⟨rfl,hw⟩;subst w')
    |(refine gY rfl _ rfl w1.heap.size rfl _ r2 ?_)
    |(go_at_call 286;refine(kZ _ n _ Ff).mono ?_;rw[HL.out];rintro e w4 ⟨u,rfl,o4,b4⟩;have HU:Hid (Own w4 w.heap.size u xs/\iO w w4):=⟨o4.mono b2.out.size,b2.out.trans (b4.mono b2.out.size)⟩;clear o4 b4))
   go_ret2
   rw[HB.out.1,HB.out.2];exact⟨_,rfl,HU.out⟩
 ·have hok':aK xs=false:=by simpa using hok
  rw[hok',su hok']at c1;have HB:Hid (fy xs i x=false/\eV xs i x=[]):=by
   simp[Hid,fy,eV,hok']
  clear hok hok';rw[<-hn]at c1;rw[<-hn];clear hn hbig;go_enter Tryz.func271,Tryz.ntmps271;go_wp2_with fail
  refine c1.mono ?_;rintro e w1 ⟨rfl,b1⟩;go_wp2_with (refine dF rfl _ _ rfl w1.heap.size (fun _=>0) rfl rfl (fun _=>0) (Row.new w1 fun _=>0) ?_)
  intro w2 r2 g2;have b2:Hid (iO w w2):=(b1.alloc b1.size _).grown g2 (by simp;have:=b1.size;omega) (fun k e=>by cases e;exact b1.size);clear g2;go_wp2
  go_ret2
  rw[HB.out.1,HB.out.2];exact⟨_,rfl,(Am w2).mono b2.out.size,b2.out.trans ((Ao w2 _).mono b2.out.size)⟩
def fD (w:World) (g:Nat) (f:Nat->Int):World:=
 (((((((w.setCell ⟨g,0,none⟩ (.int .i64 (f 0))).setCell ⟨g,1,none⟩ (.int .i64 (f 1))).setCell ⟨g,2,none⟩ (.int .i64 (f 2))).setCell ⟨g,3,none⟩ (.int .i64 (f 3))).setCell ⟨g,4,none⟩ (.int .i64 (f 4))).setCell ⟨g,5,none⟩ (.int .i64 (f 5))).setCell ⟨g,6,none⟩ (.int .i64 (f 6))).setCell ⟨g,7,none⟩ (.int .i64 (f 7))
theorem Row.fill {w:World} {g:Nat} {old:Nat->Int} (h:Row w g old) (f:Nat->Int):Row (fD w g f) g f:=by
 have:=(((((((h.setCell 0 Ff (f 0)).setCell 1 Ff (f 1)).setCell 2 Ff (f 2)).setCell 3 Ff (f 3)).setCell 4 Ff (f 4)).setCell 5 Ff (f 5)).setCell 6 Ff (f 6)).setCell 7 Ff (f 7);exact Eq.trans this (congrArg (fun c=>some (Obj.cells c 159 (0,0))) (vr (pV rfl rfl rfl rfl rfl rfl rfl rfl)))
theorem Row.fill_other {w:World} {g k:Nat} {old:Nat->Int} (h:Row w g old) (f:Nat->Int) (hne:g≠k):Row (fD w k f) g old:=by
 unfold fD;exact(((((((h.other _ _ hne).other _ _ hne).other _ _ hne).other _ _ hne).other _ _ hne).other _ _ hne).other _ _ hne).other _ _ hne
theorem ox {B g:Nat} {w0 w:World} (h:Below B w0 w) (hB:B<=g) (f:Nat->Int):Below B w0 (fD w g f):=by
 unfold fD;exact(((((((h.setCell hB _).setCell hB _).setCell hB _).setCell hB _).setCell hB _).setCell hB _).setCell hB _).setCell hB _
theorem Row.drew {w:World} {g:Nat} {f:Nat->Int} (h:Row w g f):Row w.drew g f:=h
theorem fI {w w4:World} {H:Nat} (f g:Nat->Int) (hH:H=w.heap.size) (h:iO w w4/\Row w4 H (fun _=>0)/\Row w4 (H+1) (fun _=>0)):
  Row (((((((((((((((((w4.setCell ⟨H,0,none⟩ (.int .i64 (f 0))).setCell ⟨H,1,none⟩ (.int .i64 (f 1))).setCell ⟨H,2,none⟩ (.int .i64 (f 2))).setCell ⟨H,3,none⟩ (.int .i64 (f 3))).setCell ⟨H,4,none⟩ (.int .i64 (f 4))).setCell ⟨H,5,none⟩ (.int .i64 (f 5))).setCell ⟨H,6,none⟩ (.int .i64 (f 6))).setCell ⟨H,7,none⟩ (.int .i64 (f 7))).setCell ⟨(H+1),0,none⟩ (.int .i64 (g 0))).setCell ⟨(H+1),1,none⟩ (.int .i64 (g 1))).setCell ⟨(H+1),2,none⟩ (.int .i64 (g 2))).setCell ⟨(H+1),3,none⟩ (.int .i64 (g 3))).setCell ⟨(H+1),4,none⟩ (.int .i64 (g 4))).setCell ⟨(H+1),5,none⟩ (.int .i64 (g 5))).setCell ⟨(H+1),6,none⟩ (.int .i64 (g 6))).setCell ⟨(H+1),7,none⟩ (.int .i64 (g 7))).drew) H f/\Row (((((((((((((((((w4.setCell ⟨H,0,none⟩ (.int .i64 (f 0))).setCell ⟨H,1,none⟩ (.int .i64 (f 1))).setCell ⟨H,2,none⟩ (.int .i64 (f 2))).setCell ⟨H,3,none⟩ (.int .i64 (f 3))).setCell ⟨H,4,none⟩ (.int .i64 (f 4))).setCell ⟨H,5,none⟩ (.int .i64 (f 5))).setCell ⟨H,6,none⟩ (.int .i64 (f 6))).setCell ⟨H,7,none⟩ (.int .i64 (f 7))).setCell ⟨(H+1),0,none⟩ (.int .i64 (g 0))).setCell ⟨(H+1),1,none⟩ (.int .i64 (g 1))).setCell ⟨(H+1),2,none⟩ (.int .i64 (g 2))).setCell ⟨(H+1),3,none⟩ (.int .i64 (g 3))).setCell ⟨(H+1),4,none⟩ (.int .i64 (g 4))).setCell ⟨(H+1),5,none⟩ (.int .i64 (g 5))).setCell ⟨(H+1),6,none⟩ (.int .i64 (g 6))).setCell ⟨(H+1),7,none⟩ (.int .i64 (g 7))).drew) (H+1) g/\iO w (((((((((((((((((w4.setCell ⟨H,0,none⟩ (.int .i64 (f 0))).setCell ⟨H,1,none⟩ (.int .i64 (f 1))).setCell ⟨H,2,none⟩ (.int .i64 (f 2))).setCell ⟨H,3,none⟩ (.int .i64 (f 3))).setCell ⟨H,4,none⟩ (.int .i64 (f 4))).setCell ⟨H,5,none⟩ (.int .i64 (f 5))).setCell ⟨H,6,none⟩ (.int .i64 (f 6))).setCell ⟨H,7,none⟩ (.int .i64 (f 7))).setCell ⟨(H+1),0,none⟩ (.int .i64 (g 0))).setCell ⟨(H+1),1,none⟩ (.int .i64 (g 1))).setCell ⟨(H+1),2,none⟩ (.int .i64 (g 2))).setCell ⟨(H+1),3,none⟩ (.int .i64 (g 3))).setCell ⟨(H+1),4,none⟩ (.int .i64 (g 4))).setCell ⟨(H+1),5,none⟩ (.int .i64 (g 5))).setCell ⟨(H+1),6,none⟩ (.int .i64 (g 6))).setCell ⟨(H+1),7,none⟩ (.int .i64 (g 7))).drew):=by
 obtain⟨z1,z2,z3⟩:=h;have HW0:Row (fD (fD w4 H f) (H+1) g) H f/\Row (fD (fD w4 H f) (H+1) g) (H+1) g/\iO w (fD (fD w4 H f) (H+1) g):=by
  refine⟨(z2.fill f).fill_other _ Ff,(z3.fill_other f Ff).fill g,ox (ox z1 Ff _) Ff _⟩
 have HW:Row (fD (fD w4 H f) (H+1) g).drew H f/\Row (fD (fD w4 H f) (H+1) g).drew (H+1) g/\iO w (fD (fD w4 H f) (H+1) g).drew:=⟨HW0.1.drew,HW0.2.1.drew,HW0.2.2.drew⟩
 unfold fD at HW;exact HW
theorem gi {fn:Func} {p q u:Tmp} (h:fn.results=#[.cell p 159,.cell q 159,.tmp u]) (tmps:Array Value) (w:World) (g k:Nat) (f f':Nat->Int) (x:Value)
  (hp:tmps.getD p undef=.pointer (some ⟨g,0,none⟩)) (hq:tmps.getD q undef=.pointer (some ⟨k,0,none⟩)) (hx:tmps.getD u undef=x) (hr:Row w g f) (hr':Row w k f'):
  (results fn tmps).run Tryz.prog w=.ok (.tuple #[.agg (ef f),.agg (ef f'),x]) w:=by
 have l1:=run_loadVar_row w g _ _ _ _ _ hr Ht rfl (Gw f);have l2:=run_loadVar_row w k _ _ _ _ _ hr' Ht rfl (Gw f');have hp':tmps[p]?.getD undef=.pointer (some ⟨g,0,none⟩):=by simpa using hp
 have hq':tmps[q]?.getD undef=.pointer (some ⟨k,0,none⟩):=by simpa using hq
 have hx':tmps[u]?.getD undef=x:=by simpa using hx
 simp only[results,h];simp[Sem.run_bind,Result.andThen,asAddr,hp',hq',hx',l1,l2]
theorem wm (va vb:Value) (a b:List Int) (w:World) (ha:ag w va a) (hb:ag w vb b) (ga:a.length<=1099511627776) (gb:b.length<=1099511627776):
  Calls Tryz.prog 144 #[va,vb] w fun e w'=>e=.returned (.tuple #[.agg (ef (oU a)),.agg (ef (oU b)),.bool (au a b)])/\iO w w':=by
 obtain⟨f,hf⟩:=Fe (oU a)
 obtain⟨g,hg⟩:=Fe (oU b)
 obtain⟨x,hx⟩:=Fe (aK a)
 obtain⟨y,hy⟩:=Fe (aK b)
 have c1:∀w',ag w' va a->_:=fun w' h=>mi va a w' h ga
 have c2:∀w',ag w' vb b->_:=fun w' h=>mi vb b w' h gb
 rw[<-hf,<-hg];simp only[<-hf,<-hg,<-hx,<-hy]at c1 c2;have HB:Hid (au a b=(x&&(y&&decide (a.length=b.length)))):=by rw[hx,hy];rfl
 clear hf hg hx hy;obtain⟨w0,hw0⟩:=Fe ((w.alloc (.cells (ef fun _=>0) 159)).alloc (.cells (ef fun _=>0) 159))
 have b0:iO w w0:=by rw[hw0];exact Fc.alloc Fg _
 have s0:w0.heap.size=w.heap.size+2:=by rw[hw0];simp
 have r0:Row w0 w.heap.size (fun _=>0):=by rw[hw0];exact(Row.new w _).alloc _
 have q0:Row w0 (w.heap.size+1) (fun _=>0):=by
  rw[hw0];have:=Row.new (w.alloc (.cells (ef fun _=>0) 159)) (fun _=>0);simpa using this
 have k1:=c1 w0 (ha.below b0 (Nat.le_refl _));rw[hw0]at k1;obtain⟨ao,ca,rfl⟩:=ha.form;obtain⟨bo,cb,rfl⟩:=hb.form;go_enter Tryz.func144,Tryz.ntmps144;go_wp2_with fail
 refine k1.mono ?_;rw[<-hw0];rintro e w1 ⟨rfl,b1⟩;clear hw0;go_wp2_with (refine dF rfl _ _ rfl w1.heap.size f rfl rfl (fun _=>0) (Row.new w1 fun _=>0) ?_)
 intro w2 r2 g2;have b2:iO w w2:=((b0.trans (b1.mono b0.size)).alloc (Nat.le_trans b0.size b1.size) _).grown g2 (by simp;have:=b1.size;omega) (fun k e=>by cases e;have:=b1.size;omega);have r2a:Row w2 w.heap.size (fun _=>0):=((r0.below b1).alloc _).kept g2 (by have:=(r0.below b1).lt;simp;omega);have r2b:Row w2 (w.heap.size+1) (fun _=>0):=((q0.below b1).alloc _).kept g2 (by have:=(q0.below b1).lt;simp;omega);have n2:w.heap.size+2<=w1.heap.size:=by have:=b1.size;omega
 obtain⟨G7,hG7⟩:=Fe w1.heap.size
 rw[<-hG7]at r2 n2;have k2:=c2 w2 (hb.below b2 (Nat.le_refl _));clear k1 c1 c2 b1 g2 r0 q0 b0 s0;go_wp2_with fail
 refine k2.mono ?_;rintro e w3 ⟨rfl,b3⟩;go_wp2_with (refine dF rfl _ _ rfl w3.heap.size g rfl rfl (fun _=>0) (Row.new w3 fun _=>0) ?_)
 intro w4 r4 g4;have b4:iO w w4:=((b2.trans (b3.mono b2.size)).alloc (Nat.le_trans b2.size b3.size) _).grown g4 (by simp;have:=b3.size;have:=b2.size;omega) (fun k e=>by cases e;have:=b3.size;have:=b2.size;omega);have r4a:Row w4 w.heap.size (fun _=>0):=((r2a.below b3).alloc _).kept g4 (by have:=(r2a.below b3).lt;simp;omega);have r4b:Row w4 (w.heap.size+1) (fun _=>0):=((r2b.below b3).alloc _).kept g4 (by have:=(r2b.below b3).lt;simp;omega);have r4c:Row w4 G7 f:=((r2.below b3).alloc _).kept g4 (by have:=(r2.below b3).lt;simp;omega);have n4:G7<w3.heap.size:=(r2.below b3).lt;obtain⟨G9,hG9⟩:=Fe w3.heap.size
 rw[<-hG9]at r4 n4;rw[<-hG7,<-hG9];clear hG7 hG9 g4 b3 r2a r2b r2 b2 k2;go_wp2;obtain⟨H,hH⟩:=Fe w.heap.size
 have HH:Hid (H=w.heap.size):=hH;have HR:Hid (iO w w4/\Row w4 H (fun _=>0)/\Row w4 (H+1) (fun _=>0)):=⟨b4,hH▸r4a,hH▸r4b⟩
 rw[<-hH]at n2 r4a r4b;rw[<-hH];clear hH b4;have e1:G7≠H:=by omega
 have e2:G7≠H+1:=by omega
 have e3:G9≠H:=by omega
 have e4:G9≠H+1:=by omega
 have p0:=r4c.cell 0 Ff;have q0:=r4.cell 0 Ff;have s0:=r4a.cell 0 Ff;have t0:=r4b.cell 0 Ff;have u0:=r4a.frozen 0;have v0:=r4b.frozen 0;have p1:=r4c.cell 1 Ff;have q1:=r4.cell 1 Ff;have s1:=r4a.cell 1 Ff;have t1:=r4b.cell 1 Ff;have u1:=r4a.frozen 1;have v1:=r4b.frozen 1;have p2:=r4c.cell 2 Ff;have q2:=r4.cell 2 Ff;have s2:=r4a.cell 2 Ff;have t2:=r4b.cell 2 Ff;have u2:=r4a.frozen 2;have v2:=r4b.frozen 2;have p3:=r4c.cell 3 Ff;have q3:=r4.cell 3 Ff;have s3:=r4a.cell 3 Ff;have t3:=r4b.cell 3 Ff;have u3:=r4a.frozen 3;have v3:=r4b.frozen 3;have p4:=r4c.cell 4 Ff;have q4:=r4.cell 4 Ff;have s4:=r4a.cell 4 Ff;have t4:=r4b.cell 4 Ff;have u4:=r4a.frozen 4;have v4:=r4b.frozen 4;have p5:=r4c.cell 5 Ff;have q5:=r4.cell 5 Ff;have s5:=r4a.cell 5 Ff;have t5:=r4b.cell 5 Ff;have u5:=r4a.frozen 5;have v5:=r4b.frozen 5;have p6:=r4c.cell 6 Ff;have q6:=r4.cell 6 Ff;have s6:=r4a.cell 6 Ff;have t6:=r4b.cell 6 Ff;have u6:=r4a.frozen 6;have v6:=r4b.frozen 6;have p7:=r4c.cell 7 Ff;have q7:=r4.cell 7 Ff;have s7:=r4a.cell 7 Ff;have t7:=r4b.cell 7 Ff;have u7:=r4a.frozen 7;have v7:=r4b.frozen 7;clear r4 r4a r4b r4c;by_cases hx:x=true
 ·by_cases hy:y=true
  ·by_cases hl:a.length=b.length
   ·have hl':((a.length:Int)==(b.length:Int))=true:=by simp[hl]
    have HB':Hid (au a b=true):=by rw[Hid,HB.out,hx,hy,decide_eq_true hl];rfl
    obtain⟨n,hn⟩:=Fe a.length
    obtain⟨m,hm⟩:=Fe b.length
    rw[<-hn]at hl'⊢;rw[<-hm]at hl'⊢;clear HB hl ga gb ha hb hn hm;subst hx hy
    go_big_region
    go_wp2;refine bodyPost_ret (gi rfl _ _ H (H+1) f g _ rfl rfl rfl (fI f g HH.out HR.out).1 (fI f g HH.out HR.out).2.1) rfl ?_;rw[HB'.out];exact⟨rfl,(fI f g HH.out HR.out).2.2⟩
   ·have hl':((a.length:Int)==(b.length:Int))=false:=by simp;omega
    have HB':Hid (au a b=false):=by rw[Hid,HB.out,decide_eq_false hl];simp
    obtain⟨n,hn⟩:=Fe a.length
    obtain⟨m,hm⟩:=Fe b.length
    rw[<-hn]at hl'⊢;rw[<-hm]at hl'⊢;clear HB hl ga gb ha hb hn hm;subst hx hy
    go_big_region
    go_wp2;refine bodyPost_ret (gi rfl _ _ H (H+1) f g _ rfl rfl rfl (fI f g HH.out HR.out).1 (fI f g HH.out HR.out).2.1) rfl ?_;rw[HB'.out];exact⟨rfl,(fI f g HH.out HR.out).2.2⟩
  ·have hy':y=false:=by simpa using hy
   have HB':Hid (au a b=false):=by rw[Hid,HB.out,hy'];simp
   clear HB ga gb ha hb hy;subst hx hy'
   go_big_region
   go_wp2;refine bodyPost_ret (gi rfl _ _ H (H+1) f g _ rfl rfl rfl (fI f g HH.out HR.out).1 (fI f g HH.out HR.out).2.1) rfl ?_;rw[HB'.out];exact⟨rfl,(fI f g HH.out HR.out).2.2⟩
 ·have hx':x=false:=by simpa using hx
  have HB':Hid (au a b=false):=by rw[Hid,HB.out,hx'];simp
  clear HB ga gb ha hb hx;subst hx'
  go_big_region
  go_wp2;refine bodyPost_ret (gi rfl _ _ H (H+1) f g _ rfl rfl rfl (fI f g HH.out HR.out).1 (fI f g HH.out HR.out).2.1) rfl ?_;rw[HB'.out];exact⟨rfl,(fI f g HH.out HR.out).2.2⟩
theorem DK {B:Nat} {w0 w w':World} {g:Nat} (h:Below B w0 w) (hB:B<=w.heap.size) (o:Obj) (hg:(w.alloc o).grownBy w' (some g)) (hBg:B<=g):Below B w0 w':=
 (h.alloc hB o).grown hg (by simp;omega) (fun k e=>by cases e;exact hBg)
theorem sU (w:World):Row ((w.alloc (.cells (ef fun _=>0) 159)).alloc (.cells (ef fun _=>0) 159)) w.heap.size (fun _=>0)/\
  Row ((w.alloc (.cells (ef fun _=>0) 159)).alloc (.cells (ef fun _=>0) 159)) (w.heap.size+1) (fun _=>0):=by
 refine⟨(Row.new w _).alloc _,?_⟩;have:=Row.new (w.alloc (.cells (ef fun _=>0) 159)) (fun _=>0);simpa using this
theorem yI {B:Nat} {w0 w w':World} {g:Nat} (h:Below B w0 w) (hB:B<=w.heap.size) (o o':Obj) (hg:((w.alloc o).alloc o').grownBy w' (some g)) (hBg:B<=g):Below B w0 w':=
 ((h.alloc hB o).alloc (by simp;omega) o').grown hg (by simp;omega) (fun k e=>by cases e;exact hBg)
section
open Go.ChangeShapes Go.WideShapes Go.ChangeAt Go.RowKit
end
section
open Go.ChangeShapes Go.WideShapes Go.ChangeAt Go.RowKit
end
theorem jt (v:Value) (xs:List Int) (w:World) (h:ag w v xs) (h1:1<=xs.length) (hbig:xs.length<=1099511627776):
  Calls Tryz.prog 114 #[v] w fun e w'=>∃u,e=.returned u/\Own w' w.heap.size u xs/\iO w w':=by
 obtain⟨i0,hi,hz0,hz1,hz2⟩:=info_parts Gz;obtain⟨ao,cap,rfl,hl,hm,hc⟩:=h;obtain⟨b,off,hab,hcell⟩:∃b off,ao=some ⟨b,off,none⟩/\∀j,j<xs.length->w.cell? ⟨b,off+j,none⟩=some (.int .i64 (xs.getD j 0)):=by
  rcases hc with e|h
  ·subst e;simp at h1
  ·exact h
 subst hab;have hnews:∀j u,(xs.map (Value.int .i64))[j]?=some u->w.cell? ((⟨b,off,none⟩:Addr).add j)=some u:=by
  intro j u hj;have hlt:j<xs.length:=by
   rcases Nat.lt_or_ge j xs.length with h|h
   ·exact h
   ·rw[List.getElem?_eq_none (by simpa using h)]at hj;cases hj
  rw[show(⟨b,off,none⟩:Addr).add j=⟨b,off+j,none⟩ by unfold Addr.add;split<;>simp_all];rw[hcell j hlt];simp[List.getD,hlt]at hj⊢;exact hj
 have hone:∀u∈xs.map (Value.int .i64),u.oneCell'=true:=by
  intro u hu;obtain⟨x,_,rfl⟩:=List.mem_map.1 hu;rfl
 obtain⟨hm1, -⟩:=hm;unfold maxLen at hm1;obtain⟨n,hn⟩:=Fe xs.length
 have hll:(xs.map (Value.int .i64)).length=n*1:=by simp[hn]
 rw[<-hn]at hbig hl h1⊢;have HN:Hid (n=xs.length):=hn;clear hn hc hcell;go_enter Tryz.func114,Tryz.ntmps114;go_wp2_with (at_builtin;refine wpList_append_grows _ rfl _ _ 22 rfl 2 i0 (.int .i64 0) 1 8 Tryz.underlying22 hi hz0 hz1 hz2 rfl Fh (some ⟨b,off,none⟩) 0 0 [] rfl (by intro e;cases e) Fg (by intro b' _ j u hj;simp at hj) ⟨b,off,none⟩ n cap (xs.map (Value.int .i64)) rfl hll hnews hone Ff (by unfold maxLen;omega) Ff ?_)
 intro v' w1 hown hgrow;go_wp2_with fail
 go_ret;refine⟨_,rfl,?_,(Below.refl w.heap.size w).grown hgrow (Nat.le_refl _) (fun k e=>by cases e)⟩;unfold Own;rw[<-HN.out];exact hown
theorem dJ (u v:Value) (xs ys:List Int) (w:World) (h:ag w u xs) (h':ag w v ys) (hx1:1<=xs.length) (hy1:1<=ys.length) (gx:xs.length<=1099511627776) (gy:ys.length<=1099511627776):
  Calls Tryz.prog 111 #[.agg #[u,v]] w fun e w'=>∃a b,e=.returned (.agg #[a,b])/\aV w' w.heap.size a b xs ys/\iO w w':=by
 have HR:Hid (ag w u xs/\ag w v ys):=⟨h,h'⟩
 clear h h';obtain⟨w2,hw2⟩:=Fe ((w.alloc (.cells #[u,v] 36)).alloc (.cells #[.slice none 0 0,.slice none 0 0] 36))
 have HB:Hid (cN w w2 u v):=by rw[hw2];exact cN.start w u v
 have c0:=HB.out.1.cell0;have c1:=HB.out.1.cell1;go_enter Tryz.func111,Tryz.ntmps111;go_wp2_with fail
 rw[<-hw2];clear hw2;have HB2:=HB.out.drew
 go_region_held3 (fun w'=>w'.cell? ⟨w.heap.size,0,none⟩=some u/\w'.cell? ⟨w.heap.size,1,none⟩=some v) (constructor<;>first|assumption|exact gp (gp (by assumption)))
  (first
   |(go_at_call_of 114 u;refine(jt u xs w2.drew (HR.out.1.below HB2.2.2.1 (Nat.le_refl _)) hx1 gx).mono ?_;rintro e w4 ⟨a,rfl,oa,ba⟩;have HB4:=HB2.below ba;have d0:=HB4.1.cell0;have d1:=HB4.1.cell1;obtain⟨ao,ca,hea⟩:=oa.reads.form;subst hea)
   |(go_at_call_of 114 v;refine(jt v ys w4 (HR.out.2.below HB4.2.2.1 (Nat.le_refl _)) hy1 gy).mono ?_;rintro e w5 ⟨b,rfl,ob,bb⟩;have hap:=dt oa ob (Nat.le_refl _);replace oa:=oa.below bb;have hs5:=ba.size;have HB5:=HB4.below bb;have e0:=HB5.1.cell0;have e1:=HB5.1.cell1;have e2:=HB5.2.1.cell0;have e3:=HB5.2.1.cell1;have f2:=HB5.2.1.frozen 0;have f3:=HB5.2.1.frozen 1;obtain⟨bo,cb,heb⟩:=ob.reads.form;subst heb))
 go_wp2_with fail
 refine bodyPost_ret (eJ rfl _ _ (w.heap.size+1) _ _ rfl ((HB5.2.1.set0 _).set1 _)) rfl ?_;exact⟨_,_,rfl,HB5.done (ml _ _ _ _) oa ob (HB2.2.2.2) (Nat.le_trans HB2.2.2.2 hs5) hap⟩
theorem iG (u v:Value) (xs ys:List Int) (w:World) (h:ag w u xs) (h':ag w v ys) (gx:xs.length<=1099511627776) (gy:ys.length<=1099511627776):
  Calls Tryz.prog 103 #[.agg #[u,v]] w fun e w'=>e=.returned (.bool (au xs ys))/\iO w w':=by
 obtain⟨w1,hw1⟩:=Fe (w.alloc (.cells #[u,v] 36))
 have b1:iO w w1:=by rw[hw1];exact be w _
 have c1:=wm u v xs ys w1 (h.below b1 (Nat.le_refl _)) (h'.below b1 (Nat.le_refl _)) gx gy;obtain⟨bk,hbk⟩:=Fe (au xs ys)
 obtain⟨f,hf⟩:=Fe (oU xs)
 obtain⟨g,hg⟩:=Fe (oU ys)
 rw[<-hbk,<-hf,<-hg]at c1;rw[<-hbk];clear hbk hf hg h h';go_enter Tryz.func103,Tryz.ntmps103;go_wp2_with fail
 rw[<-hw1];clear hw1;refine c1.mono ?_;rintro e w2 ⟨rfl,b2⟩;replace b2:=b1.trans (b2.mono b1.size);clear b1 c1;go_wp2_with (refine dF rfl _ _ rfl w2.heap.size f rfl rfl (fun _=>0) (sU w2).1 ?_)
 intro w3 r3 g3;have b3:iO w w3:=yI b2 b2.size _ _ g3 b2.size;have q3:Row w3 (w2.heap.size+1) (fun _=>0):=(sU w2).2.kept g3 Fg;have HG:Hid (w.heap.size<=w2.heap.size):=b2.size;clear g3 b2;go_wp2_with (refine dF rfl _ _ rfl (w2.heap.size+1) g rfl rfl (fun _=>0) q3 ?_)
 intro w4 q4 g4;have b4:iO w w4:=b3.grown g4 b3.size (fun k e=>by cases e;have:=HG.out;omega);clear g4 b3 q3 q4 r3;go_wp2_with fail
 go_ret;exact⟨rfl,b4⟩
def kA (f:Nat->Int):Array Value:=#[.int .i64 (f 0),.int .i64 (f 1),.int .i64 (f 2),.int .i64 (f 3)]
def KF (ks:List Int):Nat->Int:=fun j=>ks.getD j 0
theorem ng {p:Nat->Prop} (h0:p 0) (h1:p 1) (h2:p 2) (h3:p 3):∀j,j<4->p j
 |0,_=>h0|1,_=>h1|2,_=>h2|3,_=>h3
 |_+4,h=>by omega
theorem GL:(Tryz.prog.info? 163).map (·.size)=some 4:=by kernel_rfl
theorem Hy:Tryz.prog.underlying 163=some (.array 4 2):=by kernel_rfl
theorem iI (x:Int) (w:World):
  Calls Tryz.prog 213 #[.int .i64 x] w fun e w'=>e=.returned (.bool (inI x 0 9999))/\w'=w:=by
 by_cases h0:0<=x
 ·by_cases h1:x<=9999
  ·rw[show inI x 0 9999=true by simp[inI,h0,h1]]
   go_enter Tryz.func213,Tryz.ntmps213;go_wp2;go_ret;exact⟨af Fg,rfl⟩
  ·rw[show inI x 0 9999=false by simp[inI];omega]
   go_enter Tryz.func213,Tryz.ntmps213;go_wp2;go_ret;exact⟨af Fg,rfl⟩
 ·rw[show inI x 0 9999=false by simp[inI];omega]
  go_enter Tryz.func213,Tryz.ntmps213;go_wp2;go_ret;exact⟨af Fg,rfl⟩
theorem tJ (x:Int) (w:World):
  Calls Tryz.prog 179 #[.int .i64 x] w fun e w'=>e=.returned (.bool (inI x 0 1000000000))/\w'=w:=by
 by_cases h0:0<=x
 ·by_cases h1:x<=1000000000
  ·rw[show inI x 0 1000000000=true by simp[inI,h0,h1]]
   go_enter Tryz.func179,Tryz.ntmps179;go_wp2;go_ret;exact⟨af Fg,rfl⟩
  ·rw[show inI x 0 1000000000=false by simp[inI];omega]
   go_enter Tryz.func179,Tryz.ntmps179;go_wp2;go_ret;exact⟨af Fg,rfl⟩
 ·rw[show inI x 0 1000000000=false by simp[inI];omega]
  go_enter Tryz.func179,Tryz.ntmps179;go_wp2;go_ret;exact⟨af Fg,rfl⟩
theorem cQ (x:Int) (w:World):
  Calls Tryz.prog 26 #[.int .i64 x] w fun e w'=>e=.returned (.bool (inI x 0 3))/\w'=w:=by
 by_cases h0:0<=x
 ·by_cases h1:x<4
  ·rw[show inI x 0 3=true by simp[inI,h0];omega]
   go_enter Tryz.func26,Tryz.ntmps26;go_wp2;go_ret;exact⟨af Fg,rfl⟩
  ·rw[show inI x 0 3=false by simp[inI];omega]
   go_enter Tryz.func26,Tryz.ntmps26;go_wp2;go_ret;exact⟨af Fg,rfl⟩
 ·rw[show inI x 0 3=false by simp[inI];omega]
  go_enter Tryz.func26,Tryz.ntmps26;go_wp2;go_ret;exact⟨af Fg,rfl⟩
theorem ju (f:Nat->Int) (i:Int) (w:World):
  Calls Tryz.prog 217 #[.agg (kA f),.int .i64 i] w fun e w'=>e=.returned (.bool (inI i 0 3&&decide (f i.toNat≠0)))/\iO w w':=by
 have b1:iO w (w.alloc (.cells (kA f) 163)):=Fc;have H1:StB (w.alloc (.cells (kA f) 163)) w.heap.size 163 (kA f):=StB.new _ _ _;have c1:=fun wx=>cQ i wx
 by_cases h:0<=i/\i<4
 ·have hin:inI i 0 3=true:=by simp[inI];omega
  simp only[hin]at c1⊢;obtain⟨j,hj,hj4⟩:∃j:Nat,i=(j:Int)/\j<4:=⟨i.toNat,by omega,by omega⟩
  subst hj;obtain⟨y,hy⟩:=Fe (f j)
  have hc:(w.alloc (.cells (kA f) 163)).cell? ⟨w.heap.size,j,none⟩=some (.int .i64 y):=by
   rw[hy];exact H1.cell j (ng (p:=fun j=>(kA f)[j]?=some (.int .i64 (f j))) rfl rfl rfl rfl j hj4)
  have HY:Hid (y=f j):=hy;have hl:(j:Int)<4:=by omega
  clear hin hy h H1;unfold kA at*;by_cases y0:y=0
  ·go_enter Tryz.func217,Tryz.ntmps217
   go_wp2_with (first|(go_at_call 26;refine Fd (c1 _) ?_))
   go_ret;exact⟨af (by simp[<-HY.out,y0]),b1⟩
  ·have hyn:(y !=0)=true:=by simpa using y0
   go_enter Tryz.func217,Tryz.ntmps217;go_wp2_with (first|(go_at_call 26;refine Fd (c1 _) ?_))
   go_ret;exact⟨af (by simp[<-HY.out,y0]),b1⟩
 ·have hin:inI i 0 3=false:=by simp[inI];omega
  simp only[hin]at c1⊢;clear h hin H1;unfold kA at*;go_enter Tryz.func217,Tryz.ntmps217;go_wp2_with (first|(go_at_call 26;refine Fd (c1 _) ?_))
  go_ret;exact⟨af Fg,b1⟩
def iJ (f:Nat->Int):Bool:=(f 0 !=0)||(f 1 !=0)||(f 2 !=0)||(f 3 !=0)
theorem AR (f:Nat->Int) (w:World):(Op.equalIn 10000 163 (.agg (kA f)) (.agg (kA fun _=>0))).run Tryz.prog w=.ok (!iJ f) w:=by
 obtain⟨i0,hi,hz0,hz1,hz2⟩:=info_parts Gz;have hz:Tryz.prog.cellsOf 2=1:=by kernel_rfl
 have hu:Tryz.prog.underlying 2=some (.int .i64):=by kernel_rfl
 rw[show(10000:Nat)=9998+1+1 from rfl,run_equalIn_array (i:=i0) w (9998+1) _ _ Hy hi,hz];simp[List.range,List.range.loop,Op.eqItems,part,Sem.run_bind,sizeOf,typeInfo,hi,hz1,hu,kA,run_equalIn_int,iJ]
 (repeat' split)<;>simp_all
theorem mG (f:Nat->Int) (w:World):
  Calls Tryz.prog 215 #[.agg (kA f)] w fun e w'=>e=.returned (.bool (iJ f))/\iO w w':=by
 have b1:iO w (w.alloc (.cells (kA f) 163)):=Fc;have he:=AR f (w.alloc (.cells (kA f) 163));obtain⟨x,hx⟩:=Fe (iJ f)
 rw[<-hx]at he⊢;clear hx;unfold kA at*;cases x with
 |false=>
  go_enter Tryz.func215,Tryz.ntmps215;go_wp2;go_ret;exact⟨rfl,b1⟩
 |true=>
  go_enter Tryz.func215,Tryz.ntmps215;go_wp2;go_ret;exact⟨rfl,b1⟩
theorem DW (f:Nat->Int):(kA f).all (·.oneCell')=true:=by simp[kA,Value.oneCell']
theorem ql (f:Nat->Int):∀j,j<4->(kA f)[j]?=some (.int .i64 (f j)):=ng rfl rfl rfl rfl
def ec (f:Nat->Int) (j:Nat) (x:Int):Nat->Int:=fun k=>if k=j then x else f k
theorem AS (f:Nat->Int) (x:Int):∀j,j<4->(kA f).setIfInBounds j (.int .i64 x)=kA (ec f j x):=ng rfl rfl rfl rfl
def jS (xs:List Int) (j:Nat):Nat->Int:=fun k=>if k<j then xs.getD k 0 else 0
theorem vU (xs:List Int) (j:Nat):ec (jS xs j) j (xs.getD j 0)=jS xs (j+1):=by
 funext k
 unfold ec jS;by_cases e:k=j
 ·subst e;simp
 ·have:k<j+1↔k<j:=by omega
  simp[e,this]
theorem vV (xs:List Int):jS xs 0=fun _=>0:=by funext k;simp[jS]
theorem vW (xs:List Int):jS xs xs.length=KF xs:=by
 funext k
 unfold jS KF;split
 ·rfl
 ·rw[List.getD_eq_getElem?_getD,List.getElem?_eq_none Ff];rfl
def fC (ks:List Int):Bool:=decide (ks.length=4)&&ey ks
def mH (ks:List Int):Nat->Int:=fun j=>if fC ks then ks.getD j 0 else 0
theorem lR {xs:List Int} (h:fC xs=true):mH xs=KF xs:=by funext k;simp[mH,KF,h]
theorem tK {xs:List Int} (h:fC xs=false):mH xs=fun _=>0:=by funext k;simp[mH,h]
theorem mJ {ops:Array Oper} {rest:List Oper} {o:Oper} {a:Act} {w:World} {Q:Exit->Act->World->Prop} (hgd:o.guard=none) (x:Operand) (ho:o.op=.load 163 x)
  (g:Nat) (hx:a.eval x=.pointer (some ⟨g,0,none⟩)) (f:Nat->Int) (hr:StB w g 163 (kA f))
  (h:wpList Tryz.prog ops Q rest (a.put o.dst (.agg (kA f))) w):wpList Tryz.prog ops Q (o::rest) a w:=
 wpList_load_row hgd _ x ho g hx _ _ _ _ hr Hy rfl GL h
theorem hX {ops:Array Oper} {rest:List Oper} {o:Oper} {a:Act} {w:World} {Q:Exit->Act->World->Prop} (hgd:o.guard=none) (x y:Operand) (ho:o.op=.store 163 x y)
  (g:Nat) (f:Nat->Int) (hx:a.eval x=.pointer (some ⟨g,0,none⟩)) (hy:a.eval y=.agg (kA f)) (old:Nat->Int) (hr:StB w g 163 (kA old))
  (h:∀w',StB w' g 163 (kA f)->w.grownBy w' (some g)->wpList Tryz.prog ops Q rest (a.put o.dst undef) w'):wpList Tryz.prog ops Q (o::rest) a w:=
 wpList_store_row hgd _ x y ho g (kA f) hx hy _ _ hr GL rfl (DW f) (h _ (setRow_heap w g _ _ _ _ hr) (gw w g _))
theorem lS {fn:Func} {p u:Tmp} (h:fn.results=#[.cell p 163,.tmp u]) (tmps:Array Value) (w:World) (g:Nat) (f:Nat->Int) (x:Value)
  (hp:tmps.getD p undef=.pointer (some ⟨g,0,none⟩)) (hx:tmps.getD u undef=x) (hr:StB w g 163 (kA f)):
  (results fn tmps).run Tryz.prog w=.ok (.tuple #[.agg (kA f),x]) w:=by
 rw[results_cell_tmp h,hp,hx];simp only[asAddr,Sem.run_pure,Result.andThen_ok];rw[run_loadVar_row w g _ _ _ _ _ hr Hy rfl GL];rfl
def ze (xs:List Int) (w wr:World) (j:Nat):Prop:=StB wr w.heap.size 163 (kA fun _=>0)/\StB wr (w.heap.size+1) 163 (kA (jS xs j))/\ey (xs.take j)=true/\iO w wr
theorem ze.start (xs:List Int) (w:World):ze xs w ((w.alloc (.cells (kA fun _=>0) 163)).alloc (.cells (kA fun _=>0) 163)) 0:=by
 refine⟨(StB.new w _ _).alloc _,?_,by simp[ey],Fc.alloc Fg _⟩;have:=StB.new (w.alloc (.cells (kA fun _=>0) 163)) 163 (kA fun _=>0);rw[vV];simpa using this
theorem tL (v:Value) (xs:List Int) (w:World) (h:ag w v xs) (hbig:xs.length<=1099511627776):
  Calls Tryz.prog 177 #[v] w fun e w'=>e=.returned (.tuple #[.agg (kA (mH xs)),.bool (fC xs)])/\iO w w':=by
 obtain⟨ao,cap,rfl⟩:=aa h;obtain⟨-,la,ma,hcell⟩:=aL h;have HR0:Hid (ag w (.slice ao xs.length cap) xs):=h;clear h;obtain⟨n,hn⟩:=Fe xs.length
 rw[<-hn]at la hcell hbig HR0⊢;have HN:Hid (n=xs.length):=hn;clear hn;unfold maxLen at ma;by_cases hc:n=4
 ·subst hc
  go_enter Tryz.func177,Tryz.ntmps177;go_wp2_with fail
  go_loopw [14] (fun i wr=>∃j:Nat,j<=4/\i=.int .i64 j/\Hid (ze xs w wr j)) (fun i _=>4-(intOf i).toNat)
  case atStart=>exact⟨0,Nat.zero_le _,rfl,ze.start xs w⟩
  case round=>
   obtain⟨j,hj,rfl,HR⟩:=hrel;by_cases hlt:(j:Int)<4
   ·obtain⟨-, -, -,hcell'⟩:=aL (HR0.out.below HR.out.2.2.2 (Nat.le_refl _))
    obtain⟨b,off,rfl,hc1⟩:=hcell' j Ff;obtain⟨x,hx⟩:=Fe (xs.getD j 0)
    rw[<-hx]at hc1;clear hcell hcell';by_cases hv:inI x 0 9999=true
    ·have hfr:=HR.out.2.1.frozen j
     have hcc:=HR.out.2.1.cell j (ql _ j Ff);have HS:Hid (ze xs w (wr.setCell ⟨w.heap.size+1,j,none⟩ (.int .i64 x)) (j+1)):=by
      obtain⟨r1,r2,r3,r4⟩:=HR.out;refine⟨r1.other _ _ Fg,?_,qh xs j (by have:=HN.out;omega) r3 (by rw[<-hx];exact hv),r4.setCell Fg _⟩;refine r2.put j (.int .i64 x) ?_;rw[AS _ _ j Ff,hx,vU]
     clear hx HR;go_wp2_with (first|(go_at_call 213;refine(iI _ _).mono ?_;rw[hv];rintro e w' ⟨rfl,hw⟩;subst w'))
     go_roundw
     case rel=>exact⟨j+1,by omega,by go_num,HS⟩
     case measure=>simp[intOf];omega
    ·have hv':inI x 0 9999=false:=by simpa using hv
     have HB:Hid (fC xs=false):=by
      simp[Hid,fC,tj xs j (by have:=HN.out;omega) (by rw[<-hx];exact hv')]
     have hrow:=HR.out.1;clear hx hv;go_wp2_with (first|(go_at_call 213;refine(iI _ _).mono ?_;rw[hv'];rintro e w' ⟨rfl,hw⟩;subst w')|(refine hX rfl _ _ rfl w.heap.size (fun _=>0) rfl rfl _ hrow ?_;intro w3 h3 g3))
     refine bodyPost_ret (lS rfl _ _ w.heap.size (fun _=>0) _ rfl rfl h3) rfl ?_;rw[HB.out,tK HB.out];exact⟨rfl,HR.out.2.2.2.grown g3 HR.out.2.2.2.size (fun k e=>by cases e;exact Nat.le_refl _)⟩
   ·have hrow:=HR.out.1
    have hrow2:=HR.out.2.1;go_wp2_with (first|(refine mJ rfl _ rfl (w.heap.size+1) rfl _ hrow2 ?_)|(refine hX rfl _ _ rfl w.heap.size (jS xs j) rfl rfl _ hrow ?_;intro w3 h3 g3))
    refine bodyPost_ret (lS rfl _ _ w.heap.size (jS xs j) _ rfl rfl h3) rfl ?_;have e:j=xs.length:=by have:=HN.out;omega
    have HB:fC xs=true:=by
     have:=HR.out.2.2.1;rw[e,List.take_length]at this;simp[fC,this,<-HN.out]
    rw[HB,lR HB,e,vW];exact⟨rfl,HR.out.2.2.2.grown g3 HR.out.2.2.2.size (fun k e=>by cases e;exact Nat.le_refl _)⟩
 ·have hn4:((n:Int) !=4)=true:=by simp;omega
  have HB:Hid (fC xs=false):=by
   have:=HN.out;simp[Hid,fC];intro h;omega
  have hrow:=(ze.start xs w).1;have hz:StB (w.alloc (.cells (kA fun _=>0) 163)) w.heap.size 163 (kA fun _=>0):=StB.new _ _ _;have hzB:iO w (w.alloc (.cells (kA fun _=>0) 163)):=Fc;clear hrow hcell;go_enter Tryz.func177,Tryz.ntmps177;go_wp2_with (first|(refine hX rfl _ _ rfl w.heap.size (fun _=>0) rfl rfl _ hz ?_;intro w3 h3 g3))
  refine bodyPost_ret (lS rfl _ _ w.heap.size (fun _=>0) _ rfl rfl h3) rfl ?_;rw[HB.out,tK HB.out];exact⟨rfl,hzB.grown g3 hzB.size (fun k e=>by cases e;exact Nat.le_refl _)⟩
def dw (f:Nat->Int):List Int:=[f 0,f 1,f 2,f 3]
theorem oo {ks:List Int} (h:ks.length=4):dw (KF ks)=ks:=by
 match ks,h with
 |[a,b,c,d],_=>rfl
theorem vX (f:Nat->Int) (w:World):
  Calls Tryz.prog 285 #[.agg (kA f)] w fun e w'=>∃u,e=.returned u/\Own w' w.heap.size u (dw f)/\iO w w':=by
 obtain⟨i0,hi,hz0,hz1,hz2⟩:=info_parts Gz;obtain⟨w1,hw1⟩:=Fe ((w.alloc (.cells (kA f) 163)).alloc (.cells #[] 2))
 have hown:w1.ownsRow w.heap.size 2 1 (.slice (some ⟨w.heap.size+1,0,none⟩) 0 0) 0 []:=by
  have:=World.ownsRow_lit (base:=w.heap.size) (e:=2) (size:=1) (w.alloc (.cells (kA f) 163)) #[] 0 Fg (Nat.zero_le _) rfl;rw[hw1];simpa using this
 have hrow:StB w1 w.heap.size 163 (kA f):=by rw[hw1];exact(StB.new w _ _).alloc _
 have hnews:∀j u,((dw f).map (Value.int .i64))[j]?=some u->w1.cell? ((⟨w.heap.size,0,none⟩:Addr).add j)=some u:=by
  intro j u hj;have hlt:j<4:=by
   rcases Nat.lt_or_ge j 4 with h|h
   ·exact h
   ·rw[List.getElem?_eq_none (by simpa[dw]using h)]at hj;cases hj
  rw[show(⟨w.heap.size,0,none⟩:Addr).add j=⟨w.heap.size,j,none⟩ by unfold Addr.add;split<;>simp_all];rw[hrow.cell j (ql f j hlt)];rw[<-hj];exact ng (p:=fun j=>some (Value.int .i64 (f j))=((dw f).map (Value.int .i64))[j]?) rfl rfl rfl rfl j hlt
 have hone:∀u∈(dw f).map (Value.int .i64),u.oneCell'=true:=by
  intro u hu;obtain⟨x,_,rfl⟩:=List.mem_map.1 hu;rfl
 have hll:((dw f).map (Value.int .i64)).length=4*1:=rfl;have hb1:iO w w1:=by rw[hw1];exact Fc.alloc Fg _
 go_enter Tryz.func285,Tryz.ntmps285;go_wp2_with (at_builtin;rw[<-hw1];refine wpList_append_own _ rfl _ _ 22 rfl w.heap.size 2 i0 (.int .i64 0) 1 8 Tryz.underlying22 hi hz0 hz1 hz2 rfl Fh _ _ _ rfl hown _ 4 4 ((dw f).map (Value.int .i64)) rfl hll hnews hone (by unfold maxLen;omega) Ff hb1.size ?_)
 intro v' w2 hown' hgrow _;rw[<-hw1]at hgrow;have HG:Hid (iO w w2):=hb1.grown hgrow hb1.size (fun g e=>by simp[Value.ownBlock]at e;omega);go_wp2;go_ret;refine⟨_,rfl,?_,HG.out⟩;unfold Own;simpa[show(dw f).length=4 from rfl]using hown'
def jJ (x y:Bool):Value:=.agg #[.bool x,.bool y]
def nn (p:Bool×Bool×Nat):MapEntry:=⟨jJ p.1 p.2.1,.int .i64 1,p.2.2⟩
theorem CX (x y x' y':Bool) (w:World):(Op.equal 283 (jJ x y) (jJ x' y')).run Tryz.prog w=.ok (x==x'&&y==y') w:=by
 cases x<;>cases y<;>cases x'<;>cases y'<;>kernel_rfl
theorem gL (e:Bool) (x y:Bool) (w:World):(Instr.checkKey e 10000 283 (jJ x y)).run Tryz.prog w=.ok () w:=by
 cases x<;>cases y<;>cases e<;>kernel_rfl
def iP (x y:Bool):List (Bool×Bool×Nat)->Nat->Option (Nat×Value)
 |[],_=>none
 |p::l,i=>if(x==p.1&&y==p.2.1)=true then some (i,.int .i64 1)else iP x y l (i+1)
def l9 (x y:Bool):List (Bool×Bool×Nat)->List (Bool×Bool×Nat)
 |[]=>[]
 |p::l=>if(x==p.1&&y==p.2.1)=true then l else p::l9 x y l
def gc (l:List (Bool×Bool×Nat)) (x y:Bool):Bool:=l.any fun p=>x==p.1&&y==p.2.1
def Bh (l:List (Bool×Bool×Nat)):Prop:=l.Pairwise fun p q=>(p.1==q.1&&p.2.1==q.2.1)=false
theorem qt (x y:Bool) (w:World):∀(l:List (Bool×Bool×Nat)) (i:Nat),(Instr.findAsking 283 (jJ x y) (l.map nn) i).run Tryz.prog w=.ok (iP x y l i) w
 |[],i=>by simp[Instr.findAsking,iP]
 |p::l,i=>by
  have h1:=CX x y p.1 p.2.1 w;have h2:=qt x y w l (i+1);rw[List.map_cons];by_cases hb:(x==p.1&&y==p.2.1)=true
  ·simp only[hb]at h1
   simp[Instr.findAsking,nn,h1,iP,hb]
  ·have hb':(x==p.1&&y==p.2.1)=false:=by simpa using hb
   simp only[hb']at h1;simp[Instr.findAsking,nn,h1,iP,hb',h2]
theorem mb (x y:Bool) (l:List (Bool×Bool×Nat)):∀i,gc l x y=false->iP x y l i=none/\l9 x y l=l:=by
 induction l with
 |nil=>intro i _;exact⟨rfl,rfl⟩
 |cons p l ih=>
  intro i h;simp only[gc,List.any_cons,Bool.or_eq_false_iff]at h;obtain⟨h1,h2⟩:=ih (i+1) h.2;simp[iP,l9,h.1,h1,h2]
theorem oL (x y:Bool) (l:List (Bool×Bool×Nat)):∀i,gc l x y=true->∃j,iP x y l i=some (i+j,.int .i64 1)/\l.eraseIdx j=l9 x y l:=by
 induction l with
 |nil=>intro i h;cases h
 |cons p l ih=>
  intro i h;by_cases hb:(x==p.1&&y==p.2.1)=true
  ·exact⟨0,by simp[iP,hb],by simp[l9,hb]⟩
  ·have h':gc l x y=true:=by
    simp only[gc,List.any_cons,Bool.or_eq_true]at h;rcases h with h|h
    ·exact absurd h hb
    ·exact h
   obtain⟨j,h1,h2⟩:=ih (i+1) h';refine⟨j+1,?_,?_⟩
   ·unfold iP
    rw[if_neg hb,h1];simp[Nat.add_assoc,Nat.add_comm 1 j]
   ·unfold l9
    rw[if_neg hb,<-h2];rfl
theorem CY (x y:Bool) (l:List (Bool×Bool×Nat)):(l9 x y l).Sublist l:=by
 induction l with
 |nil=>exact List.Sublist.refl _
 |cons p l ih=>
  unfold l9;split
  ·exact List.sublist_cons_self _ _
  ·exact ih.cons_cons _
theorem C6 (x y a b:Bool) (l:List (Bool×Bool×Nat)) (h:Bh l):gc (l9 x y l) a b=(gc l a b&& !(a==x&&b==y)):=by
 induction l with
 |nil=>rfl
 |cons p l ih=>
  have h2:=List.pairwise_cons.1 h;have ih:=ih h2.2;obtain⟨p1,p2,n⟩:=p;unfold l9;by_cases hb:(x==p1&&y==p2)=true
  ·rw[if_pos hb]
   have hno:gc l p1 p2=false:=by
    unfold gc;rw[List.any_eq_false];intro q hq;simpa using h2.1 q hq
   simp only[Bool.and_eq_true,beq_iff_eq]at hb;obtain⟨rfl,rfl⟩:=hb;by_cases ha:(a==x&&b==y)=true
   ·simp only[Bool.and_eq_true,beq_iff_eq]at ha
    obtain⟨rfl,rfl⟩:=ha;rw[hno];simp
   ·have ha':(a==x&&b==y)=false:=by simpa using ha
    simp only[gc,List.any_cons,ha',Bool.false_or,Bool.not_false,Bool.and_true]
  ·rw[if_neg hb]
   simp only[gc,List.any_cons]at ih⊢;rw[ih];have hb':(x==p1&&y==p2)=false:=by simpa using hb
   revert hb'
   cases a<;>cases b<;>cases x<;>cases y<;>cases p1<;>cases p2<;>simp
def MB (w:World) (b:Nat) (t:Bool->Bool->Bool):Prop:=
 ∃l clock,w.heap[b]?=some (.map (l.map nn).toArray clock)/\Bh l/\∀x y,gc l x y=t x y
theorem MB.of (w w':World) (b:Nat) (t:Bool->Bool->Bool) (h:MB w b t) (e:w'.heap[b]?=w.heap[b]?):MB w' b t:=by
 obtain⟨l,c,hb,ha,ht⟩:=h;exact⟨l,c,e.trans hb,ha,ht⟩
theorem MB.eq {w:World} {b:Nat} {t s:Bool->Bool->Bool} (h:MB w b t) (e:∀x y,t x y=s x y):MB w b s:=by
 obtain⟨l,c,hb,ha,ht⟩:=h;exact⟨l,c,hb,ha,fun x y=>(ht x y).trans (e x y)⟩
theorem MB.lt {w:World} {b:Nat} {t:Bool->Bool->Bool} (h:MB w b t):b<w.heap.size:=by
 obtain⟨l,c,hb,_,_⟩:=h;exact(Array.getElem?_eq_some_iff.1 hb).1
def putT (t:Bool->Bool->Bool) (x y:Bool):Bool->Bool->Bool:=fun a b=>t a b||(a==x&&b==y)
def Et (t:Bool->Bool->Bool) (x y:Bool):Bool->Bool->Bool:=fun a b=>t a b&& !(a==x&&b==y)
theorem mc (x y:Bool) (w:World) (l:List (Bool×Bool×Nat)):(Instr.findKey 283 (jJ x y) (l.map nn)).run Tryz.prog w=.ok (iP x y l 0) w:=by
 have hu:∃fs,Tryz.prog.underlying 283=some (.struct fs):=⟨_,Tryz.underlying283⟩
 obtain⟨fs,hu⟩:=hu;have h:=qt x y w l 0;cases l with
 |nil=>simp[Instr.findKey,run_underlying hu,Result.andThen,Instr.findNow,iP]
 |cons p l=>
  have hn:Instr.findNow (.struct fs) (jJ x y) ((p::l).map nn) 0=none:=by
   simp[Instr.findNow,Instr.sameNow,jJ,nn]
  simp only[Instr.findKey,Sem.run_bind,run_underlying hu,Result.andThen,hn];exact h
theorem ux (w:World) (b:Nat) (t:Bool->Bool->Bool) (x y:Bool) (h:MB w b t) (ht:t x y=false):
  ∃w',(Instr.mapUpdate 280 (.map (some b)) (jJ x y) (.int .i64 1)).run Tryz.prog w=.ok () w'/\MB w' b (putT t x y)/\w.grownBy w' (some b):=by
 obtain⟨l,c,hb,ha,hl⟩:=h;have hf:=mc x y w l;have hno:gc l x y=false:=(hl x y).trans ht;rw[(mb x y l 0 hno).1]at hf;refine⟨{w with heap:=w.heap.setIfInBounds b (.map ((l.map nn).toArray.push ⟨jJ x y,.int .i64 1,c⟩) (c+1))},?_,?_,?_⟩
 ·simp[Instr.mapUpdate,run_underlying Tryz.underlying280,MapKept.run_getObj_map hb,gL,hf,MapKept.run_setObj_map _ hb,Result.andThen]
 ·refine⟨l++[(x,y,c)],c+1,?_,?_,?_⟩
  ·rw[(MapKept.heap_set hb).1]
   simp[nn]
  ·refine List.pairwise_append.2 ⟨ha,by simp,?_⟩
   intro p hp q hq;simp only[List.mem_singleton]at hq;subst hq;have:=List.any_eq_false.1 hno p hp;cases hx:x<;>cases hy:y<;>cases h1:p.1<;>cases h2:p.2.1<;>simp_all
  ·intro a d
   simp only[gc,List.any_append,List.any_cons,List.any_nil,Bool.or_false,putT];rw[<-hl a d];rfl
 ·exact⟨rfl,rfl,rfl,by simp,fun k hk hne=>(MapKept.heap_set hb).2 k (fun e=>hne (by rw[e]))⟩
theorem qu (f:Bool×Bool×Nat->MapEntry):∀(l:List (Bool×Bool×Nat)) (j:Nat),(l.map f).eraseIdx j=(l.eraseIdx j).map f
 |[],_=>rfl
 |_::_,0=>rfl
 |p::l,j+1=>by simp[qu f l j]
theorem uy (w:World) (ty:TypeId) (b:Nat) (t:Bool->Bool->Bool) (x y:Bool) (h:MB w b t):
  ∃w',(Builtin.delete_ #[280,283] ty #[.map (some b),jJ x y]).run Tryz.prog w=.ok (.tuple #[]) w'/\MB w' b (Et t x y)/\w.grownBy w' (some b):=by
 obtain⟨l,c,hb,ha,hl⟩:=h;have hf:=mc x y w l;refine⟨{w with heap:=w.heap.setIfInBounds b (.map ((l9 x y l).map nn).toArray c)},?_,⟨l9 x y l,c,(MapKept.heap_set hb).1,List.Pairwise.sublist (CY x y l) ha,?_⟩,?_⟩
 ·cases hh:gc l x y with
  |false=>
   obtain⟨h1,h2⟩:=mb x y l 0 hh;rw[h1]at hf;rw[h2];simp[Builtin.delete_,run_underlying Tryz.underlying280,MapKept.run_getObj_map hb,gL,hf,MapKept.run_setObj_map _ hb,Result.andThen]
  |true=>
   obtain⟨j,h1,h2⟩:=oL x y l 0 hh;rw[h1,Nat.zero_add]at hf;have he:(l.map nn).toArray.eraseIdxIfInBounds j=((l9 x y l).map nn).toArray:=by
    rw[<-h2];apply Array.ext';simp only[Array.eraseIdxIfInBounds];split
    ·simp[qu]
    ·rename_i hlt
     have:l.length<=j:=by simpa using hlt
     rw[List.eraseIdx_of_length_le this]
   rw[<-he];simp[Builtin.delete_,run_underlying Tryz.underlying280,MapKept.run_getObj_map hb,gL,hf,MapKept.run_setObj_map _ hb,Result.andThen]
 ·intro a d
  rw[C6 x y a d l ha,hl a d];rfl
 ·exact⟨rfl,rfl,rfl,by simp,fun k hk hne=>(MapKept.heap_set hb).2 k (fun e=>hne (by rw[e]))⟩
theorem wP (w:World) (ty:TypeId) (b:Nat) (t:Bool->Bool->Bool) (h:MB w b t):
  ∃w',(Builtin.clear_ #[280] ty #[.map (some b)]).run Tryz.prog w=.ok (.tuple #[]) w'/\MB w' b (fun _ _=>false)/\w.grownBy w' (some b):=by
 obtain⟨l,c,hb,ha,hl⟩:=h;refine⟨{w with heap:=w.heap.setIfInBounds b (.map #[] c)},?_,⟨[],c,(MapKept.heap_set hb).1,List.Pairwise.nil,fun _ _=>rfl⟩,?_⟩
 ·simp[Builtin.clear_,run_underlying Tryz.underlying280,MapKept.run_getObj_map hb,MapKept.run_setObj_map _ hb,Result.andThen]
 ·exact⟨rfl,rfl,rfl,by simp,fun k hk hne=>(MapKept.heap_set hb).2 k (fun e=>hne (by rw[e]))⟩
theorem qv (w:World) (b:Nat) (t:Bool->Bool->Bool) (x y:Bool) (h:MB w b t):
  (Instr.lookup 280 (.map (some b)) (jJ x y) false).run Tryz.prog w=.ok (.int .i64 (if t x y=true then 1 else 0)) w:=by
 obtain⟨l,c,hb,ha,hl⟩:=h;have hf:=mc x y w l;have hz:(zeroValue 2).run Tryz.prog w=.ok (.int .i64 0) w:=by kernel_rfl
 cases hh:gc l x y with
 |false=>
  rw[(mb x y l 0 hh).1]at hf;rw[<-hl x y,hh];simp[Instr.lookup,run_underlying Tryz.underlying280,MapKept.run_getObj_map hb,gL,hf,hz,Result.andThen]
 |true=>
  obtain⟨j,h1,h2⟩:=oL x y l 0 hh;rw[h1]at hf;rw[<-hl x y,hh];simp[Instr.lookup,run_underlying Tryz.underlying280,MapKept.run_getObj_map hb,gL,hf,Result.andThen]
end Go.Proofs.YthldeiojlllkdaaGreatDoor
