/- Arrays of pW numbers compared; the set's own methods. -/
import Derived.Test.YthldeiojlllkdaaGreatDoorM1
import Derived.Test.YthldeiojlllkdaaGreatDoorM14
import Derived.Laws.StructEq
import Derived.Test.YthldeiojlllkdaaGreatDoorM5
import Derived.ArgAppend
import Derived.Laws.CopyOwn
import Derived.Test.YthldeiojlllkdaaGreatDoorM3
import Derived.Test.YthldeiojlllkdaaGreatDoorM4
import Derived.MapKept
import Derived.Carry
import Derived.OwnWalk
set_option maxRecDepth 20000
set_option maxHeartbeats 1000000
namespace Go.Proofs.YthldeiojlllkdaaGreatDoor
open Go.ChangeShapes Go.WideShapes Go.ChangeAt Go.RowKit
theorem DK {B:Nat} {w0 w w':World} {g:Nat} (h:Below B w0 w) (hB:B<=w.heap.size) (o:Obj) (hg:(w.alloc o).grownBy w' (some g)) (hBg:B<=g):Below B w0 w':=
 (h.alloc hB o).grown hg (by simp;omega) (fun k e=>by cases e;exact hBg)
theorem sU (w:World):Row ((w.alloc (.cells (ee fun _=>0) 159)).alloc (.cells (ee fun _=>0) 159)) w.heap.size (fun _=>0)/\
  Row ((w.alloc (.cells (ee fun _=>0) 159)).alloc (.cells (ee fun _=>0) 159)) (w.heap.size+1) (fun _=>0):=by
 refine⟨(Row.new w _).alloc _,?_⟩;have:=Row.new (w.alloc (.cells (ee fun _=>0) 159)) (fun _=>0);simpa using this
theorem yJ {B:Nat} {w0 w w':World} {g:Nat} (h:Below B w0 w) (hB:B<=w.heap.size) (o o':Obj) (hg:((w.alloc o).alloc o').grownBy w' (some g)) (hBg:B<=g):Below B w0 w':=
 ((h.alloc hB o).alloc (by simp;omega) o').grown hg (by simp;omega) (fun k e=>by cases e;exact hBg)
section
open Go.ChangeShapes Go.WideShapes Go.ChangeAt Go.RowKit
end
section
open Go.ChangeShapes Go.WideShapes Go.ChangeAt Go.RowKit
end
theorem js (v:Value) (xs:List Int) (w:World) (h:ag w v xs) (h1:1<=xs.length) (hbig:xs.length<=1099511627776):
  Calls Tryz.prog 114 #[v] w fun e w'=>∃u,e=.returned u/\Own w' w.heap.size u xs/\bB w w':=by
 obtain⟨i0,hi,hz0,hz1,hz2⟩:=info_parts Tryz.infoI;obtain⟨ao,cap,rfl,hl,hm,hc⟩:=h;obtain⟨b,off,hab,hcell⟩:∃b off,ao=some ⟨b,off,none⟩/\∀j,j<xs.length->w.cell? ⟨b,off+j,none⟩=some (.int .i64 (xs.getD j 0)):=by
  rcases hc with e|h
  ·subst e;simp at h1
  ·exact h
 subst hab;have hnews:∀j u,(xs.map (Value.int .i64))[j]?=some u->w.cell? ((⟨b,off,none⟩:Addr).add j)=some u:=by
  intro j u hj;have hlt:j<xs.length:=by
   rcases Nat.lt_or_ge j xs.length with h|h
   ·exact h
   ·rw[List.getElem?_eq_none (by simpa using h)]at hj;cases hj
  rw[show(⟨b,off,none⟩:Addr).add j=⟨b,off+j,none⟩ by unfold Addr.add;split<;>simp_all];rw[hcell j hlt];simp[List.getD,hlt]at hj⊢;exact hj
 have hone:∀u∈xs.map (Value.int .i64),u.oneCell'=true:=by
  intro u hu;obtain⟨x,_,rfl⟩:=List.mem_map.1 hu;rfl
 obtain⟨hm1, -⟩:=hm;unfold maxLen at hm1;obtain⟨n,hn⟩:=eX xs.length
 have hll:(xs.map (Value.int .i64)).length=n*1:=by simp[hn]
 rw[<-hn]at hbig hl h1⊢;have HN:Hid (n=xs.length):=hn;clear hn hc hcell;go_enter Tryz.func114,Tryz.ntmps114;go_wp2_with (at_builtin;refine wpList_append_grows _ rfl _ _ 22 rfl 2 i0 (.int .i64 0) 1 8 Tryz.underlying22 hi hz0 hz1 hz2 rfl (by decide) (some ⟨b,off,none⟩) 0 0 [] rfl (by intro e;cases e) (by simp) (by intro b' _ j u hj;simp at hj) ⟨b,off,none⟩ n cap (xs.map (Value.int .i64)) rfl hll hnews hone (by omega) (by unfold maxLen;omega) (by omega) ?_)
 intro v' w1 hown hgrow;go_wp2_with fail
 go_ret;refine⟨_,rfl,?_,(Below.refl w.heap.size w).grown hgrow (Nat.le_refl _) (fun k e=>by cases e)⟩;unfold Own;rw[<-HN.out];exact hown
theorem dJ (u v:Value) (xs ys:List Int) (w:World) (h:ag w u xs) (h':ag w v ys) (hx1:1<=xs.length) (hy1:1<=ys.length) (gx:xs.length<=1099511627776) (gy:ys.length<=1099511627776):
  Calls Tryz.prog 111 #[.agg #[u,v]] w fun e w'=>∃a b,e=.returned (.agg #[a,b])/\aS w' w.heap.size a b xs ys/\bB w w':=by
 have HR:Hid (ag w u xs/\ag w v ys):=⟨h,h'⟩
 clear h h';obtain⟨w2,hw2⟩:=eX ((w.alloc (.cells #[u,v] 36)).alloc (.cells #[.slice none 0 0,.slice none 0 0] 36))
 have HB:Hid (cM w w2 u v):=by rw[hw2];exact cM.start w u v
 have c0:=HB.out.1.cell0;have c1:=HB.out.1.cell1;go_enter Tryz.func111,Tryz.ntmps111;go_wp2_with fail
 rw[<-hw2];clear hw2;have HB2:=HB.out.drew
 go_region_held3 (fun w'=>w'.cell? ⟨w.heap.size,0,none⟩=some u/\w'.cell? ⟨w.heap.size,1,none⟩=some v) (constructor<;>first|assumption|exact gq (gq (by assumption)))
  (first
   |(go_at_call_of 114 u;refine(js u xs w2.drew (HR.out.1.below HB2.2.2.1 (Nat.le_refl _)) hx1 gx).mono ?_;rintro e w4 ⟨a,rfl,oa,ba⟩;have HB4:=HB2.below ba;have d0:=HB4.1.cell0;have d1:=HB4.1.cell1;obtain⟨ao,ca,hea⟩:=oa.reads.form;subst hea)
   |(go_at_call_of 114 v;refine(js v ys w4 (HR.out.2.below HB4.2.2.1 (Nat.le_refl _)) hy1 gy).mono ?_;rintro e w5 ⟨b,rfl,ob,bb⟩;have hap:=dt oa ob (Nat.le_refl _);replace oa:=oa.below bb;have hs5:=ba.size;have HB5:=HB4.below bb;have e0:=HB5.1.cell0;have e1:=HB5.1.cell1;have e2:=HB5.2.1.cell0;have e3:=HB5.2.1.cell1;have f2:=HB5.2.1.frozen 0;have f3:=HB5.2.1.frozen 1;obtain⟨bo,cb,heb⟩:=ob.reads.form;subst heb))
 go_wp2_with fail
 refine bodyPost_ret (eJ rfl _ _ (w.heap.size+1) _ _ rfl ((HB5.2.1.set0 _).set1 _)) rfl ?_;exact⟨_,_,rfl,HB5.done (mm _ _ _ _) oa ob (HB2.2.2.2) (Nat.le_trans HB2.2.2.2 hs5) hap⟩
theorem iG (u v:Value) (xs ys:List Int) (w:World) (h:ag w u xs) (h':ag w v ys) (gx:xs.length<=1099511627776) (gy:ys.length<=1099511627776):
  Calls Tryz.prog 103 #[.agg #[u,v]] w fun e w'=>e=.returned (.bool (au xs ys))/\bB w w':=by
 obtain⟨w1,hw1⟩:=eX (w.alloc (.cells #[u,v] 36))
 have b1:bB w w1:=by rw[hw1];exact aZ w _
 have c1:=wm u v xs ys w1 (h.below b1 (Nat.le_refl _)) (h'.below b1 (Nat.le_refl _)) gx gy;obtain⟨bk,hbk⟩:=eX (au xs ys)
 obtain⟨f,hf⟩:=eX (oV xs)
 obtain⟨g,hg⟩:=eX (oV ys)
 rw[<-hbk,<-hf,<-hg]at c1;rw[<-hbk];clear hbk hf hg h h';go_enter Tryz.func103,Tryz.ntmps103;go_wp2_with fail
 rw[<-hw1];clear hw1;refine c1.mono ?_;rintro e w2 ⟨rfl,b2⟩;replace b2:=b1.trans (b2.mono b1.size);clear b1 c1;go_wp2_with (refine dF rfl _ _ rfl w2.heap.size f rfl rfl (fun _=>0) (sU w2).1 ?_)
 intro w3 r3 g3;have b3:bB w w3:=yJ b2 b2.size _ _ g3 b2.size;have q3:Row w3 (w2.heap.size+1) (fun _=>0):=(sU w2).2.kept g3 (by simp);have HG:Hid (w.heap.size<=w2.heap.size):=b2.size;clear g3 b2;go_wp2_with (refine dF rfl _ _ rfl (w2.heap.size+1) g rfl rfl (fun _=>0) q3 ?_)
 intro w4 q4 g4;have b4:bB w w4:=b3.grown g4 b3.size (fun k e=>by cases e;have:=HG.out;omega);clear g4 b3 q3 q4 r3;go_wp2_with fail
 go_ret;exact⟨rfl,b4⟩
def kA (f:Nat->Int):Array Value:=#[.int .i64 (f 0),.int .i64 (f 1),.int .i64 (f 2),.int .i64 (f 3)]
def KF (ks:List Int):Nat->Int:=fun j=>ks.getD j 0
theorem nh {p:Nat->Prop} (h0:p 0) (h1:p 1) (h2:p 2) (h3:p 3):∀j,j<4->p j
 |0,_=>h0|1,_=>h1|2,_=>h2|3,_=>h3
 |_+4,h=>by omega
theorem Tryz.isKeyRow:(Tryz.prog.info? 163).map (·.size)=some 4:=by kernel_rfl
theorem Tryz.underK:Tryz.prog.underlying 163=some (.array 4 2):=by kernel_rfl
theorem iI (x:Int) (w:World):
  Calls Tryz.prog 213 #[.int .i64 x] w fun e w'=>e=.returned (.bool (inI x 0 9999))/\w'=w:=by
 by_cases h0:0<=x
 ·by_cases h1:x<=9999
  ·rw[show inI x 0 9999=true by simp[inI,h0,h1]]
   go_enter Tryz.func213,Tryz.ntmps213;go_wp2;go_ret;exact⟨af (by simp),rfl⟩
  ·rw[show inI x 0 9999=false by simp[inI];omega]
   go_enter Tryz.func213,Tryz.ntmps213;go_wp2;go_ret;exact⟨af (by simp),rfl⟩
 ·rw[show inI x 0 9999=false by simp[inI];omega]
  go_enter Tryz.func213,Tryz.ntmps213;go_wp2;go_ret;exact⟨af (by simp),rfl⟩
theorem tJ (x:Int) (w:World):
  Calls Tryz.prog 179 #[.int .i64 x] w fun e w'=>e=.returned (.bool (inI x 0 1000000000))/\w'=w:=by
 by_cases h0:0<=x
 ·by_cases h1:x<=1000000000
  ·rw[show inI x 0 1000000000=true by simp[inI,h0,h1]]
   go_enter Tryz.func179,Tryz.ntmps179;go_wp2;go_ret;exact⟨af (by simp),rfl⟩
  ·rw[show inI x 0 1000000000=false by simp[inI];omega]
   go_enter Tryz.func179,Tryz.ntmps179;go_wp2;go_ret;exact⟨af (by simp),rfl⟩
 ·rw[show inI x 0 1000000000=false by simp[inI];omega]
  go_enter Tryz.func179,Tryz.ntmps179;go_wp2;go_ret;exact⟨af (by simp),rfl⟩
theorem cO (x:Int) (w:World):
  Calls Tryz.prog 26 #[.int .i64 x] w fun e w'=>e=.returned (.bool (inI x 0 3))/\w'=w:=by
 by_cases h0:0<=x
 ·by_cases h1:x<4
  ·rw[show inI x 0 3=true by simp[inI,h0];omega]
   go_enter Tryz.func26,Tryz.ntmps26;go_wp2;go_ret;exact⟨af (by simp),rfl⟩
  ·rw[show inI x 0 3=false by simp[inI];omega]
   go_enter Tryz.func26,Tryz.ntmps26;go_wp2;go_ret;exact⟨af (by simp),rfl⟩
 ·rw[show inI x 0 3=false by simp[inI];omega]
  go_enter Tryz.func26,Tryz.ntmps26;go_wp2;go_ret;exact⟨af (by simp),rfl⟩
theorem jt (f:Nat->Int) (i:Int) (w:World):
  Calls Tryz.prog 217 #[.agg (kA f),.int .i64 i] w fun e w'=>e=.returned (.bool (inI i 0 3&&decide (f i.toNat≠0)))/\bB w w':=by
 have b1:bB w (w.alloc (.cells (kA f) 163)):=bA;have H1:StB (w.alloc (.cells (kA f) 163)) w.heap.size 163 (kA f):=StB.new _ _ _;have c1:=fun wx=>cO i wx
 by_cases h:0<=i/\i<4
 ·have hin:inI i 0 3=true:=by simp[inI];omega
  simp only[hin]at c1⊢;obtain⟨j,hj,hj4⟩:∃j:Nat,i=(j:Int)/\j<4:=⟨i.toNat,by omega,by omega⟩
  subst hj;obtain⟨y,hy⟩:=eX (f j)
  have hc:(w.alloc (.cells (kA f) 163)).cell? ⟨w.heap.size,j,none⟩=some (.int .i64 y):=by
   rw[hy];exact H1.cell j (nh (p:=fun j=>(kA f)[j]?=some (.int .i64 (f j))) rfl rfl rfl rfl j hj4)
  have HY:Hid (y=f j):=hy;have hl:(j:Int)<4:=by omega
  clear hin hy h H1;unfold kA at*;by_cases y0:y=0
  ·go_enter Tryz.func217,Tryz.ntmps217
   go_wp2_with (first|(go_at_call 26;refine mo (c1 _) ?_))
   go_ret;exact⟨af (by simp[<-HY.out,y0]),b1⟩
  ·have hyn:(y !=0)=true:=by simpa using y0
   go_enter Tryz.func217,Tryz.ntmps217;go_wp2_with (first|(go_at_call 26;refine mo (c1 _) ?_))
   go_ret;exact⟨af (by simp[<-HY.out,y0]),b1⟩
 ·have hin:inI i 0 3=false:=by simp[inI];omega
  simp only[hin]at c1⊢;clear h hin H1;unfold kA at*;go_enter Tryz.func217,Tryz.ntmps217;go_wp2_with (first|(go_at_call 26;refine mo (c1 _) ?_))
  go_ret;exact⟨af (by simp),b1⟩
def jG (f:Nat->Int):Bool:=(f 0 !=0)||(f 1 !=0)||(f 2 !=0)||(f 3 !=0)
theorem AS (f:Nat->Int) (w:World):(Op.equalIn 10000 163 (.agg (kA f)) (.agg (kA fun _=>0))).run Tryz.prog w=.ok (!anyF f) w:=by
 obtain⟨i0,hi,hz0,hz1,hz2⟩:=info_parts Tryz.infoI;have hz:Tryz.prog.cellsOf 2=1:=by kernel_rfl
 have hu:Tryz.prog.underlying 2=some (.int .i64):=by kernel_rfl
 rw[show(10000:Nat)=9998+1+1 from rfl,run_equalIn_array (i:=i0) w (9998+1) _ _ Tryz.underK hi,hz];simp[List.range,List.range.loop,Op.eqItems,part,Sem.run_bind,sizeOf,typeInfo,hi,hz1,hu,kA,run_equalIn_int,jG]
 (repeat' split)<;>simp_all
theorem mH (f:Nat->Int) (w:World):
  Calls Tryz.prog 215 #[.agg (kA f)] w fun e w'=>e=.returned (.bool (jG f))/\bB w w':=by
 have b1:bB w (w.alloc (.cells (kA f) 163)):=bA;have he:=AS f (w.alloc (.cells (kA f) 163));obtain⟨x,hx⟩:=eX (jG f)
 rw[<-hx]at he⊢;clear hx;unfold kA at*;cases x with
 |false=>
  go_enter Tryz.func215,Tryz.ntmps215;go_wp2;go_ret;exact⟨rfl,b1⟩
 |true=>
  go_enter Tryz.func215,Tryz.ntmps215;go_wp2;go_ret;exact⟨rfl,b1⟩
theorem DW (f:Nat->Int):(kA f).all (·.oneCell')=true:=by simp[kA,Value.oneCell']
theorem qn (f:Nat->Int):∀j,j<4->(kA f)[j]?=some (.int .i64 (f j)):=nh rfl rfl rfl rfl
def d9 (f:Nat->Int) (j:Nat) (x:Int):Nat->Int:=fun k=>if k=j then x else f k
theorem AT (f:Nat->Int) (x:Int):∀j,j<4->(kA f).setIfInBounds j (.int .i64 x)=kA (d9 f j x):=nh rfl rfl rfl rfl
def jR (xs:List Int) (j:Nat):Nat->Int:=fun k=>if k<j then xs.getD k 0 else 0
theorem vU (xs:List Int) (j:Nat):d9 (jR xs j) j (xs.getD j 0)=jR xs (j+1):=by
 funext k
 unfold d9 jR;by_cases e:k=j
 ·subst e;simp
 ·have:k<j+1↔k<j:=by omega
  simp[e,this]
theorem vV (xs:List Int):jR xs 0=fun _=>0:=by funext k;simp[jR]
theorem vW (xs:List Int):jR xs xs.length=KF xs:=by
 funext k
 unfold jR KF;split
 ·rfl
 ·rw[List.getD_eq_getElem?_getD,List.getElem?_eq_none (by omega)];rfl
def fD (ks:List Int):Bool:=decide (ks.length=4)&&ex ks
def mJ (ks:List Int):Nat->Int:=fun j=>if fD ks then ks.getD j 0 else 0
theorem lS {xs:List Int} (h:fD xs=true):mJ xs=KF xs:=by funext k;simp[mJ,KF,h]
theorem tK {xs:List Int} (h:fD xs=false):mJ xs=fun _=>0:=by funext k;simp[mJ,h]
theorem mL {ops:Array Oper} {rest:List Oper} {o:Oper} {a:Act} {w:World} {Q:Exit->Act->World->Prop} (hgd:o.guard=none) (x:Operand) (ho:o.op=.load 163 x)
  (g:Nat) (hx:a.eval x=.pointer (some ⟨g,0,none⟩)) (f:Nat->Int) (hr:StB w g 163 (kA f))
  (h:wpList Tryz.prog ops Q rest (a.put o.dst (.agg (kA f))) w):wpList Tryz.prog ops Q (o::rest) a w:=
 wpList_load_row hgd _ x ho g hx _ _ _ _ hr Tryz.underK rfl Tryz.isKeyRow h
theorem ia {ops:Array Oper} {rest:List Oper} {o:Oper} {a:Act} {w:World} {Q:Exit->Act->World->Prop} (hgd:o.guard=none) (x y:Operand) (ho:o.op=.store 163 x y)
  (g:Nat) (f:Nat->Int) (hx:a.eval x=.pointer (some ⟨g,0,none⟩)) (hy:a.eval y=.agg (kA f)) (old:Nat->Int) (hr:StB w g 163 (kA old))
  (h:∀w',StB w' g 163 (kA f)->w.grownBy w' (some g)->wpList Tryz.prog ops Q rest (a.put o.dst undef) w'):wpList Tryz.prog ops Q (o::rest) a w:=
 wpList_store_row hgd _ x y ho g (kA f) hx hy _ _ hr Tryz.isKeyRow rfl (DW f) (h _ (setRow_heap w g _ _ _ _ hr) (gz w g _))
theorem lT {fn:Func} {p u:Tmp} (h:fn.results=#[.cell p 163,.tmp u]) (tmps:Array Value) (w:World) (g:Nat) (f:Nat->Int) (x:Value)
  (hp:tmps.getD p undef=.pointer (some ⟨g,0,none⟩)) (hx:tmps.getD u undef=x) (hr:StB w g 163 (kA f)):
  (results fn tmps).run Tryz.prog w=.ok (.tuple #[.agg (kA f),x]) w:=by
 rw[results_cell_tmp h,hp,hx];simp only[asAddr,Sem.run_pure,Result.andThen_ok];rw[run_loadVar_row w g _ _ _ _ _ hr Tryz.underK rfl Tryz.isKeyRow];rfl
def zf (xs:List Int) (w wr:World) (j:Nat):Prop:=StB wr w.heap.size 163 (kA fun _=>0)/\StB wr (w.heap.size+1) 163 (kA (jR xs j))/\ex (xs.take j)=true/\bB w wr
theorem zf.start (xs:List Int) (w:World):zf xs w ((w.alloc (.cells (kA fun _=>0) 163)).alloc (.cells (kA fun _=>0) 163)) 0:=by
 refine⟨(StB.new w _ _).alloc _,?_,by simp[ex],bA.alloc (by simp) _⟩;have:=StB.new (w.alloc (.cells (kA fun _=>0) 163)) 163 (kA fun _=>0);rw[vV];simpa using this
theorem tL (v:Value) (xs:List Int) (w:World) (h:ag w v xs) (hbig:xs.length<=1099511627776):
  Calls Tryz.prog 177 #[v] w fun e w'=>e=.returned (.tuple #[.agg (kA (mJ xs)),.bool (fD xs)])/\bB w w':=by
 obtain⟨ao,cap,rfl⟩:=aa h;obtain⟨-,la,ma,hcell⟩:=aK h;have HR0:Hid (ag w (.slice ao xs.length cap) xs):=h;clear h;obtain⟨n,hn⟩:=eX xs.length
 rw[<-hn]at la hcell hbig HR0⊢;have HN:Hid (n=xs.length):=hn;clear hn;unfold maxLen at ma;by_cases hc:n=4
 ·subst hc
  go_enter Tryz.func177,Tryz.ntmps177;go_wp2_with fail
  go_loopw [14] (fun i wr=>∃j:Nat,j<=4/\i=.int .i64 j/\Hid (zf xs w wr j)) (fun i _=>4-(intOf i).toNat)
  case atStart=>exact⟨0,Nat.zero_le _,rfl,zf.start xs w⟩
  case round=>
   obtain⟨j,hj,rfl,HR⟩:=hrel;by_cases hlt:(j:Int)<4
   ·obtain⟨-, -, -,hcell'⟩:=aK (HR0.out.below HR.out.2.2.2 (Nat.le_refl _))
    obtain⟨b,off,rfl,hc1⟩:=hcell' j (by omega);obtain⟨x,hx⟩:=eX (xs.getD j 0)
    rw[<-hx]at hc1;clear hcell hcell';by_cases hv:inI x 0 9999=true
    ·have hfr:=HR.out.2.1.frozen j
     have hcc:=HR.out.2.1.cell j (qn _ j (by omega));have HS:Hid (zf xs w (wr.setCell ⟨w.heap.size+1,j,none⟩ (.int .i64 x)) (j+1)):=by
      obtain⟨r1,r2,r3,r4⟩:=HR.out;refine⟨r1.other _ _ (by simp),?_,qi xs j (by have:=HN.out;omega) r3 (by rw[<-hx];exact hv),r4.setCell (by simp) _⟩;refine r2.put j (.int .i64 x) ?_;rw[AT _ _ j (by omega),hx,vU]
     clear hx HR;go_wp2_with (first|(go_at_call 213;refine(iI _ _).mono ?_;rw[hv];rintro e w' ⟨rfl,hw⟩;subst w'))
     go_roundw
     case rel=>exact⟨j+1,by omega,by go_num,HS⟩
     case measure=>simp[intOf];omega
    ·have hv':inI x 0 9999=false:=by simpa using hv
     have HB:Hid (fD xs=false):=by
      simp[Hid,fD,tj xs j (by have:=HN.out;omega) (by rw[<-hx];exact hv')]
     have hrow:=HR.out.1;clear hx hv;go_wp2_with (first|(go_at_call 213;refine(iI _ _).mono ?_;rw[hv'];rintro e w' ⟨rfl,hw⟩;subst w')|(refine ia rfl _ _ rfl w.heap.size (fun _=>0) rfl rfl _ hrow ?_;intro w3 h3 g3))
     refine bodyPost_ret (lT rfl _ _ w.heap.size (fun _=>0) _ rfl rfl h3) rfl ?_;rw[HB.out,tK HB.out];exact⟨rfl,HR.out.2.2.2.grown g3 HR.out.2.2.2.size (fun k e=>by cases e;exact Nat.le_refl _)⟩
   ·have hrow:=HR.out.1
    have hrow2:=HR.out.2.1;go_wp2_with (first|(refine mL rfl _ rfl (w.heap.size+1) rfl _ hrow2 ?_)|(refine ia rfl _ _ rfl w.heap.size (jR xs j) rfl rfl _ hrow ?_;intro w3 h3 g3))
    refine bodyPost_ret (lT rfl _ _ w.heap.size (jR xs j) _ rfl rfl h3) rfl ?_;have e:j=xs.length:=by have:=HN.out;omega
    have HB:fD xs=true:=by
     have:=HR.out.2.2.1;rw[e,List.take_length]at this;simp[fD,this,<-HN.out]
    rw[HB,lS HB,e,vW];exact⟨rfl,HR.out.2.2.2.grown g3 HR.out.2.2.2.size (fun k e=>by cases e;exact Nat.le_refl _)⟩
 ·have hn4:((n:Int) !=4)=true:=by simp;omega
  have HB:Hid (fD xs=false):=by
   have:=HN.out;simp[Hid,fD];intro h;omega
  have hrow:=(zf.start xs w).1;have hz:StB (w.alloc (.cells (kA fun _=>0) 163)) w.heap.size 163 (kA fun _=>0):=StB.new _ _ _;have hzB:bB w (w.alloc (.cells (kA fun _=>0) 163)):=bA;clear hrow hcell;go_enter Tryz.func177,Tryz.ntmps177;go_wp2_with (first|(refine ia rfl _ _ rfl w.heap.size (fun _=>0) rfl rfl _ hz ?_;intro w3 h3 g3))
  refine bodyPost_ret (lT rfl _ _ w.heap.size (fun _=>0) _ rfl rfl h3) rfl ?_;rw[HB.out,tK HB.out];exact⟨rfl,hzB.grown g3 hzB.size (fun k e=>by cases e;exact Nat.le_refl _)⟩
def dw (f:Nat->Int):List Int:=[f 0,f 1,f 2,f 3]
theorem ot {ks:List Int} (h:ks.length=4):dw (KF ks)=ks:=by
 match ks,h with
 |[a,b,c,d],_=>rfl
theorem vX (f:Nat->Int) (w:World):
  Calls Tryz.prog 285 #[.agg (kA f)] w fun e w'=>∃u,e=.returned u/\Own w' w.heap.size u (dw f)/\bB w w':=by
 obtain⟨i0,hi,hz0,hz1,hz2⟩:=info_parts Tryz.infoI;obtain⟨w1,hw1⟩:=eX ((w.alloc (.cells (kA f) 163)).alloc (.cells #[] 2))
 have hown:w1.ownsRow w.heap.size 2 1 (.slice (some ⟨w.heap.size+1,0,none⟩) 0 0) 0 []:=by
  have:=World.ownsRow_lit (base:=w.heap.size) (e:=2) (size:=1) (w.alloc (.cells (kA f) 163)) #[] 0 (by simp) (Nat.zero_le _) rfl;rw[hw1];simpa using this
 have hrow:StB w1 w.heap.size 163 (kA f):=by rw[hw1];exact(StB.new w _ _).alloc _
 have hnews:∀j u,((dw f).map (Value.int .i64))[j]?=some u->w1.cell? ((⟨w.heap.size,0,none⟩:Addr).add j)=some u:=by
  intro j u hj;have hlt:j<4:=by
   rcases Nat.lt_or_ge j 4 with h|h
   ·exact h
   ·rw[List.getElem?_eq_none (by simpa[dw]using h)]at hj;cases hj
  rw[show(⟨w.heap.size,0,none⟩:Addr).add j=⟨w.heap.size,j,none⟩ by unfold Addr.add;split<;>simp_all];rw[hrow.cell j (qn f j hlt)];rw[<-hj];exact nh (p:=fun j=>some (Value.int .i64 (f j))=((dw f).map (Value.int .i64))[j]?) rfl rfl rfl rfl j hlt
 have hone:∀u∈(dw f).map (Value.int .i64),u.oneCell'=true:=by
  intro u hu;obtain⟨x,_,rfl⟩:=List.mem_map.1 hu;rfl
 have hll:((dw f).map (Value.int .i64)).length=4*1:=rfl;have hb1:bB w w1:=by rw[hw1];exactbA.alloc (by simp) _
 go_enter Tryz.func285,Tryz.ntmps285;go_wp2_with (at_builtin;rw[<-hw1];refine wpList_append_own _ rfl _ _ 22 rfl w.heap.size 2 i0 (.int .i64 0) 1 8 Tryz.underlying22 hi hz0 hz1 hz2 rfl (by decide) _ _ _ rfl hown _ 4 4 ((dw f).map (Value.int .i64)) rfl hll hnews hone (by unfold maxLen;omega) (by omega) hb1.size ?_)
 intro v' w2 hown' hgrow _;rw[<-hw1]at hgrow;have HG:Hid (bB w w2):=hb1.grown hgrow hb1.size (fun g e=>by simp[Value.ownBlock]at e;omega);go_wp2;go_ret;refine⟨_,rfl,?_,HG.out⟩;unfold Own;simpa[show(dw f).length=4 from rfl]using hown'
def jI (x y:Bool):Value:=.agg #[.bool x,.bool y]
def np (p:Bool×Bool×Nat):MapEntry:=⟨jI p.1 p.2.1,.int .i64 1,p.2.2⟩
theorem CX (x y x' y':Bool) (w:World):(Op.equal 283 (jI x y) (jI x' y')).run Tryz.prog w=.ok (x==x'&&y==y') w:=by
 cases x<;>cases y<;>cases x'<;>cases y'<;>kernel_rfl
theorem gM (e:Bool) (x y:Bool) (w:World):(Instr.checkKey e 10000 283 (jI x y)).run Tryz.prog w=.ok () w:=by
 cases x<;>cases y<;>cases e<;>kernel_rfl
def iN (x y:Bool):List (Bool×Bool×Nat)->Nat->Option (Nat×Value)
 |[],_=>none
 |p::l,i=>if(x==p.1&&y==p.2.1)=true then some (i,.int .i64 1)else iN x y l (i+1)
def mb (x y:Bool):List (Bool×Bool×Nat)->List (Bool×Bool×Nat)
 |[]=>[]
 |p::l=>if(x==p.1&&y==p.2.1)=true then l else p::mb x y l
def gd (l:List (Bool×Bool×Nat)) (x y:Bool):Bool:=l.any fun p=>x==p.1&&y==p.2.1
def Bi (l:List (Bool×Bool×Nat)):Prop:=l.Pairwise fun p q=>(p.1==q.1&&p.2.1==q.2.1)=false
theorem qu (x y:Bool) (w:World):∀(l:List (Bool×Bool×Nat)) (i:Nat),(Instr.findAsking 283 (jI x y) (l.map np) i).run Tryz.prog w=.ok (iN x y l i) w
 |[],i=>by simp[Instr.findAsking,iN]
 |p::l,i=>by
  have h1:=CX x y p.1 p.2.1 w;have h2:=qu x y w l (i+1);rw[List.map_cons];by_cases hb:(x==p.1&&y==p.2.1)=true
  ·simp only[hb]at h1
   simp[Instr.findAsking,np,h1,iN,hb]
  ·have hb':(x==p.1&&y==p.2.1)=false:=by simpa using hb
   simp only[hb']at h1;simp[Instr.findAsking,np,h1,iN,hb',h2]
theorem mc (x y:Bool) (l:List (Bool×Bool×Nat)):∀i,gd l x y=false->iN x y l i=none/\mb x y l=l:=by
 induction l with
 |nil=>intro i _;exact⟨rfl,rfl⟩
 |cons p l ih=>
  intro i h;simp only[gd,List.any_cons,Bool.or_eq_false_iff]at h;obtain⟨h1,h2⟩:=ih (i+1) h.2;simp[iN,mb,h.1,h1,h2]
theorem oM (x y:Bool) (l:List (Bool×Bool×Nat)):∀i,gd l x y=true->∃j,iN x y l i=some (i+j,.int .i64 1)/\l.eraseIdx j=mb x y l:=by
 induction l with
 |nil=>intro i h;cases h
 |cons p l ih=>
  intro i h;by_cases hb:(x==p.1&&y==p.2.1)=true
  ·exact⟨0,by simp[iN,hb],by simp[mb,hb]⟩
  ·have h':gd l x y=true:=by
    simp only[gd,List.any_cons,Bool.or_eq_true]at h;rcases h with h|h
    ·exact absurd h hb
    ·exact h
   obtain⟨j,h1,h2⟩:=ih (i+1) h';refine⟨j+1,?_,?_⟩
   ·unfold iN
    rw[if_neg hb,h1];simp[Nat.add_assoc,Nat.add_comm 1 j]
   ·unfold mb
    rw[if_neg hb,<-h2];rfl
theorem CY (x y:Bool) (l:List (Bool×Bool×Nat)):(mb x y l).Sublist l:=by
 induction l with
 |nil=>exact List.Sublist.refl _
 |cons p l ih=>
  unfold mb;split
  ·exact List.sublist_cons_self _ _
  ·exact ih.cons_cons _
theorem C6 (x y a b:Bool) (l:List (Bool×Bool×Nat)) (h:Bi l):gd (mb x y l) a b=(gd l a b&& !(a==x&&b==y)):=by
 induction l with
 |nil=>rfl
 |cons p l ih=>
  have h2:=List.pairwise_cons.1 h;have ih:=ih h2.2;obtain⟨p1,p2,n⟩:=p;unfold mb;by_cases hb:(x==p1&&y==p2)=true
  ·rw[if_pos hb]
   have hno:gd l p1 p2=false:=by
    unfold gd;rw[List.any_eq_false];intro q hq;simpa using h2.1 q hq
   simp only[Bool.and_eq_true,beq_iff_eq]at hb;obtain⟨rfl,rfl⟩:=hb;by_cases ha:(a==x&&b==y)=true
   ·simp only[Bool.and_eq_true,beq_iff_eq]at ha
    obtain⟨rfl,rfl⟩:=ha;rw[hno];simp
   ·have ha':(a==x&&b==y)=false:=by simpa using ha
    simp only[gd,List.any_cons,ha',Bool.false_or,Bool.not_false,Bool.and_true]
  ·rw[if_neg hb]
   simp only[gd,List.any_cons]at ih⊢;rw[ih];have hb':(x==p1&&y==p2)=false:=by simpa using hb
   revert hb'
   cases a<;>cases b<;>cases x<;>cases y<;>cases p1<;>cases p2<;>simp
def MB (w:World) (b:Nat) (t:Bool->Bool->Bool):Prop:=
 ∃l clock,w.heap[b]?=some (.map (l.map np).toArray clock)/\Bi l/\∀x y,gd l x y=t x y
theorem MB.of (w w':World) (b:Nat) (t:Bool->Bool->Bool) (h:MB w b t) (e:w'.heap[b]?=w.heap[b]?):MB w' b t:=by
 obtain⟨l,c,hb,ha,ht⟩:=h;exact⟨l,c,e.trans hb,ha,ht⟩
theorem MB.eq {w:World} {b:Nat} {t s:Bool->Bool->Bool} (h:MB w b t) (e:∀x y,t x y=s x y):MB w b s:=by
 obtain⟨l,c,hb,ha,ht⟩:=h;exact⟨l,c,hb,ha,fun x y=>(ht x y).trans (e x y)⟩
theorem MB.lt {w:World} {b:Nat} {t:Bool->Bool->Bool} (h:MB w b t):b<w.heap.size:=by
 obtain⟨l,c,hb,_,_⟩:=h;exact(Array.getElem?_eq_some_iff.1 hb).1
def putT (t:Bool->Bool->Bool) (x y:Bool):Bool->Bool->Bool:=fun a b=>t a b||(a==x&&b==y)
def Eu (t:Bool->Bool->Bool) (x y:Bool):Bool->Bool->Bool:=fun a b=>t a b&& !(a==x&&b==y)
theorem me (x y:Bool) (w:World) (l:List (Bool×Bool×Nat)):(Instr.findKey 283 (jI x y) (l.map np)).run Tryz.prog w=.ok (iN x y l 0) w:=by
 have hu:∃fs,Tryz.prog.underlying 283=some (.struct fs):=⟨_,Tryz.underlying283⟩
 obtain⟨fs,hu⟩:=hu;have h:=qu x y w l 0;cases l with
 |nil=>simp[Instr.findKey,run_underlying hu,Result.andThen,Instr.findNow,iN]
 |cons p l=>
  have hn:Instr.findNow (.struct fs) (jI x y) ((p::l).map np) 0=none:=by
   simp[Instr.findNow,Instr.sameNow,jI,np]
  simp only[Instr.findKey,Sem.run_bind,run_underlying hu,Result.andThen,hn];exact h
theorem ux (w:World) (b:Nat) (t:Bool->Bool->Bool) (x y:Bool) (h:MB w b t) (ht:t x y=false):
  ∃w',(Instr.mapUpdate 280 (.map (some b)) (jI x y) (.int .i64 1)).run Tryz.prog w=.ok () w'/\MB w' b (putT t x y)/\w.grownBy w' (some b):=by
 obtain⟨l,c,hb,ha,hl⟩:=h;have hf:=me x y w l;have hno:gd l x y=false:=(hl x y).trans ht;rw[(mc x y l 0 hno).1]at hf;refine⟨{w with heap:=w.heap.setIfInBounds b (.map ((l.map np).toArray.push ⟨jI x y,.int .i64 1,c⟩) (c+1))},?_,?_,?_⟩
 ·simp[Instr.mapUpdate,run_underlying Tryz.underlying280,MapKept.run_getObj_map hb,gM,hf,MapKept.run_setObj_map _ hb,Result.andThen]
 ·refine⟨l++[(x,y,c)],c+1,?_,?_,?_⟩
  ·rw[(MapKept.heap_set hb).1]
   simp[np]
  ·refine List.pairwise_append.2 ⟨ha,by simp,?_⟩
   intro p hp q hq;simp only[List.mem_singleton]at hq;subst hq;have:=List.any_eq_false.1 hno p hp;cases hx:x<;>cases hy:y<;>cases h1:p.1<;>cases h2:p.2.1<;>simp_all
  ·intro a d
   simp only[gd,List.any_append,List.any_cons,List.any_nil,Bool.or_false,putT];rw[<-hl a d];rfl
 ·exact⟨rfl,rfl,rfl,by simp,fun k hk hne=>(MapKept.heap_set hb).2 k (fun e=>hne (by rw[e]))⟩
theorem qv (f:Bool×Bool×Nat->MapEntry):∀(l:List (Bool×Bool×Nat)) (j:Nat),(l.map f).eraseIdx j=(l.eraseIdx j).map f
 |[],_=>rfl
 |_::_,0=>rfl
 |p::l,j+1=>by simp[qv f l j]
theorem uy (w:World) (ty:TypeId) (b:Nat) (t:Bool->Bool->Bool) (x y:Bool) (h:MB w b t):
  ∃w',(Builtin.delete_ #[280,283] ty #[.map (some b),jI x y]).run Tryz.prog w=.ok (.tuple #[]) w'/\MB w' b (Eu t x y)/\w.grownBy w' (some b):=by
 obtain⟨l,c,hb,ha,hl⟩:=h;have hf:=me x y w l;refine⟨{w with heap:=w.heap.setIfInBounds b (.map ((mb x y l).map np).toArray c)},?_,⟨mb x y l,c,(MapKept.heap_set hb).1,List.Pairwise.sublist (CY x y l) ha,?_⟩,?_⟩
 ·cases hh:gd l x y with
  |false=>
   obtain⟨h1,h2⟩:=mc x y l 0 hh;rw[h1]at hf;rw[h2];simp[Builtin.delete_,run_underlying Tryz.underlying280,MapKept.run_getObj_map hb,gM,hf,MapKept.run_setObj_map _ hb,Result.andThen]
  |true=>
   obtain⟨j,h1,h2⟩:=oM x y l 0 hh;rw[h1,Nat.zero_add]at hf;have he:(l.map np).toArray.eraseIdxIfInBounds j=((mb x y l).map np).toArray:=by
    rw[<-h2];apply Array.ext';simp only[Array.eraseIdxIfInBounds];split
    ·simp[qv]
    ·rename_i hlt
     have:l.length<=j:=by simpa using hlt
     rw[List.eraseIdx_of_length_le this]
   rw[<-he];simp[Builtin.delete_,run_underlying Tryz.underlying280,MapKept.run_getObj_map hb,gM,hf,MapKept.run_setObj_map _ hb,Result.andThen]
 ·intro a d
  rw[C6 x y a d l ha,hl a d];rfl
 ·exact⟨rfl,rfl,rfl,by simp,fun k hk hne=>(MapKept.heap_set hb).2 k (fun e=>hne (by rw[e]))⟩
theorem wP (w:World) (ty:TypeId) (b:Nat) (t:Bool->Bool->Bool) (h:MB w b t):
  ∃w',(Builtin.clear_ #[280] ty #[.map (some b)]).run Tryz.prog w=.ok (.tuple #[]) w'/\MB w' b (fun _ _=>false)/\w.grownBy w' (some b):=by
 obtain⟨l,c,hb,ha,hl⟩:=h;refine⟨{w with heap:=w.heap.setIfInBounds b (.map #[] c)},?_,⟨[],c,(MapKept.heap_set hb).1,List.Pairwise.nil,fun _ _=>rfl⟩,?_⟩
 ·simp[Builtin.clear_,run_underlying Tryz.underlying280,MapKept.run_getObj_map hb,MapKept.run_setObj_map _ hb,Result.andThen]
 ·exact⟨rfl,rfl,rfl,by simp,fun k hk hne=>(MapKept.heap_set hb).2 k (fun e=>hne (by rw[e]))⟩
theorem qw (w:World) (b:Nat) (t:Bool->Bool->Bool) (x y:Bool) (h:MB w b t):
  (Instr.lookup 280 (.map (some b)) (jI x y) false).run Tryz.prog w=.ok (.int .i64 (if t x y=true then 1 else 0)) w:=by
 obtain⟨l,c,hb,ha,hl⟩:=h;have hf:=me x y w l;have hz:(zeroValue 2).run Tryz.prog w=.ok (.int .i64 0) w:=by kernel_rfl
 cases hh:gd l x y with
 |false=>
  rw[(mc x y l 0 hh).1]at hf;rw[<-hl x y,hh];simp[Instr.lookup,run_underlying Tryz.underlying280,MapKept.run_getObj_map hb,gM,hf,hz,Result.andThen]
 |true=>
  obtain⟨j,h1,h2⟩:=oM x y l 0 hh;rw[h1]at hf;rw[<-hl x y,hh];simp[Instr.lookup,run_underlying Tryz.underlying280,MapKept.run_getObj_map hb,gM,hf,Result.andThen]
end Go.Proofs.YthldeiojlllkdaaGreatDoor
