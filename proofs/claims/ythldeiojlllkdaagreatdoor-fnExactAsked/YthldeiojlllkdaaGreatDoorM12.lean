/- Kinds by the program: shapes, the table of a kind, KindOk, ForAll. -/
import Derived.Test.YthldeiojlllkdaaGreatDoorM11
import Derived.Shelf.Strings.Builder1
import Derived.Shelf.Strings.Builder2
import Derived.Shelf.Strings.OnBuilder
import Derived.Shelf.Utf8.RuneCount
import Derived.Shelf.Strconv.Itoa0
import Derived.Shelf.Strconv.Itoa1
import Derived.Shelf.LaysM
import Derived.Shelf.Strconv.Itoa2
import Derived.Shelf.Strconv.Itoa3
import Derived.Shelf.Strconv.Itoa4
import Derived.Shelf.Strconv.Clone
import Derived.Shelf.Strings.Search1
import Derived.Shelf.Strings.Search2
import Derived.Shelf.Strings.Search3
import Derived.Shelf.Strings.Cut
import Derived.Shelf.Strings.Count
import Derived.Shelf.Strings.Shaped
import Derived.Shelf.Strings.Split
import Derived.Shelf.Strings.SplitShaped
import Derived.Shelf.Unicode.Decode
import Derived.Shelf.Strings.RuneCount
import Derived.Shelf.Strings.Explode
import Derived.Shelf.Unicode.DecodeSlow
import Derived.Shelf.Unicode.DecodeAny
import Derived.Test.YthldeiojlllkdaaGreatDoorProg
import Derived.Lib.AppendIntMem
set_option maxRecDepth 20000
set_option maxHeartbeats 2000000
namespace Go.Proofs.YthldeiojlllkdaaGreatDoor
open Go.ChangeShapes Go.WideShapes Go.ChangeAt Go.RowKit
def ft (k:Int):Int:=if k=1 then 1 else if k=2 then 1 else if k=3 then 2 else if k=4 then 2 else if k=5 then 3 else if k=6 then 3 else 0
def gI (k:Int):Int:=if k=1 then 1 else if k=2 then 2 else if k=3 then 1 else if k=4 then 2 else if k=5 then 1 else if k=6 then 2 else 0
theorem GQ:IsS 274 2:=⟨⟨_,Tryz.underlying274⟩,by kernel_rfl⟩
theorem ku (k:Int) (w:World):
  Calls Tryz.prog 241 #[.int .i64 k] w fun e w'=>e=.returned (.agg #[.int .i64 (ft k),.int .i64 (gI k)])/\iO w w':=by
 have b1:=(Below.refl w.heap.size w).alloc (Nat.le_refl _);rcases kinds k with h|h|h|h|h|h|h|⟨_,h0,h1,h2,h3,h4,h5,h6⟩
 ·subst h
  go_enter Tryz.func241,Tryz.ntmps241;go_wp2;refine bodyPost_ret (aj GQ rfl _ _ w.heap.size _ rfl rfl (StB.new w _ _)) rfl ?_;exact⟨rfl,b1 _⟩
 ·subst h
  go_enter Tryz.func241,Tryz.ntmps241;go_wp2;refine bodyPost_ret (aj GQ rfl _ _ w.heap.size _ rfl rfl (StB.new w _ _)) rfl ?_;exact⟨rfl,b1 _⟩
 ·subst h
  go_enter Tryz.func241,Tryz.ntmps241;go_wp2;refine bodyPost_ret (aj GQ rfl _ _ w.heap.size _ rfl rfl (StB.new w _ _)) rfl ?_;exact⟨rfl,b1 _⟩
 ·subst h
  go_enter Tryz.func241,Tryz.ntmps241;go_wp2;refine bodyPost_ret (aj GQ rfl _ _ w.heap.size _ rfl rfl (StB.new w _ _)) rfl ?_;exact⟨rfl,b1 _⟩
 ·subst h
  go_enter Tryz.func241,Tryz.ntmps241;go_wp2;refine bodyPost_ret (aj GQ rfl _ _ w.heap.size _ rfl rfl (StB.new w _ _)) rfl ?_;exact⟨rfl,b1 _⟩
 ·subst h
  go_enter Tryz.func241,Tryz.ntmps241;go_wp2;refine bodyPost_ret (aj GQ rfl _ _ w.heap.size _ rfl rfl (StB.new w _ _)) rfl ?_;exact⟨rfl,b1 _⟩
 ·subst h
  go_enter Tryz.func241,Tryz.ntmps241;go_wp2;refine bodyPost_ret (aj GQ rfl _ _ w.heap.size _ rfl rfl (StB.new w _ _)) rfl ?_;exact⟨rfl,b1 _⟩
 ·have he:ft k=0:=by simp[ft,h1,h2,h3,h4,h5,h6]
  have hf:gI k=0:=by simp[gI,h1,h2,h3,h4,h5,h6]
  rw[he,hf];clear he hf;go_enter Tryz.func241,Tryz.ntmps241;go_wp2;refine bodyPost_ret (aj GQ rfl _ _ w.heap.size _ rfl rfl (StB.new w _ _)) rfl ?_;exact⟨rfl,b1 _⟩
theorem jw (k:Int) (w:World):
  Calls Tryz.prog 216 #[.int .i64 k] w fun e w'=>e=.returned (.bool (kiI k))/\iO w w':=by
 have c1:=ku k w;rcases kinds k with h|h|h|h|h|h|h|⟨hk,h0,h1,h2,h3,h4,h5,h6⟩
 all_goals first
  |(subst h
    go_enter Tryz.func216,Tryz.ntmps216;go_wp2_with fail
    refine c1.mono ?_;rintro e w2 ⟨rfl,b2⟩;go_wp2;go_ret;exact⟨rfl,b2⟩)
  |(have he:ft k=0:=by simp[ft,h1,h2,h3,h4,h5,h6]
    have hf:gI k=0:=by simp[gI,h1,h2,h3,h4,h5,h6]
    rw[he,hf]at c1;rw[hk];clear he hf;go_enter Tryz.func216,Tryz.ntmps216;go_wp2_with fail
    refine c1.mono ?_;rintro e w2 ⟨rfl,b2⟩;go_wp2;go_ret;exact⟨rfl,b2⟩)
theorem zv (k:Int):bY k=decide (ft k=3):=by
 rcases kinds k with h|h|h|h|h|h|h|⟨hk,h0,h1,h2,h3,h4,h5,h6⟩
 all_goals first|(subst h;rfl)|(rw[Bw k hk,show ft k=0 by simp[ft,h1,h2,h3,h4,h5,h6]];rfl)
theorem lp (k:Int) (w:World):
  Calls Tryz.prog 214 #[.int .i64 k] w fun e w'=>e=.returned (.bool (bY k))/\iO w w':=by
 have c1:=ku k w;rw[zv];obtain⟨p,hp⟩:=Fe (ft k)
 obtain⟨q,hq⟩:=Fe (gI k)
 rw[<-hp,<-hq]at c1;rw[<-hp];clear hp hq;go_enter Tryz.func214,Tryz.ntmps214;go_wp2_with fail
 refine c1.mono ?_;rintro e w2 ⟨rfl,b2⟩;have hf:∀wx,(Instr.field 274 (.agg #[.int .i64 p,.int .i64 q]) 0).run Tryz.prog wx=.ok (.int .i64 p) wx:=fun wx=>by kernel_rfl
 go_wp2;go_ret;exact⟨af (by by_cases h:p=3<;>simp[h]),b2⟩
def MBB (w0 w:World) (b:Nat) (t:Bool->Bool->Bool):Prop:=MB w b t/\iO w0 w/\w0.heap.size<=b
theorem MBB.start (w:World):MBB w (w.alloc (.map #[] 0)).drew w.heap.size (fun _ _=>false):=
 ⟨⟨[],0,(MapKept.heap_alloc w _).1,List.Pairwise.nil,fun _ _=>rfl⟩,((Below.refl w.heap.size w).alloc (Nat.le_refl _) _).drew,Nat.le_refl _⟩
theorem MBB.grown {w0 w w':World} {b:Nat} {t s:Bool->Bool->Bool} (h:MBB w0 w b t) (hm:MB w' b s) (hg:w.grownBy w' (some b)):MBB w0 w' b s:=
 ⟨hm,h.2.1.grown hg h.2.1.size (fun k e=>by cases e;exact h.2.2),h.2.2⟩
theorem MBB.below {w0 w w':World} {b:Nat} {t:Bool->Bool->Bool} (h:MBB w0 w b t) (hb:iO w w'):MBB w0 w' b t:=
 ⟨MB.of w w' b t h.1 (hb.block b h.1.lt),h.2.1.trans (hb.mono h.2.1.size),h.2.2⟩
theorem MBB.eq {w0 w:World} {b:Nat} {t s:Bool->Bool->Bool} (h:MBB w0 w b t) (e:∀x y,t x y=s x y):MBB w0 w b s:=⟨h.1.eq e,h.2⟩
theorem rZ {o:Oper} {a:Act} {w:World} {K:Act->World->Prop} {Q:Exit->Act->World->Prop} (w0:World) (b:Nat) (t:Bool->Bool->Bool) (x y:Bool) (h1:MBB w0 w b t) (ht:t x y=false)
  (h:∀w',MBB w0 w' b (putT t x y)->Oper.upon Tryz.prog o a K Q (.ok .skip w')):
  Oper.upon Tryz.prog o a K Q (((Instr.mapUpdate 280 (.map (some b)) (.agg #[.bool x,.bool y]) (.int .i64 1)).run Tryz.prog w).andThen fun _ w'=>.ok .skip w'):=by
 obtain⟨w',hrun,h2,h3⟩:=ux w b t x y h1.1 ht;unfold jJ at hrun;rw[hrun];exact h w' (h1.grown h2 h3)
theorem oC {ops:Array Oper} {rest:List Oper} {o:Oper} {a:Act} {w:World} {Q:Exit->Act->World->Prop} (hgd:o.guard=none) (m k:Operand)
  (ho:o.op=.call {callee:=.builtin .delete,args:=#[m,k],argTypes:=#[280,283]}) (w0:World) (b:Nat) (t:Bool->Bool->Bool) (x y:Bool) (hm:a.eval m=.map (some b)) (hk:a.eval k=.agg #[.bool x,.bool y])
  (h1:MBB w0 w b t) (h:∀w',MBB w0 w' b (Et t x y)->w.grownBy w' (some b)->wpList Tryz.prog ops Q rest (a.put o.dst (.tuple #[])) w'):wpList Tryz.prog ops Q (o::rest) a w:=by
 refine wpList_plain hgd fun K hK=>?_
 obtain⟨w',hrun,h2,h3⟩:=uy w o.type b t x y h1.1;unfold jJ at hrun;unfold Oper.wp;simp[execOp,ho,resolve,invoke,builtin,hm,hk,hrun,Result.andThen];exact hK _ _ (h w' (h1.grown h2 h3) h3)
theorem pG {ops:Array Oper} {rest:List Oper} {o:Oper} {a:Act} {w:World} {Q:Exit->Act->World->Prop} (hgd:o.guard=none) (m:Operand)
  (ho:o.op=.call {callee:=.builtin .clear,args:=#[m],argTypes:=#[280]}) (w0:World) (b:Nat) (t:Bool->Bool->Bool) (hm:a.eval m=.map (some b))
  (h1:MBB w0 w b t) (h:∀w',MBB w0 w' b (fun _ _=>false)->w.grownBy w' (some b)->wpList Tryz.prog ops Q rest (a.put o.dst (.tuple #[])) w'):wpList Tryz.prog ops Q (o::rest) a w:=by
 refine wpList_plain hgd fun K hK=>?_
 obtain⟨w',hrun,h2,h3⟩:=wP w o.type b t h1.1;unfold Oper.wp;simp[execOp,ho,resolve,invoke,builtin,hm,hrun,Result.andThen];exact hK _ _ (h w' (h1.grown h2 h3) h3)
def SB (w0 w:World) (b:Nat) (t:Bool->Bool->Bool) (g:Nat) (p q:Int):Prop:=MBB w0 w b t/\StB w g 274 #[.int .i64 p,.int .i64 q]/\b≠g
theorem SB.start {w0 w:World} {b:Nat} {t:Bool->Bool->Bool} (h:MBB w0 w b t) (p q:Int):SB w0 (w.alloc (.cells #[.int .i64 p,.int .i64 q] 274)) b t w.heap.size p q:=
 ⟨h.below ((Below.refl w.heap.size w).alloc (Nat.le_refl _) _),StB.new w _ _,Nat.ne_of_lt h.1.lt⟩
theorem SB.grown {w0 w w':World} {b g:Nat} {t s:Bool->Bool->Bool} {p q:Int} (h:SB w0 w b t g p q) (hm:MBB w0 w' b s) (hg:w.grownBy w' (some b)):Hid (SB w0 w' b s g p q):=
 ⟨hm,h.2.1.kept hg (fun e=>h.2.2 (by cases e;rfl)),h.2.2⟩
theorem SB.cell0 {w0 w:World} {b g:Nat} {t:Bool->Bool->Bool} {p q:Int} (h:SB w0 w b t g p q):w.cell? ⟨g,0,none⟩=some (.int .i64 p):=h.2.1.cell 0 rfl
theorem SB.cell1 {w0 w:World} {b g:Nat} {t:Bool->Bool->Bool} {p q:Int} (h:SB w0 w b t g p q):w.cell? ⟨g,1,none⟩=some (.int .i64 q):=h.2.1.cell 1 rfl
def CI (p q:Int) (x y:Bool):Bool:= !decide (p=0)&&(!(decide (q=1)&& !x)&& !(!decide (p=1)&&y))
theorem ug (k:Int) (w:World):
  Calls Tryz.prog 251 #[.int .i64 k] w fun e w'=>∃b,e=.returned (.map (some b))/\MBB w w' b (CI (ft k) (gI k)):=by
 have c1:=fun wx=>ku k wx
 have hPQ:Hid ((ft k=0/\gI k=0)∨((ft k=1∨ft k=2∨ft k=3)/\(gI k=1∨gI k=2))):=by
  rcases kinds k with h|h|h|h|h|h|h|⟨hk,h0,h1,h2,h3,h4,h5,h6⟩
  all_goals first|(subst h;rw[Hid];decide)|(rw[Hid];simp[ft,gI,h1,h2,h3,h4,h5,h6])
 obtain⟨p,hp⟩:=Fe (ft k)
 obtain⟨q,hq⟩:=Fe (gI k)
 simp only[<-hp,<-hq]at c1 hPQ⊢;clear hp hq;have HC:Hid (∀wx,Calls Tryz.prog 241 #[.int .i64 k] wx fun e w'=>e=.returned (.agg #[.int .i64 p,.int .i64 q])/\iO wx w'):=c1;clear c1;go_enter Tryz.func251,Tryz.ntmps251;go_upto_region 1 with fail
 go_cut [3] (fun t wx=>t=.map (some w.heap.size)/\Hid (MBB w wx w.heap.size (fun _ _=>true)))
 case first=>
  have hs:=MBB.start w;have hmm:= @run_makeMap Tryz.prog
  go_region_held3 (fun _=>True) (trivial)
   (first
    |(refine rZ w w.heap.size _ _ _ (by assumption) (by rfl) ?_;intro w1 h1))
  all_goals (go_wp2_with fail;go_meet)
  all_goals exact⟨rfl,MBB.eq (by assumption) (by intro x y;cases x<;>cases y<;>rfl)⟩
 case rest=>
  obtain⟨rfl,HM⟩:=hcut;go_wp2_with fail
  refine(HC.out _).mono ?_;rintro e w2 ⟨rfl,b2⟩;have HS:Hid (SB w (w2.alloc (.cells #[.int .i64 p,.int .i64 q] 274)) w.heap.size (fun _ _=>true) w2.heap.size p q):=SB.start (HM.out.below b2) p q;clear HM b2 HC;have hPQ':=hPQ.out;clear hPQ;rcases hPQ' with⟨rfl,rfl⟩|⟨rfl|rfl|rfl,rfl|rfl⟩
  all_goals
   (go_wp2_with (first
    |(refine oC rfl _ _ rfl w w.heap.size _ _ _ rfl rfl HS.out.1 ?_;intro w4 h4 g4;replace HS:=HS.out.grown h4 g4;have q0:=HS.out.cell0;have q1:=HS.out.cell1;clear h4 g4)
    |(refine pG rfl _ rfl w w.heap.size _ rfl HS.out.1 ?_;intro w4 h4 g4;replace HS:=HS.out.grown h4 g4;have q0:=HS.out.cell0;have q1:=HS.out.cell1;clear h4 g4))
    go_ret;exact⟨_,rfl,HS.out.1.eq (by intro x y;cases x<;>cases y<;>rfl)⟩)
theorem A5 (k:Int) (b r:Bool) (hk:kiI k=true):kC k b false r= !CI (ft k) (gI k) b r:=by
 rcases kinds k with h|h|h|h|h|h|h|⟨hn,h0,h1,h2,h3,h4,h5,h6⟩
 all_goals first|(rw[hk]at hn;cases hn)|(subst h;first|(cases b<;>cases r<;>rfl)|(exact absurd hk Fh))
theorem A6 (k:Int) (b h r:Bool) (w:World):
  Calls Tryz.prog 230 #[.int .i64 k,.bool b,.bool h,.bool r] w fun e w'=>e=.returned (.bool (kC k b h r))/\iO w w':=by
 have c1:=jw k w;have c2:=fun wx=>ug k wx
 by_cases h0:k=0
 ·have hx:kC k b h r=true:=by rw[kC,if_pos h0]
  rw[hx];subst h0;clear hx c1;cases h with
  |true=>
   clear c2;go_enter Tryz.func230,Tryz.ntmps230;go_wp2;go_ret;exact⟨rfl,Below.refl _ _⟩
  |false=>
   go_enter Tryz.func230,Tryz.ntmps230;go_wp2_with fail
   refine(c2 _).mono ?_;rintro e w2 ⟨g,rfl,hm⟩;have hl:=qv w2 g _ b r hm.1;rw[show CI (ft 0) (gI 0) b r=false from rfl,if_neg Fh]at hl;unfold jJ at hl;have HB:Hid (iO w w2):=hm.2.1;clear hm c2;go_wp2;go_ret;exact⟨rfl,HB.out⟩
 ·cases hk:kiI k with
  |false=>
   rw[Bz k b h r h0 hk];rw[hk]at c1;clear c2 hk;go_enter Tryz.func230,Tryz.ntmps230;go_wp2_with fail
   refine c1.mono ?_;rintro e w2 ⟨rfl,b2⟩;go_wp2;go_ret;exact⟨rfl,b2⟩
  |true=>
   rw[hk]at c1;cases h with
   |true=>
    rw[mayI_holds k b r hk];clear c2 hk;go_enter Tryz.func230,Tryz.ntmps230;go_wp2_with fail
    refine c1.mono ?_;rintro e w2 ⟨rfl,b2⟩;go_wp2;go_ret;exact⟨rfl,b2⟩
   |false=>
    rw[A5 k b r hk];obtain⟨t,ht⟩:=Fe (CI (ft k) (gI k))
    simp only[<-ht]at c2⊢;clear ht hk;go_enter Tryz.func230,Tryz.ntmps230;go_wp2_with fail
    refine c1.mono ?_;rintro e w2 ⟨rfl,b2⟩;have HB2:Hid (iO w w2):=b2;clear c1 b2;go_wp2_with fail
    refine(c2 _).mono ?_;rintro e w3 ⟨g,rfl,hm⟩;have hl:=qv w3 g t b r hm.1;unfold jJ at hl;have HB:Hid (iO w w3):=HB2.out.trans (hm.2.1.mono HB2.out.size);clear hm c2 HB2;cases hx:t b r with
    |false=>
     simp only[hx]at hl;go_wp2;go_ret;exact⟨af (by rw[hx];rfl),HB.out⟩
    |true=>
     simp only[hx]at hl;go_wp2;go_ret;exact⟨af (by rw[hx];rfl),HB.out⟩
def heA (f:Nat->Int) (kd ho tu:Int):Array Value:=#[.int .i64 (f 0),.int .i64 (f 1),.int .i64 (f 2),.int .i64 (f 3),.int .i64 kd,.int .i64 ho,.int .i64 tu]
def jG (f:Nat->Int) (kd ho:Int):Bool:=if kd=0 then decide (ho= -1)else if bY kd then decide (ho= -1)&&iJ f else kiI kd&&(inI ho 0 3&&decide (f ho.toNat≠0))
def d9 (f:Nat->Int) (kd ho i:Int):Bool:=(inI i 0 3&&decide (f i.toNat≠0))&&(bY kd||decide (i=ho))
theorem GK:IsS 165 7:=⟨⟨_,Tryz.underlying165⟩,by kernel_rfl⟩
theorem aY {w:World} {g:Nat} {f:Nat->Int} {kd ho tu:Int} (h:StB w g 165 (heA f kd ho tu)):
  w.cell? ⟨g,0,none⟩=some (.int .i64 (f 0))/\w.cell? ⟨g,1,none⟩=some (.int .i64 (f 1))/\w.cell? ⟨g,2,none⟩=some (.int .i64 (f 2))/\w.cell? ⟨g,3,none⟩=some (.int .i64 (f 3))/\w.cell? ⟨g,4,none⟩=some (.int .i64 kd)/\w.cell? ⟨g,5,none⟩=some (.int .i64 ho)/\w.cell? ⟨g,6,none⟩=some (.int .i64 tu):=
 ⟨h.cell 0 rfl,h.cell 1 rfl,h.cell 2 rfl,h.cell 3 rfl,h.cell 4 rfl,h.cell 5 rfl,h.cell 6 rfl⟩
theorem jQ (f:Nat->Int) (kd ho tu:Int) (w:World):
  Calls Tryz.prog 178 #[.agg (heA f kd ho tu)] w fun e w'=>e=.returned (.bool (jG f kd ho))/\iO w w':=by
 obtain⟨w1,hw1⟩:=Fe (w.alloc (.cells (heA f kd ho tu) 165))
 have HB:Hid (iO w w1):=by rw[hw1];exact Fc
 have H1:Hid (StB w1 w.heap.size 165 (heA f kd ho tu)):=by rw[hw1];exact StB.new _ _ _
 have HE:Hid (jG f kd ho=(if kd=0 then decide (ho= -1)else if bY kd then decide (ho= -1)&&iJ f else kiI kd&&(inI ho 0 3&&decide (f ho.toNat≠0)))):=rfl;obtain⟨x,hx⟩:=Fe (jG f kd ho)
 rw[<-hx]at HE⊢;clear hx;have c1:=fun wx=>lp kd wx
 have c2:=fun wx=>jw kd wx
 have c3:=fun wx=>mG f wx
 have c4:=fun wx=>ju f ho wx
 obtain⟨a1,ha1⟩:=Fe (bY kd)
 obtain⟨a2,ha2⟩:=Fe (kiI kd)
 obtain⟨a3,ha3⟩:=Fe (iJ f)
 obtain⟨a4,ha4⟩:=Fe ((inI ho 0 3&&decide (f ho.toNat≠0)))
 simp only[<-ha1,<-ha2,<-ha3,<-ha4]at c1 c2 c3 c4 HE;clear ha1 ha2 ha3 ha4;by_cases h0:kd=0
 ·clear c1 c2 c3 c4
  obtain⟨-, -, -, -,k4,k5, -⟩:=aY H1.out;have HX:Hid (x=decide (ho= -1)):=by rw[Hid,HE.out,if_pos h0]
  clear HE H1;unfold heA at*;by_cases ho1:ho= -1
  ·subst hw1
   go_enter Tryz.func178,Tryz.ntmps178;go_wp2;go_ret;exact⟨af (by rw[HX.out];simp[ho1]),by simpa[h0,ho1]using HB.out⟩
  ·have ho2:(ho== -1)=false:=by simpa using ho1
   subst hw1;go_enter Tryz.func178,Tryz.ntmps178;go_wp2;go_ret;exact⟨af (by rw[HX.out];simp[ho1]),by simpa[h0]using HB.out⟩
 ·have h0n:(kd==0)=false:=by simpa using h0
  cases a1 with
  |true=>
   have HX:Hid (x=(decide (ho= -1)&&a3)):=by rw[Hid,HE.out,if_neg h0,if_pos rfl]
   clear HE c2 c4;unfold kA at*;rw[heA]at hw1⊢;go_enter Tryz.func178,Tryz.ntmps178;go_wp2_with fail
   rw[<-hw1];refine(c1 _).mono ?_;rintro e w2 ⟨rfl,b2⟩;have HB2:Hid (iO w w2):=HB.out.trans (b2.mono HB.out.size);obtain⟨k0,k1,k2,k3,k4,k5, -⟩:=aY (H1.out.below b2);clear b2 c1 H1 HB hw1;by_cases ho1:ho= -1
   ·rw[ho1]at k5
    go_wp2_with fail
    refine(c3 _).mono ?_;rintro e w3 ⟨rfl,b3⟩;have HB3:Hid (iO w w3):=HB2.out.trans (b3.mono HB2.out.size);clear b3 c3 k0 k1 k2 k3 k4 k5;cases a3<;>
    ·go_wp2
     go_ret;exact⟨af (by rw[HX.out];simp[ho1]),HB3.out⟩
   ·have ho2:(ho== -1)=false:=by simpa using ho1
    clear c3;go_wp2;go_ret;exact⟨af (by rw[HX.out];simp[ho1]),HB2.out⟩
  |false=>
   have HX:Hid (x=(a2&&a4)):=by rw[Hid,HE.out,if_neg h0,if_neg Fh]
   clear HE c3;unfold kA at*;rw[heA]at hw1⊢;go_enter Tryz.func178,Tryz.ntmps178;go_wp2_with fail
   rw[<-hw1];refine(c1 _).mono ?_;rintro e w2 ⟨rfl,b2⟩;have HB2:Hid (iO w w2):=HB.out.trans (b2.mono HB.out.size);have H2:=H1.out.below b2;obtain⟨k0,k1,k2,k3,k4,k5, -⟩:=aY H2;have HH2:Hid (StB w2 w.heap.size 165 (heA f kd ho tu)):=H2;clear b2 c1 H1 HB hw1 H2;go_wp2_with fail
   refine(c2 _).mono ?_;rintro e w3 ⟨rfl,b3⟩;have HB3:Hid (iO w w3):=HB2.out.trans (b3.mono HB2.out.size);obtain⟨m0,m1,m2,m3,m4,m5, -⟩:=aY (HH2.out.below b3);clear b3 c2 k0 k1 k2 k3 k4 k5 HH2 HB2;cases a2 with
   |false=>
    clear c4;go_wp2;go_ret;exact⟨af (by rw[HX.out];simp),HB3.out⟩
   |true=>
    go_wp2_with fail
    refine(c4 _).mono ?_;rintro e w4 ⟨rfl,b4⟩;have HB4:Hid (iO w w4):=HB3.out.trans (b4.mono HB3.out.size);clear b4 c4 m0 m1 m2 m3 m4 m5;cases a4<;>
    ·go_wp2
     go_ret;exact⟨af (by rw[HX.out];simp),HB4.out⟩
theorem gE (f:Nat->Int) (kd ho tu i:Int) (w:World):
  Calls Tryz.prog 231 #[.agg (heA f kd ho tu),.int .i64 i] w fun e w'=>e=.returned (.bool (d9 f kd ho i))/\iO w w':=by
 obtain⟨w1,hw1⟩:=Fe (w.alloc (.cells (heA f kd ho tu) 165))
 have HB:Hid (iO w w1):=by rw[hw1];exact Fc
 have H1:Hid (StB w1 w.heap.size 165 (heA f kd ho tu)):=by rw[hw1];exact StB.new _ _ _
 have HE:Hid (d9 f kd ho i=((inI i 0 3&&decide (f i.toNat≠0))&&(bY kd||decide (i=ho)))):=rfl;obtain⟨x,hx⟩:=Fe (d9 f kd ho i)
 rw[<-hx]at HE⊢;clear hx;have c1:=fun wx=>lp kd wx
 have c4:=fun wx=>ju f i wx
 obtain⟨a1,ha1⟩:=Fe (bY kd)
 obtain⟨a4,ha4⟩:=Fe ((inI i 0 3&&decide (f i.toNat≠0)))
 simp only[<-ha1,<-ha4]at c1 c4 HE;clear ha1 ha4;unfold kA at*;rw[heA]at hw1⊢;go_enter Tryz.func231,Tryz.ntmps231;go_wp2_with fail
 rw[<-hw1];refine(c4 _).mono ?_;rintro e w2 ⟨rfl,b2⟩;have HB2:Hid (iO w w2):=HB.out.trans (b2.mono HB.out.size);have H2:Hid (StB w2 w.heap.size 165 (heA f kd ho tu)):=H1.out.below b2;obtain⟨-, -, -, -,k4,k5, -⟩:=aY H2.out;clear b2 c4 H1 HB hw1;cases a4 with
 |false=>
  clear c1;go_wp2;go_ret;exact⟨af (by rw[HE.out];simp),HB2.out⟩
 |true=>
  go_wp2_with fail
  refine(c1 _).mono ?_;rintro e w3 ⟨rfl,b3⟩;have HB3:Hid (iO w w3):=HB2.out.trans (b3.mono HB2.out.size);obtain⟨-, -, -, -,m4,m5, -⟩:=aY (H2.out.below b3);clear b3 c1 k4 k5 H2 HB2;cases a1 with
  |true=>
   go_wp2;go_ret;exact⟨af (by rw[HE.out];simp),HB3.out⟩
  |false=>
   by_cases hi:i=ho
   ·have hib:(i==ho)=true:=by simpa using hi
    go_wp2;go_ret;exact⟨af (by rw[HE.out];simp[hi]),HB3.out⟩
   ·have hib:(i==ho)=false:=by simpa using hi
    go_wp2;go_ret;exact⟨af (by rw[HE.out];simp[hi]),HB3.out⟩
theorem Cs {ks:List Int} (h:ks.length=4):iJ (KF ks)=eE ks:=by
 match ks,h with
 |[a,b,c,d],_=>simp[iJ,KF,eE,Bool.or_assoc,bne,decide_not];rfl
theorem Ct {h:Hd} (e:h.ks.length=4):jG (KF h.ks) h.kd h.ho=h.mid:=by
 unfold jG Hd.mid;rw[Cs e];unfold dT KF;simp only[Bool.and_assoc]
theorem DV {h:Hd} (e:fC h.ks=true):h.ok=(jG (KF h.ks) h.kd h.ho&&inI h.tu 0 1000000000):=by
 unfold fC at e;simp only[Bool.and_eq_true,decide_eq_true_eq]at e;rw[Ct e.1];unfold Hd.ok;rw[e.2];simp[e.1,Bool.and_comm]
theorem AQ {h:Hd} (e:fC h.ks=false):h.ok=false:=by
 unfold Hd.ok;unfold fC at e;cases h1:decide (h.ks.length=4)
 ·simp
 ·rw[h1]at e;simp at e;simp[e]
def jR (h:Hd):Array Value:=if h.ok then heA (KF h.ks) h.kd h.ho h.tu else heA (fun _=>0) 0 0 0
theorem he0:(#[.int .i64 0,.int .i64 0,.int .i64 0,.int .i64 0,.int .i64 0,.int .i64 0,.int .i64 0]:Array Value)=heA (fun _=>0) 0 0 0:=rfl
theorem bO (f:Nat->Int) (a b c:Int):(heA f a b c).all (·.oneCell')=true:=by simp[heA,Value.oneCell']
theorem fU (v:Value) (h:Hd) (w:World) (hr:ag w v h.ks) (hl:h.ks.length<=1099511627776):
  Calls Tryz.prog 145 #[HV v h] w fun e w'=>e=.returned (.tuple #[.agg (jR h),.bool h.ok])/\iO w w':=by
 obtain⟨w1,hw1⟩:=Fe ((w.alloc (.cells (hdA v h) 37)).alloc (.cells (heA (fun _=>0) 0 0 0) 165))
 have HB:Hid (iO w w1):=by rw[hw1];exact Fc.alloc Fg _
 have P1:Hid (StB w1 w.heap.size 37 (hdA v h)):=by rw[hw1];exact(StB.new _ _ _).alloc _
 have R1:Hid (StB w1 (w.heap.size+1) 165 (heA (fun _=>0) 0 0 0)):=by
  rw[hw1];have:=StB.new (w.alloc (.cells (hdA v h) 37)) 165 (heA (fun _=>0) 0 0 0)
  rwa[World.size_alloc]at this
 have c1:=tL v h.ks w1 (hr.below HB.out (Nat.le_refl _)) hl;have c2:∀f wx,_:=fun f wx=>jQ f h.kd h.ho h.tu wx
 have c3:=fun wx=>tJ h.tu wx
 have hs1:w.heap.size+1<w1.heap.size:=R1.out.lt;have F4:Hid (fC h.ks=true->h.ok=(jG (mH h.ks) h.kd h.ho&&inI h.tu 0 1000000000)):=fun e=>by rw[DV e,lR e]
 have F5:Hid (fC h.ks=true->h.ok=true->jR h=heA (mH h.ks) h.kd h.ho h.tu):=fun e e2=>by rw[jR,e2,lR e];rfl
 have F6:Hid (h.ok=false->jR h=heA (fun _=>0) 0 0 0):=fun e=>by rw[jR,e];rfl
 have F3:Hid (fC h.ks=false->h.ok=false):=AQ;obtain⟨ao,cap,rfl⟩:=aa hr;obtain⟨rk,hrk⟩:=Fe (fC h.ks)
 obtain⟨ok,hok⟩:=Fe h.ok
 obtain⟨hv,hhv⟩:=Fe (jR h)
 rw[<-hrk]at c1 F3 F4 F5;rw[<-hok]at F3 F4 F5 F6⊢;rw[<-hhv]at F5 F6⊢;clear hrk hr hl hok hhv;unfold HV;rw[hdA,heA]at hw1;rw[hdA];obtain⟨f,hf⟩:=Fe (mH h.ks)
 rw[<-hf]at c1 F4 F5;clear hf;have p0:w1.cell? ⟨w.heap.size,0,none⟩=some (.slice ao h.ks.length cap):=P1.out.cell 0 rfl;have C2:Hid _:=c2;have C3:Hid _:=c3;clear c2 c3;go_enter Tryz.func145,Tryz.ntmps145;go_wp2_with fail
 rw[<-hw1];refine c1.mono ?_;rintro e w2 ⟨rfl,b2⟩;have HB2:Hid (iO w w2):=HB.out.trans (b2.mono HB.out.size);have P2:Hid (StB w2 w.heap.size 37 (hdA (.slice ao h.ks.length cap) h)):=P1.out.below b2;have R2:Hid (StB w2 (w.heap.size+1) 165 (heA (fun _=>0) 0 0 0)):=R1.out.below b2;have s2:w.heap.size+1<w2.heap.size:=R2.out.lt;have z2:StB (w2.alloc (.cells (kA fun _=>0) 163)) w2.heap.size 163 (kA fun _=>0):=StB.new _ _ _;clear b2 c1 P1 R1 HB hw1 p0 hs1;go_upto_region 2 with(first|(refine hX rfl _ _ rfl w2.heap.size f rfl rfl _ z2 ?_;intro w3 h3 g3))
 have HB3:Hid (iO w w3):=HB2.out.trans ((Fc |>.grown g3 Fg (fun k e=>by cases e;exact Nat.le_refl _)).mono HB2.out.size);have b23:iO w2 w3:=Fc |>.grown g3 Fg (fun k e=>by cases e;exact Nat.le_refl _)
 have P3:Hid (StB w3 w.heap.size 37 (hdA (.slice ao h.ks.length cap) h)):=P2.out.below b23;have R3:Hid (StB w3 (w.heap.size+1) 165 (heA (fun _=>0) 0 0 0)):=R2.out.below b23;have K3:=h3;have z3:StB (w3.alloc (.cells (heA (fun _=>0) 0 0 0) 165)) w3.heap.size 165 (heA (fun _=>0) 0 0 0):=StB.new _ _ _;have p1:w3.cell? ⟨w.heap.size,1,none⟩=some (.int .i64 h.kd):=P3.out.cell 1 rfl;have p2:w3.cell? ⟨w.heap.size,2,none⟩=some (.int .i64 h.ho):=P3.out.cell 2 rfl;have p3:w3.cell? ⟨w.heap.size,3,none⟩=some (.int .i64 h.tu):=P3.out.cell 3 rfl;have s3:=R3.out.lt;clear b23 g3 h3 P2 R2 HB2 z2;have k0:w3.cell? ⟨w2.heap.size,0,none⟩=some (.int .i64 (f 0)):=K3.cell 0 rfl;have k1:w3.cell? ⟨w2.heap.size,1,none⟩=some (.int .i64 (f 1)):=K3.cell 1 rfl;have k2:w3.cell? ⟨w2.heap.size,2,none⟩=some (.int .i64 (f 2)):=K3.cell 2 rfl;have k3:w3.cell? ⟨w2.heap.size,3,none⟩=some (.int .i64 (f 3)):=K3.cell 3 rfl;have HK3:Hid _:=K3;have Z3:Hid _:=z3;clear K3 z3;go_upto_region 3 with(first|(refine ae GK rfl _ _ rfl w3.heap.size (heA f h.kd h.ho h.tu) _ rfl rfl rfl rfl (bO _ _ _ _) Z3.out ?_;intro w4 h4 g4))
 have b34:iO w3 w4:=Fc |>.grown g4 Fg (fun k e=>by cases e;exact Nat.le_refl _)
 have HB4:Hid (iO w w4):=HB3.out.trans (b34.mono HB3.out.size);have R4:Hid (StB w4 (w.heap.size+1) 165 (heA (fun _=>0) 0 0 0)):=R3.out.below b34;have H4:Hid (StB w4 w3.heap.size 165 (heA f h.kd h.ho h.tu)):=h4;obtain⟨m0,m1,m2,m3,m4,m5,m6⟩:=aY h4;obtain⟨g,hg⟩:=Fe w3.heap.size
 have HG:Hid (w.heap.size+1<g):=by rw[hg];exact s3
 rw[<-hg]at m0 m1 m2 m3 m4 m5 m6 H4⊢;clear hg b34 g4 h4 HB3 R3 P3 p1 p2 p3 k0 k1 k2 k3 HK3 Z3 s2 s3;cases rk with
 |false=>
  have E:=F3.out rfl;subst E;have E2:=F6.out rfl;subst E2;clear F3 F4 F5 F6 C2 C3 m0 m1 m2 m3 m4 m5 m6;go_wp2_with (first|(refine ae GK rfl _ _ rfl (w.heap.size+1) (heA (fun _=>0) 0 0 0) _ rfl rfl rfl rfl (bO _ _ _ _) R4.out ?_;intro w5 h5 g5))
  refine bodyPost_ret (bI GK rfl _ _ (w.heap.size+1) _ _ rfl rfl rfl h5) rfl ?_;exact⟨rfl,HB4.out.grown g5 HB4.out.size (fun k e=>by cases e;omega)⟩
 |true=>
  have G4:Hid _:=F4.out rfl;have G5:Hid _:=F5.out rfl;obtain⟨a,ha⟩:=Fe (jG f h.kd h.ho)
  obtain⟨b,hb⟩:=Fe (inI h.tu 0 1000000000)
  have c2:=C2.out f w4;have c3:=C3.out;rw[<-ha]at c2 G4;simp only[<-hb]at c3 G4;clear ha hb F3 F4 F5 C2 C3;unfold heA at c2;go_wp2_with fail
  refine c2.mono ?_;rintro e w5 ⟨rfl,b5⟩;have HB5:Hid (iO w w5):=HB4.out.trans (b5.mono HB4.out.size);have R5:Hid (StB w5 (w.heap.size+1) 165 (heA (fun _=>0) 0 0 0)):=R4.out.below b5;have H5:Hid (StB w5 g 165 (heA f h.kd h.ho h.tu)):=H4.out.below b5;obtain⟨-, -, -, -, -, -,n6⟩:=aY H5.out;clear m0 m1 m2 m3 m4 m5 m6 HB4 R4 H4 b5 c2;cases a with
  |false=>
   have E:ok=false:=by rw[G4.out];rfl
   subst E;have E2:=F6.out rfl;subst E2;clear G4 G5 F6 c3 n6;go_wp2_with (first|(refine ae GK rfl _ _ rfl (w.heap.size+1) (heA (fun _=>0) 0 0 0) _ rfl rfl rfl rfl (bO _ _ _ _) R5.out ?_;intro w6 h6 g6))
   refine bodyPost_ret (bI GK rfl _ _ (w.heap.size+1) _ _ rfl rfl rfl h6) rfl ?_;exact⟨rfl,HB5.out.grown g6 HB5.out.size (fun k e=>by cases e;omega)⟩
  |true=>
   cases b with
   |false=>
    have E:ok=false:=by rw[G4.out];rfl
    subst E;have E2:=F6.out rfl;subst E2;clear G4 G5 F6;go_wp2_with (first|(go_at_call 179;refine Fd (c3 _) ?_)|(refine ae GK rfl _ _ rfl (w.heap.size+1) (heA (fun _=>0) 0 0 0) _ rfl rfl rfl rfl (bO _ _ _ _) R5.out ?_;intro w6 h6 g6))
    refine bodyPost_ret (bI GK rfl _ _ (w.heap.size+1) _ _ rfl rfl rfl h6) rfl ?_;exact⟨rfl,HB5.out.grown g6 HB5.out.size (fun k e=>by cases e;omega)⟩
   |true=>
    have E:ok=true:=by rw[G4.out];rfl
    subst E;have E2:=G5.out rfl;subst E2;clear G4 G5 F6;go_wp2_with (first|(go_at_call 179;refine Fd (c3 _) ?_)|(refine ah GK rfl _ rfl g rfl _ rfl H5.out ?_)|(refine ae GK rfl _ _ rfl (w.heap.size+1) (heA f h.kd h.ho h.tu) _ rfl rfl rfl rfl (bO _ _ _ _) R5.out ?_;intro w6 h6 g6))
    refine bodyPost_ret (bI GK rfl _ _ (w.heap.size+1) _ _ rfl rfl rfl h6) rfl ?_;exact⟨rfl,HB5.out.grown g6 HB5.out.size (fun k e=>by cases e;omega)⟩
theorem gF (h:Hd):∃f a b c,jR h=heA f a b c/\(h.ok=true->f=KF h.ks/\a=h.kd/\b=h.ho/\c=h.tu):=by
 unfold jR;cases h.ok
 ·exact⟨fun _=>0,0,0,0,rfl,fun e=>by cases e⟩
 ·exact⟨_,_,_,_,rfl,fun _=>⟨rfl,rfl,rfl,rfl⟩⟩
theorem tG (v:Value) (h:Hd) (w:World) (hr:ag w v h.ks) (hl:h.ks.length<=1099511627776):
  Calls Tryz.prog 104 #[HV v h] w fun e w'=>e=.returned (.bool h.ok)/\iO w w':=by
 have b1:iO w (w.alloc (.cells (hdA v h) 37)):=Fc;have c1:=fU v h _ (hr.below b1 (Nat.le_refl _)) hl;obtain⟨ao,cap,rfl⟩:=aa hr;obtain⟨ok,hok⟩:=Fe h.ok
 obtain⟨f,x,y,z,hf,hfo⟩:=gF h;rw[<-hok]at c1⊢;rw[hf]at c1;clear hok hf hfo hr hl;unfold HV hdA at*;go_enter Tryz.func104,Tryz.ntmps104;go_wp2_with fail
 refine c1.mono ?_;rintro e w2 ⟨rfl,b2⟩;have HB2:Hid (iO w w2):=b1.trans (b2.mono b1.size);have z2:Hid (StB (w2.alloc (.cells (heA (fun _=>0) 0 0 0) 165)) w2.heap.size 165 (heA (fun _=>0) 0 0 0)):=StB.new _ _ _;clear c1 b1 b2;go_wp2_with (first|(refine ae GK rfl _ _ rfl w2.heap.size (heA f x y z) _ rfl rfl rfl rfl (bO _ _ _ _) z2.out ?_;intro w3 h3 g3))
 go_ret;exact⟨rfl,HB2.out.trans ((Fc |>.grown g3 Fg (fun k e=>by cases e;exact Nat.le_refl _)).mono HB2.out.size)⟩
theorem mN (v:Value) (h:Hd) (w:World) (hr:ag w v h.ks) (h1:1<=h.ks.length) (hl:h.ks.length<=1099511627776):
  Calls Tryz.prog 112 #[HV v h] w fun e w'=>∃u,e=.returned (HV u h)/\Own w' w.heap.size u h.ks/\iO w w':=by
 obtain⟨ao,cap,rfl⟩:=aa hr;obtain⟨w1,hw1⟩:=Fe ((w.alloc (.cells (hdA (.slice ao h.ks.length cap) h) 37)).alloc (.cells #[.slice none 0 0,.int .i64 0,.int .i64 0,.int .i64 0] 37))
 have HB:Hid (Bx w w1 (.slice ao h.ks.length cap) h):=by rw[hw1];exact Bx.start hr
 have c1:=jt (.slice ao h.ks.length cap) h.ks w1 HB.out.2.2.2.2 h1 hl;have HW:Hid (w1=(w.alloc (.cells #[.slice ao h.ks.length cap,.int .i64 h.kd,.int .i64 h.ho,.int .i64 h.tu] 37)).alloc (.cells #[.slice none 0 0,.int .i64 0,.int .i64 0,.int .i64 0] 37)):=hw1;clear hw1 hr hl h1;unfold HV;conv in hdA (.slice ao h.ks.length cap) h=>unfold hdA
 go_enter Tryz.func112,Tryz.ntmps112;go_wp2_with fail
 rw[<-HW.out];clear HW;refine c1.mono ?_;rintro e w2 ⟨u,rfl,o2,b2⟩;have D2:Bx w w2 (.slice ao h.ks.length cap) h:=HB.out.next b2;obtain⟨ab,cb,rfl⟩:=aa o2.reads;have k0:w2.cell? ⟨w.heap.size,0,none⟩=some (.slice ao h.ks.length cap):=D2.1.cell 0 rfl;have f0:=D2.1.frozen 0;have G:=ai w2 w.heap.size 0 (.slice ab h.ks.length cb);have zq:StB (w2.setCell ⟨w.heap.size,0,none⟩ (.slice ab h.ks.length cb)) w.heap.size 37 (hdA (.slice ab h.ks.length cb) h):=D2.1.put 0 _ rfl;have zz:StB (w2.setCell ⟨w.heap.size,0,none⟩ (.slice ab h.ks.length cb)) (w.heap.size+1) 37 #[.slice none 0 0,.int .i64 0,.int .i64 0,.int .i64 0]:=D2.2.1.kept G (by intro e;have:=Option.some.inj e;omega);have HF:Hid (Own (w2.setCell ⟨w.heap.size,0,none⟩ (.slice ab h.ks.length cb)) w1.heap.size (.slice ab h.ks.length cb) h.ks/\iO w (w2.setCell ⟨w.heap.size,0,none⟩ (.slice ab h.ks.length cb))/\w.heap.size+2<=w1.heap.size):=by
  refine⟨o2.keptLt G (by have:=HB.out.2.2.2.1;omega),D2.2.2.1.setCell (Nat.le_refl _) _,HB.out.2.2.2.1⟩
 clear D2 G o2 b2 HB c1;go_wp2_with (first|(refine ah GJ rfl _ rfl w.heap.size rfl (hdA (.slice ab h.ks.length cb) h) rfl zq ?_)|(refine ae GJ rfl _ _ rfl (w.heap.size+1) (hdA (.slice ab h.ks.length cb) h) #[.slice none 0 0,.int .i64 0,.int .i64 0,.int .i64 0] rfl rfl rfl rfl (dB _ rfl) zz ?_;intro we se ge))
 refine bodyPost_ret (aj GJ rfl _ _ (w.heap.size+1) _ rfl rfl se) rfl ?_;exact⟨_,rfl,(HF.out.1.keptLt ge (by have:=HF.out.2.2;omega)).mono (by have:=HF.out.2.2;omega),HF.out.2.1.grown ge HF.out.2.1.size (fun x e=>by cases e;omega)⟩
theorem gj (u v q:Value) (xs ys:List Int) (h:Hd) (w:World) (hu:ag w u xs) (hv:ag w v ys) (hq:ag w q h.ks) (gx:xs.length<=1099511627776) (gy:ys.length<=1099511627776) (gk:h.ks.length<=1099511627776):
  Calls Tryz.prog 63 #[SRV u v q h] w fun e w'=>e=.returned (.bool (Sr.ok ⟨xs,ys,h⟩))/\iO w w':=by
 have B1:Hid (iO w (w.alloc (.cells (srA u v q h) 96))):=Fc;have P1:Hid (StB (w.alloc (.cells (srA u v q h) 96)) w.heap.size 96 (srA u v q h)):=StB.new _ _ _;have c1:=iG u v xs ys _ (hu.below B1.out (Nat.le_refl _)) (hv.below B1.out (Nat.le_refl _)) gx gy;have c2:Hid (∀wx,iO w wx->Calls Tryz.prog 104 #[HV q h] wx fun e w'=>e=.returned (.bool h.ok)/\iO wx w'):=fun wx b=>tG q h wx (hq.below b (Nat.le_refl _)) gk
 have HE:Hid (Sr.ok ⟨xs,ys,h⟩=(au xs ys&&h.ok)):=rfl;obtain⟨r,hr⟩:=Fe (Sr.ok ⟨xs,ys,h⟩)
 rw[<-hr]at HE⊢;obtain⟨b,hb⟩:=Fe (au xs ys)
 obtain⟨o,ho⟩:=Fe h.ok
 rw[<-hb,<-ho]at HE;rw[<-hb]at c1;rw[<-ho]at c2;obtain⟨uo,uc,rfl⟩:=aa hu;obtain⟨vo,vc,rfl⟩:=aa hv;obtain⟨qo,qc,rfl⟩:=aa hq;clear hu hv hq gx gy gk hr hb ho;unfold SRV srA at*;unfold HV hdA at c2;go_enter Tryz.func63,Tryz.ntmps63;go_wp2_with fail
 refine c1.mono ?_;rintro e w2 ⟨rfl,b2⟩;have B2:Hid (iO w w2):=B1.out.trans (b2.mono B1.out.size);have P2:=P1.out.below b2;have k2:=P2.cell 2 rfl;have k3:=P2.cell 3 rfl;have k4:=P2.cell 4 rfl;have k5:=P2.cell 5 rfl;clear b2 c1 B1 P1 P2;cases b with
 |false=>
  go_wp2;go_ret;exact⟨af (by rw[HE.out];rfl),B2.out⟩
 |true=>
  go_wp2_with fail
  refine(c2.out _ B2.out).mono ?_;rintro e w3 ⟨rfl,b3⟩;have B3:Hid (iO w w3):=B2.out.trans (b3.mono B2.out.size);clear b3 k2 k3 k4 k5 c2;go_wp2;go_ret;exact⟨af (by rw[HE.out];simp),B3.out⟩
theorem vK (l:Bs) (w:World) (hl:l.length<=1048576):
  Calls Tryz.prog 244 #[S l] w fun e w'=>e=.returned (.int .i64 (chk l))/\w'=w:=by
 have hsz:(⟨l.toArray⟩:ByteArray).size=l.length:=rfl;unfold S;go_enter Tryz.func244,Tryz.ntmps244;go_wp2;go_loop [3,7] (fun h i=>∃j:Nat,j<=l.length/\i=.int .i64 j/\∃x:Int,h=.int .i64 x/\0<=x/\x<999983/\Hid (x=chk (l.take j))) (fun _ i=>l.length-(intOf i).toNat)
 case atStart=>exact⟨0,Nat.zero_le _,rfl,19,rfl,by omega,by omega,by simp[Hid,chk]⟩
 case round=>
  obtain⟨j,hj,rfl,x,rfl,hx0,hx1,HX⟩:=hrel;by_cases hlt:(j:Int)<(l.length:Int)
  ·go_wp2
   go_round
   case rel=>
    have h1:j<l.length:=by omega
    have h2:=kD (l.take (j+1));have h3:=vn l j h1;rw[<-HX.out]at h3;exact⟨j+1,by omega,by go_num,_,congrArg (Value.int .i64) h3,h2.1,h2.2,rfl⟩
   case measure=>simp[intOf];omega
  ·go_wp2
   go_ret;have e:j=l.length:=by omega
   have:=HX.out;rw[e,List.take_length]at this;exact⟨cZ this,rfl⟩
end Go.Proofs.YthldeiojlllkdaaGreatDoor
namespace Go.Proofs
open Go.Shelf
def Tryz.lays156_ren:Go.Shelf.Ren:=⟨fun|156=>116|165=>152|166=>153|169=>154|240=>192|241=>193|276=>228|277=>229|n=>n,fun|31=>115|9=>9|3=>3|4=>4|0=>0|20=>20|72=>175|76=>177|70=>173|37=>120|75=>135|127=>172|164=>224|5=>5|80=>179|n=>n,fun|n=>n⟩
theorem Tryz.lays156:Go.Proofs.Lays.n156 Tryz.prog Tryz.lays156_ren:={
 mixed:=by kernel_rfl
 f156:=Tryz.func116.trans (congrArg some (by kernel_rfl))
 f165:=Tryz.func152.trans (congrArg some (by kernel_rfl))
 f166:=Tryz.func153.trans (congrArg some (by kernel_rfl))
 f169:=Tryz.func154.trans (congrArg some (by kernel_rfl))
 f240:=Tryz.func192.trans (congrArg some (by kernel_rfl))
 f241:=Tryz.func193.trans (congrArg some (by kernel_rfl))
 f276:=Tryz.func228.trans (congrArg some (by kernel_rfl))
 f277:=Tryz.func229.trans (congrArg some (by kernel_rfl))
 t0:=Tryz.underlying0
 a0:=Tryz.isAgg0
 z0:=Tryz.sizeOf0
 v0:=Tryz.zeroValue0
 t3:=Tryz.underlying3
 a3:=Tryz.isAgg3
 z3:=Tryz.sizeOf3
 v3:=Tryz.zeroValue3
 t4:=Tryz.underlying4
 a4:=Tryz.isAgg4
 z4:=Tryz.sizeOf4
 v4:=Tryz.zeroValue4
 t9:=Tryz.underlying9
 a9:=Tryz.isAgg9
 z9:=Tryz.sizeOf9
 v9:=Tryz.zeroValue9
 t20:=Tryz.underlying20
 a20:=Tryz.isAgg20
 z20:=Tryz.sizeOf20
 v20:=Tryz.zeroValue20
 t31:=Tryz.underlying115
 a31:=Tryz.isAgg115
 z31:=Tryz.sizeOf115
 v31:=Tryz.zeroValue115
 t37:=Tryz.underlying120
 a37:=Tryz.isAgg120
 z37:=Tryz.sizeOf120
 v37:=Tryz.zeroValue120
 t70:=Tryz.underlying173
 a70:=Tryz.isAgg173
 z70:=Tryz.sizeOf173
 v70:=Tryz.zeroValue173
 t72:=Tryz.underlying175
 a72:=Tryz.isAgg175
 z72:=Tryz.sizeOf175
 v72:=Tryz.zeroValue175
 t75:=Tryz.underlying135
 a75:=Tryz.isAgg135
 z75:=Tryz.sizeOf135
 v75:=Tryz.zeroValue135
 t76:=Tryz.underlying177
 a76:=Tryz.isAgg177
 z76:=Tryz.sizeOf177
 v76:=Tryz.zeroValue177
 t127:=Tryz.underlying172
 a127:=Tryz.isAgg172
 z127:=Tryz.sizeOf172
 v127:=Tryz.zeroValue172
 t164:=Tryz.underlying224
 a164:=Tryz.isAgg224
 z164:=Tryz.sizeOf224
 v164:=Tryz.zeroValue224}
theorem Tryz.Builder_Extra_156:Builder.Extra Tryz.prog Tryz.lays156_ren:={
 sizeBuilder:=by kernel_rfl
 liesBuilder:=by kernel_rfl
 t5:=Tryz.underlying5
 a5:=Tryz.isAgg5
 z5:=Tryz.sizeOf5
 v5:=Tryz.zeroValue5
 infoByte:=by kernel_rfl
 cellsByte:=by kernel_rfl
 sizeByte:=by kernel_rfl
 neB5:=by decide}
open Go.RowKit in
theorem Tryz.strings_Join (bk o c:Nat) (xs:List ByteArray) (sep:ByteArray) (w:World) (hcells:∀(j:Nat) x,xs[j]?=some x->w.cell? ⟨bk,o+j,none⟩=some (.string x)) (hbk:bk<w.heap.size) (hN:xs.length<=140737488355328) (hcap:xs.length<=c) (hlen:(Lib.join (xs.map (·.data.toList)) sep.data.toList).length<=140737488355328):
  Calls Tryz.prog 116 #[.slice (some ⟨bk,o,none⟩) xs.length c,.string sep] w fun e w'=>e=.returned (.string ⟨(Lib.join (xs.map (·.data.toList)) sep.data.toList).toArray⟩)/\Below w.heap.size w w':=Any.strings_Join Tryz.lays156 Tryz.Builder_Extra_156 bk o c xs sep w hcells hbk hN hcap hlen
def Tryz.laysM171_ren:Go.Shelf.Ren:=⟨fun|171=>243|243=>257|246=>151|283=>188|284=>189|285=>190|286=>191|129=>224|317=>223|318=>225|319=>226|320=>227|337=>249|338=>250|n=>n,fun|3=>3|9=>9|2=>2|4=>4|171=>210|0=>0|53=>211|37=>120|5=>5|173=>214|212=>243|51=>244|20=>20|213=>245|46=>129|232=>302|233=>303|n=>n,fun|17=>5|18=>7|19=>8|n=>n⟩
theorem Tryz.laysM171:Go.Proofs.LaysM.n171 Tryz.prog Tryz.laysM171_ren:={
 mixed:=by kernel_rfl
 f129:=Tryz.func224.trans (congrArg some (by kernel_rfl))
 f171:=Tryz.func243.trans (congrArg some (by kernel_rfl))
 f243:=Tryz.func257.trans (congrArg some (by kernel_rfl))
 f246:=Tryz.func151.trans (congrArg some (by kernel_rfl))
 f283:=Tryz.func188.trans (congrArg some (by kernel_rfl))
 f284:=Tryz.func189.trans (congrArg some (by kernel_rfl))
 f285:=Tryz.func190.trans (congrArg some (by kernel_rfl))
 f286:=Tryz.func191.trans (congrArg some (by kernel_rfl))
 f317:=Tryz.func223.trans (congrArg some (by kernel_rfl))
 f318:=Tryz.func225.trans (congrArg some (by kernel_rfl))
 f319:=Tryz.func226.trans (congrArg some (by kernel_rfl))
 f320:=Tryz.func227.trans (congrArg some (by kernel_rfl))
 f337:=Tryz.func249.trans (congrArg some (by kernel_rfl))
 f338:=Tryz.func250.trans (congrArg some (by kernel_rfl))
 t0:=Tryz.underlying0
 a0:=Tryz.isAgg0
 z0:=Tryz.sizeOf0
 v0:=Tryz.zeroValue0
 t2:=Tryz.underlying2
 a2:=Tryz.isAgg2
 z2:=Tryz.sizeOf2
 v2:=Tryz.zeroValue2
 t3:=Tryz.underlying3
 a3:=Tryz.isAgg3
 z3:=Tryz.sizeOf3
 v3:=Tryz.zeroValue3
 t4:=Tryz.underlying4
 a4:=Tryz.isAgg4
 z4:=Tryz.sizeOf4
 v4:=Tryz.zeroValue4
 t5:=Tryz.underlying5
 a5:=Tryz.isAgg5
 z5:=Tryz.sizeOf5
 v5:=Tryz.zeroValue5
 t9:=Tryz.underlying9
 a9:=Tryz.isAgg9
 z9:=Tryz.sizeOf9
 v9:=Tryz.zeroValue9
 t20:=Tryz.underlying20
 a20:=Tryz.isAgg20
 z20:=Tryz.sizeOf20
 v20:=Tryz.zeroValue20
 t37:=Tryz.underlying120
 a37:=Tryz.isAgg120
 z37:=Tryz.sizeOf120
 v37:=Tryz.zeroValue120
 t46:=Tryz.underlying129
 a46:=Tryz.isAgg129
 z46:=Tryz.sizeOf129
 v46:=Tryz.zeroValue129
 t51:=Tryz.underlying244
 a51:=Tryz.isAgg244
 z51:=Tryz.sizeOf244
 v51:=Tryz.zeroValue244
 t53:=Tryz.underlying211
 a53:=Tryz.isAgg211
 z53:=Tryz.sizeOf211
 v53:=Tryz.zeroValue211
 t171:=Tryz.underlying210
 a171:=Tryz.isAgg210
 z171:=Tryz.sizeOf210
 v171:=Tryz.zeroValue210
 t173:=Tryz.underlying214
 a173:=Tryz.isAgg214
 z173:=Tryz.sizeOf214
 v173:=Tryz.zeroValue214
 t212:=Tryz.underlying243
 a212:=Tryz.isAgg243
 z212:=Tryz.sizeOf243
 v212:=Tryz.zeroValue243
 t213:=Tryz.underlying245
 a213:=Tryz.isAgg245
 z213:=Tryz.sizeOf245
 t232:=Tryz.underlying302
 a232:=Tryz.isAgg302
 z232:=Tryz.sizeOf302
 v232:=Tryz.zeroValue302
 t233:=Tryz.underlying303
 a233:=Tryz.isAgg303
 z233:=Tryz.sizeOf303
 v233:=Tryz.zeroValue303
 g17:=by kernel_rfl
 g18:=by kernel_rfl
 g19:=by kernel_rfl
 i0:=by kernel_rfl
 i2:=by kernel_rfl
 i3:=by kernel_rfl
 i4:=by kernel_rfl
 i5:=by kernel_rfl
 i9:=by kernel_rfl
 i20:=by kernel_rfl
 i37:=by kernel_rfl
 i46:=by kernel_rfl
 i51:=by kernel_rfl
 i53:=by kernel_rfl
 i171:=by kernel_rfl
 i173:=by kernel_rfl
 i212:=by kernel_rfl
 i232:=by kernel_rfl
 i233:=by kernel_rfl
 m17:=by kernel_rfl
 m18:=by kernel_rfl
 m19:=by kernel_rfl}
open Go.RowKit Go.Sort Go.Lib in
theorem Tryz.strconv_Itoa (n:Int) (h0: -9223372036854775808<=n) (h1:n<=9223372036854775807) (w:World) (htab:Lib.TabIs Tryz.prog w "internal/strconv.uint64pow10" .u64 Lib.pow10Tab):
  Calls Tryz.prog 243 #[.int .i64 n] w fun e w'=>e=.returned (.string ⟨(Lib.itoa n).toArray⟩)/\∃k os,w'=grow (w.drewN k) os:=Any.strconv_Itoa Tryz.laysM171 n h0 h1 w htab
def Tryz.laysM173_ren:Go.Shelf.Ren:=⟨fun|173=>115|246=>151|283=>188|284=>189|285=>190|286=>191|129=>224|317=>223|318=>225|319=>226|320=>227|337=>249|338=>250|n=>n,fun|2=>2|3=>3|9=>9|4=>4|171=>210|0=>0|53=>211|37=>120|5=>5|173=>214|212=>243|51=>244|20=>20|213=>245|46=>129|232=>302|233=>303|n=>n,fun|17=>5|18=>7|19=>8|n=>n⟩
theorem Tryz.laysM173:Go.Proofs.LaysM.n173 Tryz.prog Tryz.laysM173_ren:={
 mixed:=by kernel_rfl
 f129:=Tryz.func224.trans (congrArg some (by kernel_rfl))
 f173:=Tryz.func115.trans (congrArg some (by kernel_rfl))
 f246:=Tryz.func151.trans (congrArg some (by kernel_rfl))
 f283:=Tryz.func188.trans (congrArg some (by kernel_rfl))
 f284:=Tryz.func189.trans (congrArg some (by kernel_rfl))
 f285:=Tryz.func190.trans (congrArg some (by kernel_rfl))
 f286:=Tryz.func191.trans (congrArg some (by kernel_rfl))
 f317:=Tryz.func223.trans (congrArg some (by kernel_rfl))
 f318:=Tryz.func225.trans (congrArg some (by kernel_rfl))
 f319:=Tryz.func226.trans (congrArg some (by kernel_rfl))
 f320:=Tryz.func227.trans (congrArg some (by kernel_rfl))
 f337:=Tryz.func249.trans (congrArg some (by kernel_rfl))
 f338:=Tryz.func250.trans (congrArg some (by kernel_rfl))
 t0:=Tryz.underlying0
 a0:=Tryz.isAgg0
 z0:=Tryz.sizeOf0
 v0:=Tryz.zeroValue0
 t2:=Tryz.underlying2
 a2:=Tryz.isAgg2
 z2:=Tryz.sizeOf2
 v2:=Tryz.zeroValue2
 t3:=Tryz.underlying3
 a3:=Tryz.isAgg3
 z3:=Tryz.sizeOf3
 v3:=Tryz.zeroValue3
 t4:=Tryz.underlying4
 a4:=Tryz.isAgg4
 z4:=Tryz.sizeOf4
 v4:=Tryz.zeroValue4
 t5:=Tryz.underlying5
 a5:=Tryz.isAgg5
 z5:=Tryz.sizeOf5
 v5:=Tryz.zeroValue5
 t9:=Tryz.underlying9
 a9:=Tryz.isAgg9
 z9:=Tryz.sizeOf9
 v9:=Tryz.zeroValue9
 t20:=Tryz.underlying20
 a20:=Tryz.isAgg20
 z20:=Tryz.sizeOf20
 v20:=Tryz.zeroValue20
 t37:=Tryz.underlying120
 a37:=Tryz.isAgg120
 z37:=Tryz.sizeOf120
 v37:=Tryz.zeroValue120
 t46:=Tryz.underlying129
 a46:=Tryz.isAgg129
 z46:=Tryz.sizeOf129
 v46:=Tryz.zeroValue129
 t51:=Tryz.underlying244
 a51:=Tryz.isAgg244
 z51:=Tryz.sizeOf244
 v51:=Tryz.zeroValue244
 t53:=Tryz.underlying211
 a53:=Tryz.isAgg211
 z53:=Tryz.sizeOf211
 v53:=Tryz.zeroValue211
 t171:=Tryz.underlying210
 a171:=Tryz.isAgg210
 z171:=Tryz.sizeOf210
 v171:=Tryz.zeroValue210
 t173:=Tryz.underlying214
 a173:=Tryz.isAgg214
 z173:=Tryz.sizeOf214
 v173:=Tryz.zeroValue214
 t212:=Tryz.underlying243
 a212:=Tryz.isAgg243
 z212:=Tryz.sizeOf243
 v212:=Tryz.zeroValue243
 t213:=Tryz.underlying245
 a213:=Tryz.isAgg245
 z213:=Tryz.sizeOf245
 t232:=Tryz.underlying302
 a232:=Tryz.isAgg302
 z232:=Tryz.sizeOf302
 v232:=Tryz.zeroValue302
 t233:=Tryz.underlying303
 a233:=Tryz.isAgg303
 z233:=Tryz.sizeOf303
 v233:=Tryz.zeroValue303
 g17:=by kernel_rfl
 g18:=by kernel_rfl
 g19:=by kernel_rfl
 i0:=by kernel_rfl
 i2:=by kernel_rfl
 i3:=by kernel_rfl
 i4:=by kernel_rfl
 i5:=by kernel_rfl
 i9:=by kernel_rfl
 i20:=by kernel_rfl
 i37:=by kernel_rfl
 i46:=by kernel_rfl
 i51:=by kernel_rfl
 i53:=by kernel_rfl
 i171:=by kernel_rfl
 i173:=by kernel_rfl
 i212:=by kernel_rfl
 i232:=by kernel_rfl
 i233:=by kernel_rfl
 m17:=by kernel_rfl
 m18:=by kernel_rfl
 m19:=by kernel_rfl}
open Go.RowKit Go.Sort Go.Lib in
theorem Tryz.strconv_FormatInt_10 (n:Int) (h0: -9223372036854775808<=n) (h1:n<=9223372036854775807) (w:World) (htab:Lib.TabIs Tryz.prog w "internal/strconv.uint64pow10" .u64 Lib.pow10Tab):
  Calls Tryz.prog 115 #[.int .i64 n,.int .i64 10] w fun e w'=>e=.returned (.string ⟨(Lib.itoa n).toArray⟩)/\∃k os,w'=grow (w.drewN k) os:=Any.strconv_FormatInt_10 Tryz.laysM173 n h0 h1 w htab
def Tryz.laysM316_ren:Go.Shelf.Ren:=⟨fun|316=>113|n=>n,fun|9=>9|3=>3|4=>4|37=>120|0=>0|127=>172|5=>5|n=>n,fun|n=>n⟩
theorem Tryz.laysM316:Go.Proofs.LaysM.n316 Tryz.prog Tryz.laysM316_ren:={
 mixed:=by kernel_rfl
 f316:=Tryz.func113.trans (congrArg some (by kernel_rfl))
 t0:=Tryz.underlying0
 a0:=Tryz.isAgg0
 z0:=Tryz.sizeOf0
 v0:=Tryz.zeroValue0
 t3:=Tryz.underlying3
 a3:=Tryz.isAgg3
 z3:=Tryz.sizeOf3
 v3:=Tryz.zeroValue3
 t4:=Tryz.underlying4
 a4:=Tryz.isAgg4
 z4:=Tryz.sizeOf4
 v4:=Tryz.zeroValue4
 t9:=Tryz.underlying9
 a9:=Tryz.isAgg9
 z9:=Tryz.sizeOf9
 v9:=Tryz.zeroValue9
 t37:=Tryz.underlying120
 a37:=Tryz.isAgg120
 z37:=Tryz.sizeOf120
 v37:=Tryz.zeroValue120
 t127:=Tryz.underlying172
 a127:=Tryz.isAgg172
 z127:=Tryz.sizeOf172
 v127:=Tryz.zeroValue172
 t5:=Tryz.underlying5
 a5:=Tryz.isAgg5
 z5:=Tryz.sizeOf5
 v5:=Tryz.zeroValue5
 i0:=by kernel_rfl
 i3:=by kernel_rfl
 i4:=by kernel_rfl
 i5:=by kernel_rfl
 i9:=by kernel_rfl
 i37:=by kernel_rfl
 i127:=by kernel_rfl}
open Go.RowKit in
theorem Tryz.stringslite_Clone (s:ByteArray) (w:World) (hlim:s.size<=281474976710656):
  Calls Tryz.prog 113 #[.string s] w fun e w'=>e=.returned (.string s)/\Below w.heap.size w w':=Any.stringslite_Clone Tryz.laysM316 s w hlim
def Tryz.lays219_ren:Go.Shelf.Ren:=⟨fun|219=>245|217=>258|225=>259|224=>260|267=>261|266=>268|314=>269|n=>n,fun|9=>9|3=>3|4=>4|5=>5|46=>129|146=>314|51=>244|n=>n,fun|1=>6|n=>n⟩
theorem Tryz.lays219:Go.Proofs.Lays.n219 Tryz.prog Tryz.lays219_ren:={
 mixed:=by kernel_rfl
 f217:=Tryz.func258.trans (congrArg some (by kernel_rfl))
 f219:=Tryz.func245.trans (congrArg some (by kernel_rfl))
 f224:=Tryz.func260.trans (congrArg some (by kernel_rfl))
 f225:=Tryz.func259.trans (congrArg some (by kernel_rfl))
 f266:=Tryz.func268.trans (congrArg some (by kernel_rfl))
 f267:=Tryz.func261.trans (congrArg some (by kernel_rfl))
 f314:=Tryz.func269.trans (congrArg some (by kernel_rfl))
 t3:=Tryz.underlying3
 a3:=Tryz.isAgg3
 z3:=Tryz.sizeOf3
 v3:=Tryz.zeroValue3
 t4:=Tryz.underlying4
 a4:=Tryz.isAgg4
 z4:=Tryz.sizeOf4
 v4:=Tryz.zeroValue4
 t5:=Tryz.underlying5
 a5:=Tryz.isAgg5
 z5:=Tryz.sizeOf5
 v5:=Tryz.zeroValue5
 t9:=Tryz.underlying9
 a9:=Tryz.isAgg9
 z9:=Tryz.sizeOf9
 v9:=Tryz.zeroValue9
 t46:=Tryz.underlying129
 a46:=Tryz.isAgg129
 z46:=Tryz.sizeOf129
 v46:=Tryz.zeroValue129
 t51:=Tryz.underlying244
 a51:=Tryz.isAgg244
 z51:=Tryz.sizeOf244
 v51:=Tryz.zeroValue244
 t146:=Tryz.underlying314
 a146:=Tryz.isAgg314
 z146:=Tryz.sizeOf314
 v146:=Tryz.zeroValue314
 g1:=by kernel_rfl}
open Go.RowKit Go.Lib in
theorem Tryz.stringslite_Index_one (s:ByteArray) (c:UInt8) (w:World):
  Calls Tryz.prog 245 #[.string s,.string ⟨#[c]⟩] w fun e w'=>e=.returned (.int .i64 (Lib.indexByte s.data.toList c))/\w'=w:=Any.stringslite_Index_one Tryz.lays219 s c w
def Tryz.lays144_ren:Go.Shelf.Ren:=⟨fun|144=>242|143=>248|219=>245|217=>258|225=>259|224=>260|267=>261|266=>268|314=>269|n=>n,fun|9=>9|4=>4|3=>3|5=>5|46=>129|146=>314|51=>244|n=>n,fun|1=>6|n=>n⟩
theorem Tryz.lays144:Go.Proofs.Lays.n144 Tryz.prog Tryz.lays144_ren:={
 mixed:=by kernel_rfl
 f143:=Tryz.func248.trans (congrArg some (by kernel_rfl))
 f144:=Tryz.func242.trans (congrArg some (by kernel_rfl))
 f217:=Tryz.func258.trans (congrArg some (by kernel_rfl))
 f219:=Tryz.func245.trans (congrArg some (by kernel_rfl))
 f224:=Tryz.func260.trans (congrArg some (by kernel_rfl))
 f225:=Tryz.func259.trans (congrArg some (by kernel_rfl))
 f266:=Tryz.func268.trans (congrArg some (by kernel_rfl))
 f267:=Tryz.func261.trans (congrArg some (by kernel_rfl))
 f314:=Tryz.func269.trans (congrArg some (by kernel_rfl))
 t3:=Tryz.underlying3
 a3:=Tryz.isAgg3
 z3:=Tryz.sizeOf3
 v3:=Tryz.zeroValue3
 t4:=Tryz.underlying4
 a4:=Tryz.isAgg4
 z4:=Tryz.sizeOf4
 v4:=Tryz.zeroValue4
 t5:=Tryz.underlying5
 a5:=Tryz.isAgg5
 z5:=Tryz.sizeOf5
 v5:=Tryz.zeroValue5
 t9:=Tryz.underlying9
 a9:=Tryz.isAgg9
 z9:=Tryz.sizeOf9
 v9:=Tryz.zeroValue9
 t46:=Tryz.underlying129
 a46:=Tryz.isAgg129
 z46:=Tryz.sizeOf129
 v46:=Tryz.zeroValue129
 t51:=Tryz.underlying244
 a51:=Tryz.isAgg244
 z51:=Tryz.sizeOf244
 v51:=Tryz.zeroValue244
 t146:=Tryz.underlying314
 a146:=Tryz.isAgg314
 z146:=Tryz.sizeOf314
 v146:=Tryz.zeroValue314
 g1:=by kernel_rfl}
open Go.RowKit Go.Lib in
theorem Tryz.strings_Contains_one (s:ByteArray) (c:UInt8) (w:World):
  Calls Tryz.prog 242 #[.string s,.string ⟨#[c]⟩] w fun e w'=>e=.returned (.bool (decide (0<=Lib.indexByte s.data.toList c)))/\w'=w:=Any.strings_Contains_one Tryz.lays144 s c w
end Go.Proofs
namespace Go.Proofs.YthldeiojlllkdaaGreatDoor
open Go.ChangeShapes Go.WideShapes Go.ChangeAt Go.RowKit
abbrev Tab (w:World):Prop:=Lib.TabIs Tryz.prog w "internal/strconv.uint64pow10" .u64 Lib.pow10Tab
theorem Tab.below {w w':World} (h:Tab w) (b:iO w w'):Tab w':=Lib.tabBelow_of_tabIs h w' b
theorem jZ (w:World) (k:Nat) (os:Array Obj):iO w (Sort.grow (w.drewN k) os):=
 ⟨rfl,rfl,rfl,by simp[Sort.grow],fun j hj=>by
  show(w.heap++os)[j]?=w.heap[j]?;rw[Array.getElem?_append_left hj]⟩
theorem j7 (n:Nat):Lib.decDigits n=dec n:=by
 induction n using Nat.strongRecOn with
 |ind n ih=>
  rw[Lib.decDigits,dec];by_cases h:n<10
  ·simp[h,digit,Nat.mod_eq_of_lt h]
  ·simp only[h,dite_false,if_false]
   rw[ih (n/10) Ff];rfl
theorem sS (n:Nat):Lib.itoa (n:Int)=dec n:=by
 unfold Lib.itoa;rw[if_neg Ff,j7];rfl
theorem lH (c:UInt8) (l:Bs):Lib.indexByte l c=if posB c l=l.length then-1 else(posB c l:Int):=by
 induction l with
 |nil=>simp[Lib.indexByte,posB]
 |cons b l ih=>
  rw[Lib.indexByte,lG,ih];by_cases h:b=c
  ·simp[h]
  ·have h1:(b==c)=false:=by simpa using h
   rw[h1,if_neg h];by_cases h2:posB c l=l.length
   ·simp[h2]
   ·have h3:((posB c l:Int)== -1)=false:=by simp
    simp[h2,h3]
theorem sT (c:UInt8) (l:Bs):decide (0<=Lib.indexByte l c)= !(l.all (fun b=>b !=c)):=by
 rw[lH];by_cases h:posB c l=l.length
 ·rw[if_pos h,(sP c l).1 h];rfl
 ·have h2:l.all (fun b=>b !=c)=false:=by
   cases e:l.all (fun b=>b !=c)with
   |true=>exact absurd ((sP c l).2 e) h
   |false=>rfl
  rw[if_neg h,h2];simp
theorem tC (l:Bs) (w:World) (hl:l.length<=1048576) (ht:Tab w):
  Calls Tryz.prog 218 #[S l] w fun e w'=>e=.returned (S (dR l))/\iO w w':=by
 have hsz:(⟨l.toArray⟩:ByteArray).size=l.length:=rfl;by_cases h300:(300:Int)<(l.length:Int)
 ·have HF:Hid (dR l=[]):=by
   have:¬l.length<=300:=by omega
   simp[Hid,dR,bR,this]
  unfold S;go_enter Tryz.func218,Tryz.ntmps218;go_wp2_with fail
  go_ret;rw[HF.out];exact⟨rfl,Below.refl _ _⟩
 ·have c0:Calls Tryz.prog 242 #[.string ⟨l.toArray⟩,.string ⟨#[10]⟩] w fun e w'=>e=.returned (.bool (!(l.all (fun b=>b !=10))))/\w'=w:=by
   have:=Tryz.strings_Contains_one ⟨l.toArray⟩ 10 w
   rwa[show(⟨l.toArray⟩:ByteArray).data.toList=l from rfl,sT]at this
  by_cases hp:l.all (fun b=>b !=10)=true
  ·rw[hp]at c0
   have HF:Hid (dR l=dec l.length++[32]++dec (chk l).toNat++[32]++l++[10]):=by
    have:l.length<=300:=by omega
    simp[Hid,dR,bR,hp,this,aI]
   have hb:=kD l;have c1:=fun wx (h:Tab wx)=>Tryz.strconv_Itoa (l.length:Nat) Ff Ff wx h
   have c2:=fun wx=>vK l wx hl
   have c3:=fun wx (h:Tab wx)=>Tryz.strconv_FormatInt_10 (chk l) Ff Ff wx h
   have e3:Lib.itoa (chk l)=dec (chk l).toNat:=by have h:=sS (chk l).toNat;rwa[sY]at h
   simp only[sS]at c1;simp only[e3]at c3;have d1:=eI 13 l.length Ff;have d2:=eI 5 (chk l).toNat Ff;obtain⟨x,hx⟩:=Fe (chk l)
   obtain⟨p,hpp⟩:=Fe (dec l.length)
   obtain⟨q,hq⟩:=Fe (dec (chk l).toNat)
   simp only[<-hpp]at c1 d1 HF;simp only[<-hq]at c3 d2 HF;simp only[<-hx]at c2 c3;have HT:Hid (Tab w):=ht;clear hpp hq hx e3 hb hp ht;unfold S at c2⊢;go_enter Tryz.func218,Tryz.ntmps218;go_wp2_with fail
   refine Fd c0 ?_;clear c0;go_wp2_with fail
   refine(c1 w HT.out).mono ?_;rintro e w1 ⟨rfl,k1,o1,hw1⟩;have HB:Hid (iO w w1):=by rw[hw1];exact jZ w k1 o1
   clear hw1 c1;go_wp2_with fail
   refine Fd (c2 w1) ?_;clear c2;go_wp2_with fail
   refine(c3 w1 (HT.out.below HB.out)).mono ?_;rintro e w2 ⟨rfl,k2,o2,hw2⟩;have HC:Hid (iO w w2):=HB.out.trans (by rw[hw2];exact(jZ w1 k2 o2).mono HB.out.size);clear hw2 c3 HB;go_wp2_with fail
   go_ret;refine⟨congrArg (fun x=>Ending.returned (Value.string x)) ?_,HC.out⟩;rw[HF.out,app,app,app,app,app]
  ·have hp':l.all (fun b=>b !=10)=false:=by simpa using hp
   rw[hp']at c0;have HF:Hid (dR l=[]):=by simp[Hid,dR,bR,hp']
   clear hp hp' ht;unfold S;go_enter Tryz.func218,Tryz.ntmps218;go_wp2_with fail
   refine Fd c0 ?_;clear c0;go_wp2_with fail
   go_ret;rw[HF.out];exact⟨rfl,Below.refl _ _⟩
def pA (c:UInt8) (l:Bs):Bool:=decide (posB c l<l.length)
theorem hU {c:UInt8} {l:Bs} (h:posB c l=l.length):behind c l=[]/\co c l=l/\pA c l=false:=by
 simp[behind,co,pA,h]
theorem nZ (c:UInt8) (a r:Bs) (h:∀b∈a,b≠c):posB c (a++c::r)=a.length:=by
 induction a with
 |nil=>simp[posB]
 |cons b a ih=>
  rw[List.cons_append,lG,if_neg (h b Fg),ih (fun x hx=>h x (by simp[hx]))];rfl
theorem oe (c:UInt8) (a r:Bs) (h:∀b∈a,b≠c):behind c (a++c::r)=r:=by
 unfold behind;rw[nZ c a r h,<-List.drop_drop,List.drop_left];rfl
theorem AM (c:UInt8) (l:Bs) (w:World) (hl:l.length<=1048576):
  Calls Tryz.prog 219 #[S l,.string ⟨#[c]⟩] w fun e w'=>e=.returned (.tuple #[S (co c l),S (behind c l),.bool (pA c l)])/\∃n,w'=w.drewN n:=by
 have hsz:(⟨l.toArray⟩:ByteArray).size=l.length:=rfl;have hs1:(⟨#[c]⟩:ByteArray).size=1:=rfl;have hle:=ny c l;have c0:=Tryz.stringslite_Index_one ⟨l.toArray⟩ c w;rw[show(⟨l.toArray⟩:ByteArray).data.toList=l from rfl,lH]at c0;by_cases h:posB c l=l.length
 ·obtain⟨h1,h2,h3⟩:=hU h
  rw[if_pos h]at c0;rw[h1,h2,h3];unfold S;clear h1 h2 h3;go_enter Tryz.func219,Tryz.ntmps219;go_wp2_with fail
  refine Fd c0 ?_;clear c0;go_wp2_with fail
  go_ret3
  exact⟨rfl,0,rfl⟩
 ·rw[if_neg h]at c0
  have h3:pA c l=true:=by simp[pA];omega
  have hex1:=cB l 0 (posB c l);have hex2:=cB l (posB c l+1) l.length;have e1:cV l 0 (posB c l)=co c l:=by simp[cV,co]
  have e2:cV l (posB c l+1) l.length=behind c l:=by simp[cV,behind]
  rw[e1]at hex1;rw[e2]at hex2;rw[h3];obtain⟨p,hp⟩:=Fe (posB c l)
  obtain⟨x,hx⟩:=Fe (co c l)
  obtain⟨y,hy⟩:=Fe (behind c l)
  rw[<-hx]at hex1⊢;rw[<-hy]at hex2⊢;rw[<-hp]at c0 hex1 hex2 h hle;have hlt:(p:Int)+1<=(l.length:Int):=by omega
  clear hp hx hy e1 e2 h3;unfold S;go_enter Tryz.func219,Tryz.ntmps219;go_wp2_with fail
  refine Fd c0 ?_;clear c0;go_wp2_with fail
  go_quiet (fail)
  go_wp2_with fail
  go_ret3
  exact⟨rfl,nq,rfl⟩
theorem lc (c:UInt8) (l:Bs) (w:World) (hl:l.length<=1048576):
  Calls Tryz.prog 182 #[S l,.string ⟨#[c]⟩] w fun e w'=>e=.returned (.tuple #[S (co c l),S (behind c l),.bool (pA c l)])/\∃n,w'=w.drewN n:=by
 have c0:=AM c l w hl;go_enter Tryz.func182,Tryz.ntmps182;go_wp2_with fail
 refine c0.mono ?_;rintro e w1 ⟨rfl,hw⟩;clear c0;go_wp2_with fail
 go_ret3
 exact⟨rfl,hw⟩
def fT (s:Bs):Bs:=behind 32 (behind 32 (co 10 s))
theorem vM {c:UInt8} {l:Bs}:(co c l).length=posB c l:=by
 have:=ny c l;simp[co];omega
theorem oh (c:UInt8) (l:Bs):(behind c l).length<=l.length:=by simp[behind]
theorem rQ {t:Bs} (h:bR t=true) (r:Bs):fT (aI t++r)=t:=by
 have h1:co 10 (aI t++r)=body t:=by
  have hb:∀b∈body t,b≠10:=by
   intro b hb;have:=nz h;rw[List.all_eq_true]at this;simpa using this b hb
  unfold co;rw[fc,List.append_assoc,List.singleton_append,nZ 10 _ _ hb,List.take_left]
 unfold fT;rw[h1];unfold body;rw[oe 32 _ _ (fun b hb=>(iZ _ b hb).2),oe 32 _ _ (fun b hb=>(iZ _ b hb).2)]
theorem vN {s:Bs} (h:posB 10 s=s.length):av s=([],0):=by
 have:fZ s=s.length:=h;simp[av,this]
theorem vO {s:Bs} (h:posB 10 s<s.length) (e:dR (fT s)=s.take (posB 10 s+1)):av s=(fT s,posB 10 s+1):=by
 have hp:bR (fT s)=true:=by
  by_cases hp:bR (fT s)=true
  ·exact hp
  ·have hn:dR (fT s)=[]:=by simp[dR,hp]
   rw[hn]at e;have:=congrArg List.length e;simp at this;omega
 rw[mx hp]at e;have hs:s=aI (fT s)++s.drop (posB 10 s+1):=by rw[e,List.take_append_drop]
 have hl:=congrArg List.length e;rw[List.length_take,Nat.min_eq_left Ff]at hl;have:=nN hp (s.drop (posB 10 s+1));rw[<-hs,hl]at this;exact this
theorem vP {s:Bs} (e:dR (fT s)≠s.take (posB 10 s+1)):av s=([],0):=by
 by_cases h0:(av s).2=0
 ·exact mv s h0
 ·obtain⟨hp,hf,hn⟩:=gg s h0
  exfalso;have hs:s=aI (av s).1++s.drop (av s).2:=by rw[hf,List.take_append_drop]
  have ht:fT s=(av s).1:=by
   have:=rQ hp (s.drop (av s).2)
   rwa[<-hs]at this
  apply e;rw[ht,mx hp,hf]
  congr 1
  have hb:∀b∈body (av s).1,b≠10:=by
   intro b hb;have:=nz hp;rw[List.all_eq_true]at this;simpa using this b hb
  have:posB 10 s=(body (av s).1).length:=by
   have:=nZ 10 _ (s.drop (av s).2) hb;rw[<-this]
   congr 1
   rw[hs];conv=>rhs;rw[<-hs]
   rw[fc];simp
  rw[this,hn,gA]
theorem vQ (s:Bs) (w:World) (hl:s.length<=1048576) (ht:Tab w):
  Calls Tryz.prog 181 #[S s] w fun e w'=>e=.returned (.tuple #[S (av s).1,.int .i64 (av s).2])/\iO w w':=by
 have hsz:(⟨s.toArray⟩:ByteArray).size=s.length:=rfl;have hle:=ny 10 s;have hbl:(co 10 s).length=posB 10 s:=vM;have c1:=fun wx=>lc 10 s wx hl
 have c2:=fun wx=>lc 32 (co 10 s) wx Ff
 have hb2:=oh 32 (co 10 s);have c3:=fun wx=>lc 32 (behind 32 (co 10 s)) wx Ff
 have hb3:=oh 32 (behind 32 (co 10 s));have HT:Hid (Tab w):=ht;clear ht;by_cases h:posB 10 s=s.length
 ·have HE:Hid (av s=([],0)):=vN h
  have hh:pA 10 s=false:=(hU h).2.2;simp only[hh]at c1;unfold S at c1⊢;clear hh c2 c3;go_enter Tryz.func181,Tryz.ntmps181;go_wp2_with fail
  refine(c1 w).mono ?_;rintro e w1 ⟨rfl,n1,hw1⟩;have HB:Hid (iO w w1):=by rw[hw1];exact below_drewN (Below.refl _ _) _
  clear c1 hw1;go_wp2_with fail
  go_ret2
  rw[HE.out];exact⟨rfl,HB.out⟩
 ·have hh:pA 10 s=true:=by simp[pA];omega
  simp only[hh]at c1;have c4:=fun wx (hx:Tab wx)=>tC (fT s) wx (by unfold fT;omega) hx
  have e4:behind 32 (behind 32 (co 10 s))=fT s:=rfl;simp only[e4]at c3;have hex:=cB s 0 (posB 10 s+1);have e5:cV s 0 (posB 10 s+1)=s.take (posB 10 s+1):=by simp[cV]
  rw[e5]at hex;have H1:Hid (dR (fT s)=s.take (posB 10 s+1)->av s=(fT s,posB 10 s+1)):=fun e=>vO Ff e
  have H2:Hid (dR (fT s)≠s.take (posB 10 s+1)->av s=([],0)):=fun e=>vP e
  obtain⟨p,hp⟩:=Fe (posB 10 s)
  obtain⟨t,hte⟩:=Fe (fT s)
  obtain⟨f,hf⟩:=Fe (dR t)
  obtain⟨z,hz⟩:=Fe (s.take (posB 10 s+1))
  obtain⟨ln,hln⟩:=Fe (co 10 s)
  rw[<-hz]at hex H1 H2;simp only[<-hln]at c1 c2 hbl c3;simp only[<-hte]at c3 c4 H1 H2;simp only[<-hf]at c4 H1 H2;rw[<-hp]at hex H1 hbl hle h;have hzl:(⟨ln.toArray⟩:ByteArray).size=p:=hbl;have hlt:(p:Int)+1<=(s.length:Int):=by omega
  have hj0:(0:Int)<=(p:Int)+1:=by omega
  have hwr:IntKind.i64.wrap ((p:Int)+1)=(p:Int)+1:=by rw[IntKind.wrap_i64];omega
  unfold S at c1 c2 c3 c4⊢;clear hh e4 e5 hp hte hf hz hln hb2 hb3 hbl;go_enter Tryz.func181,Tryz.ntmps181;go_wp2_with fail
  refine(c1 w).mono ?_;rintro e w1 ⟨rfl,n1,hw1⟩;have HB:Hid (iO w w1):=by rw[hw1];exact below_drewN (Below.refl _ _) _
  clear c1 hw1;go_wp2_with fail
  refine(c2 w1).mono ?_;rintro e w2 ⟨rfl,n2,hw2⟩;replace HB:Hid (iO w w2):=by rw[hw2];exact below_drewN HB.out _
  clear c2 hw2;go_wp2_with fail
  refine(c3 w2).mono ?_;rintro e w3 ⟨rfl,n3,hw3⟩;replace HB:Hid (iO w w3):=by rw[hw3];exact below_drewN HB.out _
  clear c3 hw3;have c5:=c4 (w3.drew) (HT.out.below (below_drewN HB.out 1));have HB1:Hid (iO w w3.drew):=below_drewN HB.out 1;clear c4;by_cases hf:f=z
  ·have HE:=H1.out hf
   subst hf;clear H1 H2;go_wp2_with fail
   go_region_held3 (fun w'=>True) (trivial)
    ((go_at_call 218;refine c5.mono ?_;rintro e w4 ⟨rfl,b4⟩))
   have HB3:Hid (iO w w4):=HB1.out.trans (b4.mono HB1.out.size);go_wp2_with fail
   go_ret2
   rw[HE];exact⟨rfl,HB3.out⟩
  ·have HE:=H2.out hf
   have hbeq:(f==z)=false:=by simpa using hf
   clear H1 H2;go_wp2_with fail
   go_region_held3 (fun w'=>True) (trivial)
    ((go_at_call 218;refine c5.mono ?_;rintro e w4 ⟨rfl,b4⟩))
   have HB3:Hid (iO w w4):=HB1.out.trans (b4.mono HB1.out.size);go_wp2_with fail
   go_ret2
   rw[HE];exact⟨rfl,HB3.out⟩
end Go.Proofs.YthldeiojlllkdaaGreatDoor
