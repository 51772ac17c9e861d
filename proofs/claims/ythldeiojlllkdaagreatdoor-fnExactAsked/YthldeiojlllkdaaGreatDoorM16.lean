/- Kinds by the program: shapes, the table of a kind, KindOk, ForAll. -/
import Derived.Test.YthldeiojlllkdaaGreatDoorM1
import Derived.Test.YthldeiojlllkdaaGreatDoorM15
import Derived.Test.YthldeiojlllkdaaGreatDoorM4
import Derived.Deep.RegionHeld3
import Derived.Deep.DeepCutAuto
import Derived.Test.YthldeiojlllkdaaGreatDoorM5
import Derived.Test.YthldeiojlllkdaaGreatDoorM11
import Derived.Test.YthldeiojlllkdaaGreatDoorM14
set_option maxRecDepth 20000
set_option maxHeartbeats 2000000
namespace Go.Proofs.YthldeiojlllkdaaGreatDoor
open Go.ChangeShapes Go.WideShapes Go.ChangeAt Go.RowKit
def ft (k:Int):Int:=if k=1 then 1 else if k=2 then 1 else if k=3 then 2 else if k=4 then 2 else if k=5 then 3 else if k=6 then 3 else 0
def gJ (k:Int):Int:=if k=1 then 1 else if k=2 then 2 else if k=3 then 1 else if k=4 then 2 else if k=5 then 1 else if k=6 then 2 else 0
theorem Tryz.isShape:IsS 274 2:=⟨⟨_,Tryz.underlying274⟩,by kernel_rfl⟩
theorem ku (k:Int) (w:World):
  Calls Tryz.prog 241 #[.int .i64 k] w fun e w'=>e=.returned (.agg #[.int .i64 (ft k),.int .i64 (gJ k)])/\bB w w':=by
 have b1:=(Below.refl w.heap.size w).alloc (Nat.le_refl _);rcases kinds k with h|h|h|h|h|h|h|⟨_,h0,h1,h2,h3,h4,h5,h6⟩
 ·subst h
  go_enter Tryz.func241,Tryz.ntmps241;go_wp2;refine bodyPost_ret (aj Tryz.isShape rfl _ _ w.heap.size _ rfl rfl (StB.new w _ _)) rfl ?_;exact⟨rfl,b1 _⟩
 ·subst h
  go_enter Tryz.func241,Tryz.ntmps241;go_wp2;refine bodyPost_ret (aj Tryz.isShape rfl _ _ w.heap.size _ rfl rfl (StB.new w _ _)) rfl ?_;exact⟨rfl,b1 _⟩
 ·subst h
  go_enter Tryz.func241,Tryz.ntmps241;go_wp2;refine bodyPost_ret (aj Tryz.isShape rfl _ _ w.heap.size _ rfl rfl (StB.new w _ _)) rfl ?_;exact⟨rfl,b1 _⟩
 ·subst h
  go_enter Tryz.func241,Tryz.ntmps241;go_wp2;refine bodyPost_ret (aj Tryz.isShape rfl _ _ w.heap.size _ rfl rfl (StB.new w _ _)) rfl ?_;exact⟨rfl,b1 _⟩
 ·subst h
  go_enter Tryz.func241,Tryz.ntmps241;go_wp2;refine bodyPost_ret (aj Tryz.isShape rfl _ _ w.heap.size _ rfl rfl (StB.new w _ _)) rfl ?_;exact⟨rfl,b1 _⟩
 ·subst h
  go_enter Tryz.func241,Tryz.ntmps241;go_wp2;refine bodyPost_ret (aj Tryz.isShape rfl _ _ w.heap.size _ rfl rfl (StB.new w _ _)) rfl ?_;exact⟨rfl,b1 _⟩
 ·subst h
  go_enter Tryz.func241,Tryz.ntmps241;go_wp2;refine bodyPost_ret (aj Tryz.isShape rfl _ _ w.heap.size _ rfl rfl (StB.new w _ _)) rfl ?_;exact⟨rfl,b1 _⟩
 ·have he:ft k=0:=by simp[ft,h1,h2,h3,h4,h5,h6]
  have hf:gJ k=0:=by simp[gJ,h1,h2,h3,h4,h5,h6]
  rw[he,hf];clear he hf;go_enter Tryz.func241,Tryz.ntmps241;go_wp2;refine bodyPost_ret (aj Tryz.isShape rfl _ _ w.heap.size _ rfl rfl (StB.new w _ _)) rfl ?_;exact⟨rfl,b1 _⟩
theorem jv (k:Int) (w:World):
  Calls Tryz.prog 216 #[.int .i64 k] w fun e w'=>e=.returned (.bool (kiI k))/\bB w w':=by
 have c1:=ku k w;rcases kinds k with h|h|h|h|h|h|h|⟨hk,h0,h1,h2,h3,h4,h5,h6⟩
 all_goals first
  |(subst h
    go_enter Tryz.func216,Tryz.ntmps216;go_wp2_with fail
    refine c1.mono ?_;rintro e w2 ⟨rfl,b2⟩;go_wp2;go_ret;exact⟨rfl,b2⟩)
  |(have he:ft k=0:=by simp[ft,h1,h2,h3,h4,h5,h6]
    have hf:gJ k=0:=by simp[gJ,h1,h2,h3,h4,h5,h6]
    rw[he,hf]at c1;rw[hk];clear he hf;go_enter Tryz.func216,Tryz.ntmps216;go_wp2_with fail
    refine c1.mono ?_;rintro e w2 ⟨rfl,b2⟩;go_wp2;go_ret;exact⟨rfl,b2⟩)
theorem zw (k:Int):bY k=decide (ft k=3):=by
 rcases kinds k with h|h|h|h|h|h|h|⟨hk,h0,h1,h2,h3,h4,h5,h6⟩
 all_goals first|(subst h;rfl)|(rw[Bz k hk,show ft k=0 by simp[ft,h1,h2,h3,h4,h5,h6]];rfl)
theorem lp (k:Int) (w:World):
  Calls Tryz.prog 214 #[.int .i64 k] w fun e w'=>e=.returned (.bool (bY k))/\bB w w':=by
 have c1:=ku k w;rw[zw];obtain⟨p,hp⟩:=eX (ft k)
 obtain⟨q,hq⟩:=eX (gJ k)
 rw[<-hp,<-hq]at c1;rw[<-hp];clear hp hq;go_enter Tryz.func214,Tryz.ntmps214;go_wp2_with fail
 refine c1.mono ?_;rintro e w2 ⟨rfl,b2⟩;have hf:∀wx,(Instr.field 274 (.agg #[.int .i64 p,.int .i64 q]) 0).run Tryz.prog wx=.ok (.int .i64 p) wx:=fun wx=>by kernel_rfl
 go_wp2;go_ret;exact⟨af (by by_cases h:p=3<;>simp[h]),b2⟩
def MBB (w0 w:World) (b:Nat) (t:Bool->Bool->Bool):Prop:=MB w b t/\bB w0 w/\w0.heap.size<=b
theorem MBB.start (w:World):MBB w (w.alloc (.map #[] 0)).drew w.heap.size (fun _ _=>false):=
 ⟨⟨[],0,(MapKept.heap_alloc w _).1,List.Pairwise.nil,fun _ _=>rfl⟩,((Below.refl w.heap.size w).alloc (Nat.le_refl _) _).drew,Nat.le_refl _⟩
theorem MBB.grown {w0 w w':World} {b:Nat} {t s:Bool->Bool->Bool} (h:MBB w0 w b t) (hm:MB w' b s) (hg:w.grownBy w' (some b)):MBB w0 w' b s:=
 ⟨hm,h.2.1.grown hg h.2.1.size (fun k e=>by cases e;exact h.2.2),h.2.2⟩
theorem MBB.below {w0 w w':World} {b:Nat} {t:Bool->Bool->Bool} (h:MBB w0 w b t) (hb:bB w w'):MBB w0 w' b t:=
 ⟨MB.of w w' b t h.1 (hb.block b h.1.lt),h.2.1.trans (hb.mono h.2.1.size),h.2.2⟩
theorem MBB.eq {w0 w:World} {b:Nat} {t s:Bool->Bool->Bool} (h:MBB w0 w b t) (e:∀x y,t x y=s x y):MBB w0 w b s:=⟨h.1.eq e,h.2⟩
theorem rZ {o:Oper} {a:Act} {w:World} {K:Act->World->Prop} {Q:Exit->Act->World->Prop} (w0:World) (b:Nat) (t:Bool->Bool->Bool) (x y:Bool) (h1:MBB w0 w b t) (ht:t x y=false)
  (h:∀w',MBB w0 w' b (putT t x y)->Oper.upon Tryz.prog o a K Q (.ok .skip w')):
  Oper.upon Tryz.prog o a K Q (((Instr.mapUpdate 280 (.map (some b)) (.agg #[.bool x,.bool y]) (.int .i64 1)).run Tryz.prog w).andThen fun _ w'=>.ok .skip w'):=by
 obtain⟨w',hrun,h2,h3⟩:=ux w b t x y h1.1 ht;unfold jI at hrun;rw[hrun];exact h w' (h1.grown h2 h3)
theorem oD {ops:Array Oper} {rest:List Oper} {o:Oper} {a:Act} {w:World} {Q:Exit->Act->World->Prop} (hgd:o.guard=none) (m k:Operand)
  (ho:o.op=.call {callee:=.builtin .delete,args:=#[m,k],argTypes:=#[280,283]}) (w0:World) (b:Nat) (t:Bool->Bool->Bool) (x y:Bool) (hm:a.eval m=.map (some b)) (hk:a.eval k=.agg #[.bool x,.bool y])
  (h1:MBB w0 w b t) (h:∀w',MBB w0 w' b (Eu t x y)->w.grownBy w' (some b)->wpList Tryz.prog ops Q rest (a.put o.dst (.tuple #[])) w'):wpList Tryz.prog ops Q (o::rest) a w:=by
 refine wpList_plain hgd fun K hK=>?_
 obtain⟨w',hrun,h2,h3⟩:=uy w o.type b t x y h1.1;unfold jI at hrun;unfold Oper.wp;simp[execOp,ho,resolve,invoke,builtin,hm,hk,hrun,Result.andThen];exact hK _ _ (h w' (h1.grown h2 h3) h3)
theorem pH {ops:Array Oper} {rest:List Oper} {o:Oper} {a:Act} {w:World} {Q:Exit->Act->World->Prop} (hgd:o.guard=none) (m:Operand)
  (ho:o.op=.call {callee:=.builtin .clear,args:=#[m],argTypes:=#[280]}) (w0:World) (b:Nat) (t:Bool->Bool->Bool) (hm:a.eval m=.map (some b))
  (h1:MBB w0 w b t) (h:∀w',MBB w0 w' b (fun _ _=>false)->w.grownBy w' (some b)->wpList Tryz.prog ops Q rest (a.put o.dst (.tuple #[])) w'):wpList Tryz.prog ops Q (o::rest) a w:=by
 refine wpList_plain hgd fun K hK=>?_
 obtain⟨w',hrun,h2,h3⟩:=wP w o.type b t h1.1;unfold Oper.wp;simp[execOp,ho,resolve,invoke,builtin,hm,hrun,Result.andThen];exact hK _ _ (h w' (h1.grown h2 h3) h3)
def SB (w0 w:World) (b:Nat) (t:Bool->Bool->Bool) (g:Nat) (p q:Int):Prop:=MBB w0 w b t/\StB w g 274 #[.int .i64 p,.int .i64 q]/\b≠g
theorem SB.start {w0 w:World} {b:Nat} {t:Bool->Bool->Bool} (h:MBB w0 w b t) (p q:Int):SB w0 (w.alloc (.cells #[.int .i64 p,.int .i64 q] 274)) b t w.heap.size p q:=
 ⟨h.below ((Below.refl w.heap.size w).alloc (Nat.le_refl _) _),StB.new w _ _,Nat.ne_of_lt h.1.lt⟩
theorem SB.grown {w0 w w':World} {b g:Nat} {t s:Bool->Bool->Bool} {p q:Int} (h:SB w0 w b t g p q) (hm:MBB w0 w' b s) (hg:w.grownBy w' (some b)):Hid (SB w0 w' b s g p q):=
 ⟨hm,h.2.1.kept hg (fun e=>h.2.2 (by cases e;rfl)),h.2.2⟩
theorem SB.cell0 {w0 w:World} {b g:Nat} {t:Bool->Bool->Bool} {p q:Int} (h:SB w0 w b t g p q):w.cell? ⟨g,0,none⟩=some (.int .i64 p):=h.2.1.cell 0 rfl
theorem SB.cell1 {w0 w:World} {b g:Nat} {t:Bool->Bool->Bool} {p q:Int} (h:SB w0 w b t g p q):w.cell? ⟨g,1,none⟩=some (.int .i64 q):=h.2.1.cell 1 rfl
def D6 (p q:Int) (x y:Bool):Bool:= !decide (p=0)&&(!(decide (q=1)&& !x)&& !(!decide (p=1)&&y))
theorem ug (k:Int) (w:World):
  Calls Tryz.prog 251 #[.int .i64 k] w fun e w'=>∃b,e=.returned (.map (some b))/\MBB w w' b (D6 (ft k) (gJ k)):=by
 have c1:=fun wx=>ku k wx
 have hPQ:Hid ((ft k=0/\gJ k=0)∨((ft k=1∨ft k=2∨ft k=3)/\(gJ k=1∨gJ k=2))):=by
  rcases kinds k with h|h|h|h|h|h|h|⟨hk,h0,h1,h2,h3,h4,h5,h6⟩
  all_goals first|(subst h;rw[Hid];decide)|(rw[Hid];simp[ft,gJ,h1,h2,h3,h4,h5,h6])
 obtain⟨p,hp⟩:=eX (ft k)
 obtain⟨q,hq⟩:=eX (gJ k)
 simp only[<-hp,<-hq]at c1 hPQ⊢;clear hp hq;have HC:Hid (∀wx,Calls Tryz.prog 241 #[.int .i64 k] wx fun e w'=>e=.returned (.agg #[.int .i64 p,.int .i64 q])/\bB wx w'):=c1;clear c1;go_enter Tryz.func251,Tryz.ntmps251;go_upto_region 1 with fail
 go_cut [3] (fun t wx=>t=.map (some w.heap.size)/\Hid (MBB w wx w.heap.size (fun _ _=>true)))
 case first=>
  have hs:=MBB.start w;have hmm:= @run_makeMap Tryz.prog
  go_region_held3 (fun _=>True) (trivial)
   (first
    |(refine rZ w w.heap.size _ _ _ (by assumption) (by rfl) ?_;intro w1 h1))
  all_goals (go_wp2_with fail;go_meet)
  all_goals exact⟨rfl,MBB.eq (by assumption) (by intro x y;cases x<;>cases y<;>rfl)⟩
 case rest=>
  obtain⟨rfl,HM⟩:=hcut;go_wp2_with fail
  refine(HC.out _).mono ?_;rintro e w2 ⟨rfl,b2⟩;have HS:Hid (SB w (w2.alloc (.cells #[.int .i64 p,.int .i64 q] 274)) w.heap.size (fun _ _=>true) w2.heap.size p q):=SB.start (HM.out.below b2) p q;clear HM b2 HC;have hPQ':=hPQ.out;clear hPQ;rcases hPQ' with⟨rfl,rfl⟩|⟨rfl|rfl|rfl,rfl|rfl⟩
  all_goals
   (go_wp2_with (first
    |(refine oD rfl _ _ rfl w w.heap.size _ _ _ rfl rfl HS.out.1 ?_;intro w4 h4 g4;replace HS:=HS.out.grown h4 g4;have q0:=HS.out.cell0;have q1:=HS.out.cell1;clear h4 g4)
    |(refine pH rfl _ rfl w w.heap.size _ rfl HS.out.1 ?_;intro w4 h4 g4;replace HS:=HS.out.grown h4 g4;have q0:=HS.out.cell0;have q1:=HS.out.cell1;clear h4 g4))
    go_ret;exact⟨_,rfl,HS.out.1.eq (by intro x y;cases x<;>cases y<;>rfl)⟩)
theorem A6 (k:Int) (b r:Bool) (hk:kiI k=true):kC k b false r= !tabI (ft k) (gJ k) b r:=by
 rcases kinds k with h|h|h|h|h|h|h|⟨hn,h0,h1,h2,h3,h4,h5,h6⟩
 all_goals first|(rw[hk]at hn;cases hn)|(subst h;first|(cases b<;>cases r<;>rfl)|(exact absurd hk (by decide)))
theorem A7 (k:Int) (b h r:Bool) (w:World):
  Calls Tryz.prog 230 #[.int .i64 k,.bool b,.bool h,.bool r] w fun e w'=>e=.returned (.bool (kC k b h r))/\bB w w':=by
 have c1:=jv k w;have c2:=fun wx=>ug k wx
 by_cases h0:k=0
 ·have hx:kC k b h r=true:=by rw[kC,if_pos h0]
  rw[hx];subst h0;clear hx c1;cases h with
  |true=>
   clear c2;go_enter Tryz.func230,Tryz.ntmps230;go_wp2;go_ret;exact⟨rfl,Below.refl _ _⟩
  |false=>
   go_enter Tryz.func230,Tryz.ntmps230;go_wp2_with fail
   refine(c2 _).mono ?_;rintro e w2 ⟨g,rfl,hm⟩;have hl:=qw w2 g _ b r hm.1;rw[show D6 (ft 0) (gJ 0) b r=false from rfl,if_neg (by decide)]at hl;unfold jI at hl;have HB:Hid (bB w w2):=hm.2.1;clear hm c2;go_wp2;go_ret;exact⟨rfl,HB.out⟩
 ·cases hk:kiI k with
  |false=>
   rw[BA k b h r h0 hk];rw[hk]at c1;clear c2 hk;go_enter Tryz.func230,Tryz.ntmps230;go_wp2_with fail
   refine c1.mono ?_;rintro e w2 ⟨rfl,b2⟩;go_wp2;go_ret;exact⟨rfl,b2⟩
  |true=>
   rw[hk]at c1;cases h with
   |true=>
    rw[mayI_holds k b r hk];clear c2 hk;go_enter Tryz.func230,Tryz.ntmps230;go_wp2_with fail
    refine c1.mono ?_;rintro e w2 ⟨rfl,b2⟩;go_wp2;go_ret;exact⟨rfl,b2⟩
   |false=>
    rw[A6 k b r hk];obtain⟨t,ht⟩:=eX (D6 (ft k) (gJ k))
    simp only[<-ht]at c2⊢;clear ht hk;go_enter Tryz.func230,Tryz.ntmps230;go_wp2_with fail
    refine c1.mono ?_;rintro e w2 ⟨rfl,b2⟩;have HB2:Hid (bB w w2):=b2;clear c1 b2;go_wp2_with fail
    refine(c2 _).mono ?_;rintro e w3 ⟨g,rfl,hm⟩;have hl:=qw w3 g t b r hm.1;unfold jI at hl;have HB:Hid (bB w w3):=HB2.out.trans (hm.2.1.mono HB2.out.size);clear hm c2 HB2;cases hx:t b r with
    |false=>
     simp only[hx]at hl;go_wp2;go_ret;exact⟨af (by rw[hx];rfl),HB.out⟩
    |true=>
     simp only[hx]at hl;go_wp2;go_ret;exact⟨af (by rw[hx];rfl),HB.out⟩
def heA (f:Nat->Int) (kd ho tu:Int):Array Value:=#[.int .i64 (f 0),.int .i64 (f 1),.int .i64 (f 2),.int .i64 (f 3),.int .i64 kd,.int .i64 ho,.int .i64 tu]
def jF (f:Nat->Int) (kd ho:Int):Bool:=if kd=0 then decide (ho= -1)else if bY kd then decide (ho= -1)&&jG f else kiI kd&&(inI ho 0 3&&decide (f ho.toNat≠0))
def eE (f:Nat->Int) (kd ho i:Int):Bool:=(inI i 0 3&&decide (f i.toNat≠0))&&(bY kd||decide (i=ho))
theorem Tryz.isHeld:IsS 165 7:=⟨⟨_,Tryz.underlying165⟩,by kernel_rfl⟩
theorem aV {w:World} {g:Nat} {f:Nat->Int} {kd ho tu:Int} (h:StB w g 165 (heA f kd ho tu)):
  w.cell? ⟨g,0,none⟩=some (.int .i64 (f 0))/\w.cell? ⟨g,1,none⟩=some (.int .i64 (f 1))/\w.cell? ⟨g,2,none⟩=some (.int .i64 (f 2))/\w.cell? ⟨g,3,none⟩=some (.int .i64 (f 3))/\w.cell? ⟨g,4,none⟩=some (.int .i64 kd)/\w.cell? ⟨g,5,none⟩=some (.int .i64 ho)/\w.cell? ⟨g,6,none⟩=some (.int .i64 tu):=
 ⟨h.cell 0 rfl,h.cell 1 rfl,h.cell 2 rfl,h.cell 3 rfl,h.cell 4 rfl,h.cell 5 rfl,h.cell 6 rfl⟩
theorem jP (f:Nat->Int) (kd ho tu:Int) (w:World):
  Calls Tryz.prog 178 #[.agg (heA f kd ho tu)] w fun e w'=>e=.returned (.bool (jF f kd ho))/\bB w w':=by
 obtain⟨w1,hw1⟩:=eX (w.alloc (.cells (heA f kd ho tu) 165))
 have HB:Hid (bB w w1):=by rw[hw1];exactbA
 have H1:Hid (StB w1 w.heap.size 165 (heA f kd ho tu)):=by rw[hw1];exact StB.new _ _ _
 have HE:Hid (jF f kd ho=(if kd=0 then decide (ho= -1)else if bY kd then decide (ho= -1)&&jG f else kiI kd&&(inI ho 0 3&&decide (f ho.toNat≠0)))):=rfl;obtain⟨x,hx⟩:=eX (jF f kd ho)
 rw[<-hx]at HE⊢;clear hx;have c1:=fun wx=>lp kd wx
 have c2:=fun wx=>jv kd wx
 have c3:=fun wx=>mH f wx
 have c4:=fun wx=>jt f ho wx
 obtain⟨a1,ha1⟩:=eX (bY kd)
 obtain⟨a2,ha2⟩:=eX (kiI kd)
 obtain⟨a3,ha3⟩:=eX (jG f)
 obtain⟨a4,ha4⟩:=eX ((inI ho 0 3&&decide (f ho.toNat≠0)))
 simp only[<-ha1,<-ha2,<-ha3,<-ha4]at c1 c2 c3 c4 HE;clear ha1 ha2 ha3 ha4;by_cases h0:kd=0
 ·clear c1 c2 c3 c4
  obtain⟨-, -, -, -,k4,k5, -⟩:=aV H1.out;have HX:Hid (x=decide (ho= -1)):=by rw[Hid,HE.out,if_pos h0]
  clear HE H1;unfold heA at*;by_cases ho1:ho= -1
  ·subst hw1
   go_enter Tryz.func178,Tryz.ntmps178;go_wp2;go_ret;exact⟨af (by rw[HX.out];simp[ho1]),by simpa[h0,ho1]using HB.out⟩
  ·have ho2:(ho== -1)=false:=by simpa using ho1
   subst hw1;go_enter Tryz.func178,Tryz.ntmps178;go_wp2;go_ret;exact⟨af (by rw[HX.out];simp[ho1]),by simpa[h0]using HB.out⟩
 ·have h0n:(kd==0)=false:=by simpa using h0
  cases a1 with
  |true=>
   have HX:Hid (x=(decide (ho= -1)&&a3)):=by rw[Hid,HE.out,if_neg h0,if_pos rfl]
   clear HE c2 c4;unfold kA at*;rw[heA]at hw1⊢;go_enter Tryz.func178,Tryz.ntmps178;go_wp2_with fail
   rw[<-hw1];refine(c1 _).mono ?_;rintro e w2 ⟨rfl,b2⟩;have HB2:Hid (bB w w2):=HB.out.trans (b2.mono HB.out.size);obtain⟨k0,k1,k2,k3,k4,k5, -⟩:=aV (H1.out.below b2);clear b2 c1 H1 HB hw1;by_cases ho1:ho= -1
   ·rw[ho1]at k5
    go_wp2_with fail
    refine(c3 _).mono ?_;rintro e w3 ⟨rfl,b3⟩;have HB3:Hid (bB w w3):=HB2.out.trans (b3.mono HB2.out.size);clear b3 c3 k0 k1 k2 k3 k4 k5;cases a3<;>
    ·go_wp2
     go_ret;exact⟨af (by rw[HX.out];simp[ho1]),HB3.out⟩
   ·have ho2:(ho== -1)=false:=by simpa using ho1
    clear c3;go_wp2;go_ret;exact⟨af (by rw[HX.out];simp[ho1]),HB2.out⟩
  |false=>
   have HX:Hid (x=(a2&&a4)):=by rw[Hid,HE.out,if_neg h0,if_neg (by decide)]
   clear HE c3;unfold kA at*;rw[heA]at hw1⊢;go_enter Tryz.func178,Tryz.ntmps178;go_wp2_with fail
   rw[<-hw1];refine(c1 _).mono ?_;rintro e w2 ⟨rfl,b2⟩;have HB2:Hid (bB w w2):=HB.out.trans (b2.mono HB.out.size);have H2:=H1.out.below b2;obtain⟨k0,k1,k2,k3,k4,k5, -⟩:=aV H2;have HH2:Hid (StB w2 w.heap.size 165 (heA f kd ho tu)):=H2;clear b2 c1 H1 HB hw1 H2;go_wp2_with fail
   refine(c2 _).mono ?_;rintro e w3 ⟨rfl,b3⟩;have HB3:Hid (bB w w3):=HB2.out.trans (b3.mono HB2.out.size);obtain⟨m0,m1,m2,m3,m4,m5, -⟩:=aV (HH2.out.below b3);clear b3 c2 k0 k1 k2 k3 k4 k5 HH2 HB2;cases a2 with
   |false=>
    clear c4;go_wp2;go_ret;exact⟨af (by rw[HX.out];simp),HB3.out⟩
   |true=>
    go_wp2_with fail
    refine(c4 _).mono ?_;rintro e w4 ⟨rfl,b4⟩;have HB4:Hid (bB w w4):=HB3.out.trans (b4.mono HB3.out.size);clear b4 c4 m0 m1 m2 m3 m4 m5;cases a4<;>
    ·go_wp2
     go_ret;exact⟨af (by rw[HX.out];simp),HB4.out⟩
theorem gF (f:Nat->Int) (kd ho tu i:Int) (w:World):
  Calls Tryz.prog 231 #[.agg (heA f kd ho tu),.int .i64 i] w fun e w'=>e=.returned (.bool (eE f kd ho i))/\bB w w':=by
 obtain⟨w1,hw1⟩:=eX (w.alloc (.cells (heA f kd ho tu) 165))
 have HB:Hid (bB w w1):=by rw[hw1];exactbA
 have H1:Hid (StB w1 w.heap.size 165 (heA f kd ho tu)):=by rw[hw1];exact StB.new _ _ _
 have HE:Hid (eE f kd ho i=((inI i 0 3&&decide (f i.toNat≠0))&&(bY kd||decide (i=ho)))):=rfl;obtain⟨x,hx⟩:=eX (eE f kd ho i)
 rw[<-hx]at HE⊢;clear hx;have c1:=fun wx=>lp kd wx
 have c4:=fun wx=>jt f i wx
 obtain⟨a1,ha1⟩:=eX (bY kd)
 obtain⟨a4,ha4⟩:=eX ((inI i 0 3&&decide (f i.toNat≠0)))
 simp only[<-ha1,<-ha4]at c1 c4 HE;clear ha1 ha4;unfold kA at*;rw[heA]at hw1⊢;go_enter Tryz.func231,Tryz.ntmps231;go_wp2_with fail
 rw[<-hw1];refine(c4 _).mono ?_;rintro e w2 ⟨rfl,b2⟩;have HB2:Hid (bB w w2):=HB.out.trans (b2.mono HB.out.size);have H2:Hid (StB w2 w.heap.size 165 (heA f kd ho tu)):=H1.out.below b2;obtain⟨-, -, -, -,k4,k5, -⟩:=aV H2.out;clear b2 c4 H1 HB hw1;cases a4 with
 |false=>
  clear c1;go_wp2;go_ret;exact⟨af (by rw[HE.out];simp),HB2.out⟩
 |true=>
  go_wp2_with fail
  refine(c1 _).mono ?_;rintro e w3 ⟨rfl,b3⟩;have HB3:Hid (bB w w3):=HB2.out.trans (b3.mono HB2.out.size);obtain⟨-, -, -, -,m4,m5, -⟩:=aV (H2.out.below b3);clear b3 c1 k4 k5 H2 HB2;cases a1 with
  |true=>
   go_wp2;go_ret;exact⟨af (by rw[HE.out];simp),HB3.out⟩
  |false=>
   by_cases hi:i=ho
   ·have hib:(i==ho)=true:=by simpa using hi
    go_wp2;go_ret;exact⟨af (by rw[HE.out];simp[hi]),HB3.out⟩
   ·have hib:(i==ho)=false:=by simpa using hi
    go_wp2;go_ret;exact⟨af (by rw[HE.out];simp[hi]),HB3.out⟩
theorem Ct {ks:List Int} (h:ks.length=4):jG (KF ks)=eD ks:=by
 match ks,h with
 |[a,b,c,d],_=>simp[jG,KF,eD,Bool.or_assoc,bne,decide_not];rfl
theorem Cu {h:Hd} (e:h.ks.length=4):jF (KF h.ks) h.kd h.ho=h.mid:=by
 unfold jF Hd.mid;rw[Ct e];unfold dV KF;simp only[Bool.and_assoc]
theorem DV {h:Hd} (e:fD h.ks=true):h.ok=(jF (KF h.ks) h.kd h.ho&&inI h.tu 0 1000000000):=by
 unfold fD at e;simp only[Bool.and_eq_true,decide_eq_true_eq]at e;rw[Cu e.1];unfold Hd.ok;rw[e.2];simp[e.1,Bool.and_comm]
theorem AR {h:Hd} (e:fD h.ks=false):h.ok=false:=by
 unfold Hd.ok;unfold fD at e;cases h1:decide (h.ks.length=4)
 ·simp
 ·rw[h1]at e;simp at e;simp[e]
def jQ (h:Hd):Array Value:=if h.ok then heA (KF h.ks) h.kd h.ho h.tu else heA (fun _=>0) 0 0 0
theorem he0:(#[.int .i64 0,.int .i64 0,.int .i64 0,.int .i64 0,.int .i64 0,.int .i64 0,.int .i64 0]:Array Value)=heA (fun _=>0) 0 0 0:=rfl
theorem bK (f:Nat->Int) (a b c:Int):(heA f a b c).all (·.oneCell')=true:=by simp[heA,Value.oneCell']
theorem fV (v:Value) (h:Hd) (w:World) (hr:ag w v h.ks) (hl:h.ks.length<=1099511627776):
  Calls Tryz.prog 145 #[HV v h] w fun e w'=>e=.returned (.tuple #[.agg (jQ h),.bool h.ok])/\bB w w':=by
 obtain⟨w1,hw1⟩:=eX ((w.alloc (.cells (hdA v h) 37)).alloc (.cells (heA (fun _=>0) 0 0 0) 165))
 have HB:Hid (bB w w1):=by rw[hw1];exactbA.alloc (by simp) _
 have P1:Hid (StB w1 w.heap.size 37 (hdA v h)):=by rw[hw1];exact(StB.new _ _ _).alloc _
 have R1:Hid (StB w1 (w.heap.size+1) 165 (heA (fun _=>0) 0 0 0)):=by
  rw[hw1];have:=StB.new (w.alloc (.cells (hdA v h) 37)) 165 (heA (fun _=>0) 0 0 0)
  rwa[World.size_alloc]at this
 have c1:=tL v h.ks w1 (hr.below HB.out (Nat.le_refl _)) hl;have c2:∀f wx,_:=fun f wx=>jP f h.kd h.ho h.tu wx
 have c3:=fun wx=>tJ h.tu wx
 have hs1:w.heap.size+1<w1.heap.size:=R1.out.lt;have F4:Hid (fD h.ks=true->h.ok=(jF (mJ h.ks) h.kd h.ho&&inI h.tu 0 1000000000)):=fun e=>by rw[DV e,lS e]
 have F5:Hid (fD h.ks=true->h.ok=true->jQ h=heA (mJ h.ks) h.kd h.ho h.tu):=fun e e2=>by rw[jQ,e2,lS e];rfl
 have F6:Hid (h.ok=false->jQ h=heA (fun _=>0) 0 0 0):=fun e=>by rw[jQ,e];rfl
 have F3:Hid (fD h.ks=false->h.ok=false):=AR;obtain⟨ao,cap,rfl⟩:=aa hr;obtain⟨rk,hrk⟩:=eX (fD h.ks)
 obtain⟨ok,hok⟩:=eX h.ok
 obtain⟨hv,hhv⟩:=eX (jQ h)
 rw[<-hrk]at c1 F3 F4 F5;rw[<-hok]at F3 F4 F5 F6⊢;rw[<-hhv]at F5 F6⊢;clear hrk hr hl hok hhv;unfold HV;rw[hdA,heA]at hw1;rw[hdA];obtain⟨f,hf⟩:=eX (mJ h.ks)
 rw[<-hf]at c1 F4 F5;clear hf;have p0:w1.cell? ⟨w.heap.size,0,none⟩=some (.slice ao h.ks.length cap):=P1.out.cell 0 rfl;have C2:Hid _:=c2;have C3:Hid _:=c3;clear c2 c3;go_enter Tryz.func145,Tryz.ntmps145;go_wp2_with fail
 rw[<-hw1];refine c1.mono ?_;rintro e w2 ⟨rfl,b2⟩;have HB2:Hid (bB w w2):=HB.out.trans (b2.mono HB.out.size);have P2:Hid (StB w2 w.heap.size 37 (hdA (.slice ao h.ks.length cap) h)):=P1.out.below b2;have R2:Hid (StB w2 (w.heap.size+1) 165 (heA (fun _=>0) 0 0 0)):=R1.out.below b2;have s2:w.heap.size+1<w2.heap.size:=R2.out.lt;have z2:StB (w2.alloc (.cells (kA fun _=>0) 163)) w2.heap.size 163 (kA fun _=>0):=StB.new _ _ _;clear b2 c1 P1 R1 HB hw1 p0 hs1;go_upto_region 2 with(first|(refine ia rfl _ _ rfl w2.heap.size f rfl rfl _ z2 ?_;intro w3 h3 g3))
 have HB3:Hid (bB w w3):=HB2.out.trans ((bA |>.grown g3 (by simp) (fun k e=>by cases e;exact Nat.le_refl _)).mono HB2.out.size);have b23:bB w2 w3:=bA |>.grown g3 (by simp) (fun k e=>by cases e;exact Nat.le_refl _)
 have P3:Hid (StB w3 w.heap.size 37 (hdA (.slice ao h.ks.length cap) h)):=P2.out.below b23;have R3:Hid (StB w3 (w.heap.size+1) 165 (heA (fun _=>0) 0 0 0)):=R2.out.below b23;have K3:=h3;have z3:StB (w3.alloc (.cells (heA (fun _=>0) 0 0 0) 165)) w3.heap.size 165 (heA (fun _=>0) 0 0 0):=StB.new _ _ _;have p1:w3.cell? ⟨w.heap.size,1,none⟩=some (.int .i64 h.kd):=P3.out.cell 1 rfl;have p2:w3.cell? ⟨w.heap.size,2,none⟩=some (.int .i64 h.ho):=P3.out.cell 2 rfl;have p3:w3.cell? ⟨w.heap.size,3,none⟩=some (.int .i64 h.tu):=P3.out.cell 3 rfl;have s3:=R3.out.lt;clear b23 g3 h3 P2 R2 HB2 z2;have k0:w3.cell? ⟨w2.heap.size,0,none⟩=some (.int .i64 (f 0)):=K3.cell 0 rfl;have k1:w3.cell? ⟨w2.heap.size,1,none⟩=some (.int .i64 (f 1)):=K3.cell 1 rfl;have k2:w3.cell? ⟨w2.heap.size,2,none⟩=some (.int .i64 (f 2)):=K3.cell 2 rfl;have k3:w3.cell? ⟨w2.heap.size,3,none⟩=some (.int .i64 (f 3)):=K3.cell 3 rfl;have HK3:Hid _:=K3;have Z3:Hid _:=z3;clear K3 z3;go_upto_region 3 with(first|(refine ae Tryz.isHeld rfl _ _ rfl w3.heap.size (heA f h.kd h.ho h.tu) _ rfl rfl rfl rfl (bK _ _ _ _) Z3.out ?_;intro w4 h4 g4))
 have b34:bB w3 w4:=bA |>.grown g4 (by simp) (fun k e=>by cases e;exact Nat.le_refl _)
 have HB4:Hid (bB w w4):=HB3.out.trans (b34.mono HB3.out.size);have R4:Hid (StB w4 (w.heap.size+1) 165 (heA (fun _=>0) 0 0 0)):=R3.out.below b34;have H4:Hid (StB w4 w3.heap.size 165 (heA f h.kd h.ho h.tu)):=h4;obtain⟨m0,m1,m2,m3,m4,m5,m6⟩:=aV h4;obtain⟨g,hg⟩:=eX w3.heap.size
 have HG:Hid (w.heap.size+1<g):=by rw[hg];exact s3
 rw[<-hg]at m0 m1 m2 m3 m4 m5 m6 H4⊢;clear hg b34 g4 h4 HB3 R3 P3 p1 p2 p3 k0 k1 k2 k3 HK3 Z3 s2 s3;cases rk with
 |false=>
  have E:=F3.out rfl;subst E;have E2:=F6.out rfl;subst E2;clear F3 F4 F5 F6 C2 C3 m0 m1 m2 m3 m4 m5 m6;go_wp2_with (first|(refine ae Tryz.isHeld rfl _ _ rfl (w.heap.size+1) (heA (fun _=>0) 0 0 0) _ rfl rfl rfl rfl (bK _ _ _ _) R4.out ?_;intro w5 h5 g5))
  refine bodyPost_ret (bE Tryz.isHeld rfl _ _ (w.heap.size+1) _ _ rfl rfl rfl h5) rfl ?_;exact⟨rfl,HB4.out.grown g5 HB4.out.size (fun k e=>by cases e;omega)⟩
 |true=>
  have G4:Hid _:=F4.out rfl;have G5:Hid _:=F5.out rfl;obtain⟨a,ha⟩:=eX (jF f h.kd h.ho)
  obtain⟨b,hb⟩:=eX (inI h.tu 0 1000000000)
  have c2:=C2.out f w4;have c3:=C3.out;rw[<-ha]at c2 G4;simp only[<-hb]at c3 G4;clear ha hb F3 F4 F5 C2 C3;unfold heA at c2;go_wp2_with fail
  refine c2.mono ?_;rintro e w5 ⟨rfl,b5⟩;have HB5:Hid (bB w w5):=HB4.out.trans (b5.mono HB4.out.size);have R5:Hid (StB w5 (w.heap.size+1) 165 (heA (fun _=>0) 0 0 0)):=R4.out.below b5;have H5:Hid (StB w5 g 165 (heA f h.kd h.ho h.tu)):=H4.out.below b5;obtain⟨-, -, -, -, -, -,n6⟩:=aV H5.out;clear m0 m1 m2 m3 m4 m5 m6 HB4 R4 H4 b5 c2;cases a with
  |false=>
   have E:ok=false:=by rw[G4.out];rfl
   subst E;have E2:=F6.out rfl;subst E2;clear G4 G5 F6 c3 n6;go_wp2_with (first|(refine ae Tryz.isHeld rfl _ _ rfl (w.heap.size+1) (heA (fun _=>0) 0 0 0) _ rfl rfl rfl rfl (bK _ _ _ _) R5.out ?_;intro w6 h6 g6))
   refine bodyPost_ret (bE Tryz.isHeld rfl _ _ (w.heap.size+1) _ _ rfl rfl rfl h6) rfl ?_;exact⟨rfl,HB5.out.grown g6 HB5.out.size (fun k e=>by cases e;omega)⟩
  |true=>
   cases b with
   |false=>
    have E:ok=false:=by rw[G4.out];rfl
    subst E;have E2:=F6.out rfl;subst E2;clear G4 G5 F6;go_wp2_with (first|(go_at_call 179;refine mo (c3 _) ?_)|(refine ae Tryz.isHeld rfl _ _ rfl (w.heap.size+1) (heA (fun _=>0) 0 0 0) _ rfl rfl rfl rfl (bK _ _ _ _) R5.out ?_;intro w6 h6 g6))
    refine bodyPost_ret (bE Tryz.isHeld rfl _ _ (w.heap.size+1) _ _ rfl rfl rfl h6) rfl ?_;exact⟨rfl,HB5.out.grown g6 HB5.out.size (fun k e=>by cases e;omega)⟩
   |true=>
    have E:ok=true:=by rw[G4.out];rfl
    subst E;have E2:=G5.out rfl;subst E2;clear G4 G5 F6;go_wp2_with (first|(go_at_call 179;refine mo (c3 _) ?_)|(refine ah Tryz.isHeld rfl _ rfl g rfl _ rfl H5.out ?_)|(refine ae Tryz.isHeld rfl _ _ rfl (w.heap.size+1) (heA f h.kd h.ho h.tu) _ rfl rfl rfl rfl (bK _ _ _ _) R5.out ?_;intro w6 h6 g6))
    refine bodyPost_ret (bE Tryz.isHeld rfl _ _ (w.heap.size+1) _ _ rfl rfl rfl h6) rfl ?_;exact⟨rfl,HB5.out.grown g6 HB5.out.size (fun k e=>by cases e;omega)⟩
theorem gG (h:Hd):∃f a b c,jQ h=heA f a b c/\(h.ok=true->f=KF h.ks/\a=h.kd/\b=h.ho/\c=h.tu):=by
 unfold jQ;cases h.ok
 ·exact⟨fun _=>0,0,0,0,rfl,fun e=>by cases e⟩
 ·exact⟨_,_,_,_,rfl,fun _=>⟨rfl,rfl,rfl,rfl⟩⟩
theorem tG (v:Value) (h:Hd) (w:World) (hr:ag w v h.ks) (hl:h.ks.length<=1099511627776):
  Calls Tryz.prog 104 #[HV v h] w fun e w'=>e=.returned (.bool h.ok)/\bB w w':=by
 have b1:bB w (w.alloc (.cells (hdA v h) 37)):=bA;have c1:=fV v h _ (hr.below b1 (Nat.le_refl _)) hl;obtain⟨ao,cap,rfl⟩:=aa hr;obtain⟨ok,hok⟩:=eX h.ok
 obtain⟨f,x,y,z,hf,hfo⟩:=gG h;rw[<-hok]at c1⊢;rw[hf]at c1;clear hok hf hfo hr hl;unfold HV hdA at*;go_enter Tryz.func104,Tryz.ntmps104;go_wp2_with fail
 refine c1.mono ?_;rintro e w2 ⟨rfl,b2⟩;have HB2:Hid (bB w w2):=b1.trans (b2.mono b1.size);have z2:Hid (StB (w2.alloc (.cells (heA (fun _=>0) 0 0 0) 165)) w2.heap.size 165 (heA (fun _=>0) 0 0 0)):=StB.new _ _ _;clear c1 b1 b2;go_wp2_with (first|(refine ae Tryz.isHeld rfl _ _ rfl w2.heap.size (heA f x y z) _ rfl rfl rfl rfl (bK _ _ _ _) z2.out ?_;intro w3 h3 g3))
 go_ret;exact⟨rfl,HB2.out.trans ((bA |>.grown g3 (by simp) (fun k e=>by cases e;exact Nat.le_refl _)).mono HB2.out.size)⟩
theorem mP (v:Value) (h:Hd) (w:World) (hr:ag w v h.ks) (h1:1<=h.ks.length) (hl:h.ks.length<=1099511627776):
  Calls Tryz.prog 112 #[HV v h] w fun e w'=>∃u,e=.returned (HV u h)/\Own w' w.heap.size u h.ks/\bB w w':=by
 obtain⟨ao,cap,rfl⟩:=aa hr;obtain⟨w1,hw1⟩:=eX ((w.alloc (.cells (hdA (.slice ao h.ks.length cap) h) 37)).alloc (.cells #[.slice none 0 0,.int .i64 0,.int .i64 0,.int .i64 0] 37))
 have HB:Hid (Bx w w1 (.slice ao h.ks.length cap) h):=by rw[hw1];exact Bx.start hr
 have c1:=js (.slice ao h.ks.length cap) h.ks w1 HB.out.2.2.2.2 h1 hl;have HW:Hid (w1=(w.alloc (.cells #[.slice ao h.ks.length cap,.int .i64 h.kd,.int .i64 h.ho,.int .i64 h.tu] 37)).alloc (.cells #[.slice none 0 0,.int .i64 0,.int .i64 0,.int .i64 0] 37)):=hw1;clear hw1 hr hl h1;unfold HV;conv in hdA (.slice ao h.ks.length cap) h=>unfold hdA
 go_enter Tryz.func112,Tryz.ntmps112;go_wp2_with fail
 rw[<-HW.out];clear HW;refine c1.mono ?_;rintro e w2 ⟨u,rfl,o2,b2⟩;have D2:Bx w w2 (.slice ao h.ks.length cap) h:=HB.out.next b2;obtain⟨ab,cb,rfl⟩:=aa o2.reads;have k0:w2.cell? ⟨w.heap.size,0,none⟩=some (.slice ao h.ks.length cap):=D2.1.cell 0 rfl;have f0:=D2.1.frozen 0;have G:=ai w2 w.heap.size 0 (.slice ab h.ks.length cb);have zq:StB (w2.setCell ⟨w.heap.size,0,none⟩ (.slice ab h.ks.length cb)) w.heap.size 37 (hdA (.slice ab h.ks.length cb) h):=D2.1.put 0 _ rfl;have zz:StB (w2.setCell ⟨w.heap.size,0,none⟩ (.slice ab h.ks.length cb)) (w.heap.size+1) 37 #[.slice none 0 0,.int .i64 0,.int .i64 0,.int .i64 0]:=D2.2.1.kept G (by intro e;have:=Option.some.inj e;omega);have HF:Hid (Own (w2.setCell ⟨w.heap.size,0,none⟩ (.slice ab h.ks.length cb)) w1.heap.size (.slice ab h.ks.length cb) h.ks/\bB w (w2.setCell ⟨w.heap.size,0,none⟩ (.slice ab h.ks.length cb))/\w.heap.size+2<=w1.heap.size):=by
  refine⟨o2.keptLt G (by have:=HB.out.2.2.2.1;omega),D2.2.2.1.setCell (Nat.le_refl _) _,HB.out.2.2.2.1⟩
 clear D2 G o2 b2 HB c1;go_wp2_with (first|(refine ah Tryz.isH rfl _ rfl w.heap.size rfl (hdA (.slice ab h.ks.length cb) h) rfl zq ?_)|(refine ae Tryz.isH rfl _ _ rfl (w.heap.size+1) (hdA (.slice ab h.ks.length cb) h) #[.slice none 0 0,.int .i64 0,.int .i64 0,.int .i64 0] rfl rfl rfl rfl (dB _ rfl) zz ?_;intro we se ge))
 refine bodyPost_ret (aj Tryz.isH rfl _ _ (w.heap.size+1) _ rfl rfl se) rfl ?_;exact⟨_,rfl,(HF.out.1.keptLt ge (by have:=HF.out.2.2;omega)).mono (by have:=HF.out.2.2;omega),HF.out.2.1.grown ge HF.out.2.1.size (fun x e=>by cases e;omega)⟩
theorem gl (u v q:Value) (xs ys:List Int) (h:Hd) (w:World) (hu:ag w u xs) (hv:ag w v ys) (hq:ag w q h.ks) (gx:xs.length<=1099511627776) (gy:ys.length<=1099511627776) (gk:h.ks.length<=1099511627776):
  Calls Tryz.prog 63 #[SRV u v q h] w fun e w'=>e=.returned (.bool (Sr.ok ⟨xs,ys,h⟩))/\bB w w':=by
 have B1:Hid (bB w (w.alloc (.cells (srA u v q h) 96))):=bA;have P1:Hid (StB (w.alloc (.cells (srA u v q h) 96)) w.heap.size 96 (srA u v q h)):=StB.new _ _ _;have c1:=iG u v xs ys _ (hu.below B1.out (Nat.le_refl _)) (hv.below B1.out (Nat.le_refl _)) gx gy;have c2:Hid (∀wx,bB w wx->Calls Tryz.prog 104 #[HV q h] wx fun e w'=>e=.returned (.bool h.ok)/\bB wx w'):=fun wx b=>tG q h wx (hq.below b (Nat.le_refl _)) gk
 have HE:Hid (Sr.ok ⟨xs,ys,h⟩=(au xs ys&&h.ok)):=rfl;obtain⟨r,hr⟩:=eX (Sr.ok ⟨xs,ys,h⟩)
 rw[<-hr]at HE⊢;obtain⟨b,hb⟩:=eX (au xs ys)
 obtain⟨o,ho⟩:=eX h.ok
 rw[<-hb,<-ho]at HE;rw[<-hb]at c1;rw[<-ho]at c2;obtain⟨uo,uc,rfl⟩:=aa hu;obtain⟨vo,vc,rfl⟩:=aa hv;obtain⟨qo,qc,rfl⟩:=aa hq;clear hu hv hq gx gy gk hr hb ho;unfold SRV srA at*;unfold HV hdA at c2;go_enter Tryz.func63,Tryz.ntmps63;go_wp2_with fail
 refine c1.mono ?_;rintro e w2 ⟨rfl,b2⟩;have B2:Hid (bB w w2):=B1.out.trans (b2.mono B1.out.size);have P2:=P1.out.below b2;have k2:=P2.cell 2 rfl;have k3:=P2.cell 3 rfl;have k4:=P2.cell 4 rfl;have k5:=P2.cell 5 rfl;clear b2 c1 B1 P1 P2;cases b with
 |false=>
  go_wp2;go_ret;exact⟨af (by rw[HE.out];rfl),B2.out⟩
 |true=>
  go_wp2_with fail
  refine(c2.out _ B2.out).mono ?_;rintro e w3 ⟨rfl,b3⟩;have B3:Hid (bB w w3):=B2.out.trans (b3.mono B2.out.size);clear b3 k2 k3 k4 k5 c2;go_wp2;go_ret;exact⟨af (by rw[HE.out];simp),B3.out⟩
theorem vK (l:Bs) (w:World) (hl:l.length<=1048576):
  Calls Tryz.prog 244 #[S l] w fun e w'=>e=.returned (.int .i64 (chk l))/\w'=w:=by
 have hsz:(⟨l.toArray⟩:ByteArray).size=l.length:=rfl;unfold S;go_enter Tryz.func244,Tryz.ntmps244;go_wp2;go_loop [3,7] (fun h i=>∃j:Nat,j<=l.length/\i=.int .i64 j/\∃x:Int,h=.int .i64 x/\0<=x/\x<999983/\Hid (x=chk (l.take j))) (fun _ i=>l.length-(intOf i).toNat)
 case atStart=>exact⟨0,Nat.zero_le _,rfl,19,rfl,by omega,by omega,by simp[Hid,chk]⟩
 case round=>
  obtain⟨j,hj,rfl,x,rfl,hx0,hx1,HX⟩:=hrel;by_cases hlt:(j:Int)<(l.length:Int)
  ·go_wp2
   go_round
   case rel=>
    have h1:j<l.length:=by omega
    have h2:=kD (l.take (j+1));have h3:=vn l j h1;rw[<-HX.out]at h3;exact⟨j+1,by omega,by go_num,_,congrArg (Value.int .i64) h3,h2.1,h2.2,rfl⟩
   case measure=>simp[intOf];omega
  ·go_wp2
   go_ret;have e:j=l.length:=by omega
   have:=HX.out;rw[e,List.take_length]at this;exact⟨cX this,rfl⟩
end Go.Proofs.YthldeiojlllkdaaGreatDoor
