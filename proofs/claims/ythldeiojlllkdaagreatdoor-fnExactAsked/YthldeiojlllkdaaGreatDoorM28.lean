/- Go's errors.As at a refusal: the variable that it is handed is fJ. -/
import Derived.Test.YthldeiojlllkdaaGreatDoorM1
import Derived.Test.YthldeiojlllkdaaGreatDoorM27
import Derived.Test.YthldeiojlllkdaaGreatDoorM12
import Derived.Test.YthldeiojlllkdaaGreatDoorM3
import Derived.Deep.DeepCutAuto
import Derived.Test.YthldeiojlllkdaaGreatDoorM2
import Derived.Test.YthldeiojlllkdaaGreatDoorM22
set_option maxRecDepth 20000
set_option maxHeartbeats 4000000
namespace Go.Proofs.YthldeiojlllkdaaGreatDoor
open Go.ChangeShapes Go.WideShapes Go.ChangeAt Go.RowKit
section
open Go.ChangeShapes Go.WideShapes Go.ChangeAt Go.RowKit Go.Extern
theorem k8 (w:World) (o:Obj) (row:Option Nat):w.grownBy (w.alloc o) row:=⟨rfl,rfl,rfl,by simp,fun k hk _=>Below.heap_alloc w o k hk⟩
theorem Tryz.asLoad (b:Nat) (x y:Value) (W:World) (h0:W.cell? ⟨b,0,none⟩=some x) (h1:W.cell? ⟨b,1,none⟩=some y):(loadVar 183 ⟨b,0,none⟩).run Tryz.prog W=.ok (.agg #[x,y]) W:=by
 have hs:=Tryz.asSize;simp[loadVar,isAgg,underlying,Tryz.underlying183,Result.andThen,hs,loadCells,loadCellsFrom,Addr.add,h0,h1]
theorem Tryz.asSet (g b:Nat) (t:TypeId) (p:Value) (s:ByteArray) (o0 o1:Value) (W:World) (h0:W.cell? ⟨b,0,none⟩=some (.iface t p)) (h1:W.cell? ⟨b,1,none⟩=some (.string s)) (S:StB W g 183 #[o0,o1]):
  (callFunc 240 #[.agg #[.pointer (some ⟨11,183,none⟩),.pointer (some ⟨g,0,none⟩),.int .u64 409],.agg #[.pointer (some ⟨11,183,none⟩),.pointer (some ⟨b,0,none⟩),.int .u64 153]]).run Tryz.prog W
   =.ok (.value (.tuple #[])) ((W.setCell ⟨g,0,none⟩ (.iface t p)).setCell ⟨g,1,none⟩ (.string s)):=by
 rw[@run_callFunc_extern Tryz.prog 240 _ ReflectliteValue.set Tryz.func240 (by kernel_rfl) (by kernel_rfl) (by kernel_rfl) (by kernel_rfl)];rw[rls];have hs:=Tryz.asSize;have t0:W.cell? ⟨g,0,none⟩=some o0:=S.cell 0 rfl;have f0:=S.frozen 0;have S':StB (W.setCell ⟨g,0,none⟩ (.iface t p)) g 183 #[.iface t p,o1]:=S.put 0 _ rfl;have t1:(W.setCell ⟨g,0,none⟩ (.iface t p)).cell? ⟨g,1,none⟩=some o1:=S'.cell 1 rfl;have f1:=S'.frozen 1;simp only[Sem.run_bind,Tryz.asPartsA,Tryz.asPartsR,Result.andThen];simp[ReflectliteValue.flagAddr,Tryz.asLoad b _ _ W h0 h1,Result.andThen,Tryz.asDirect,storeVar,Value.cells,storeCells,Addr.add,hs];rw[run_store Tryz.prog W ⟨g,0,none⟩ _ _ (by rfl)];simp only[t0,f0,if_neg Bool.false_ne_true];rw[run_store Tryz.prog (W.setCell ⟨g,0,none⟩ (.iface t p)) ⟨g,1,none⟩ _ _ (by rfl)];simp only[t1,f1,if_neg Bool.false_ne_true]
theorem DU (t:TypeId) (p:Value) (s:ByteArray) (g:Nat) (o0 o1:Value) (w:World) (hg:w.cell? ⟨4,0,none⟩=some (.iface 256 (.agg #[.pointer (some ⟨11,135,none⟩)]))) (S:StB w g 183 #[o0,o1]):
  Calls Tryz.prog 163 #[.iface 183 (.agg #[.iface t p,.string s]),.iface 185 (.pointer (some ⟨g,0,none⟩))] w fun e w'=>e=.returned (.bool true)/\StB w' g 183 #[.iface t p,.string s]/\w.grownBy w' (some g):=by
 obtain⟨W4,hW4⟩:=eX ((((w.alloc (.cells #[.pointer (some ⟨g,0,none⟩)] 185)).alloc (.cells #[.pointer (some ⟨11,185,none⟩),.pointer (some ⟨w.heap.size,0,none⟩),.int .u64 150] 227)).alloc (.cells #[.pointer (some ⟨11,185,none⟩),.pointer (some ⟨w.heap.size,0,none⟩),.int .u64 150] 227)).alloc (.cells #[.iface t p,.string s] 183))
 have b1:bB w (w.alloc (.cells #[.pointer (some ⟨g,0,none⟩)] 185)):=bA;have b2:=jC (o:=.cells #[.pointer (some ⟨11,185,none⟩),.pointer (some ⟨w.heap.size,0,none⟩),.int .u64 150] 227) b1;have b3:=jC (o:=.cells #[.pointer (some ⟨11,185,none⟩),.pointer (some ⟨w.heap.size,0,none⟩),.int .u64 150] 227) b2;have b4:=jC (o:=.cells #[.iface t p,.string s] 183) b3;rw[<-hW4]at b4;have hg2:=aI hg b2;have S1:=StB.new w 185 #[.pointer (some ⟨g,0,none⟩)];have S2:=S1.alloc (.cells #[.pointer (some ⟨11,185,none⟩),.pointer (some ⟨w.heap.size,0,none⟩),.int .u64 150] 227);have S3:=S2.alloc (.cells #[.pointer (some ⟨11,185,none⟩),.pointer (some ⟨w.heap.size,0,none⟩),.int .u64 150] 227);have n8:=Tryz.asIsNil ⟨w.heap.size,0,none⟩ ⟨g,0,none⟩ _ (S2.cell 0 rfl);have el:=Tryz.asElemV ⟨w.heap.size,0,none⟩ ⟨g,0,none⟩ _ (S3.cell 0 rfl);have S4:StB W4 (w.heap.size+1+1+1) 183 #[.iface t p,.string s]:=by
  have:=StB.new ((((w.alloc (.cells #[.pointer (some ⟨g,0,none⟩)] 185)).alloc (.cells #[.pointer (some ⟨11,185,none⟩),.pointer (some ⟨w.heap.size,0,none⟩),.int .u64 150] 227)).alloc (.cells #[.pointer (some ⟨11,185,none⟩),.pointer (some ⟨w.heap.size,0,none⟩),.int .u64 150] 227))) 183 #[.iface t p,.string s];simp only[World.size_alloc]at this;rw[hW4];exact this
 have SG:=S.below b4;have G4:w.grownBy W4 (some g):=by rw[hW4];exact(((k8 _ _ _).trans (k8 _ _ _)).trans (k8 _ _ _)).trans (k8 _ _ _)
 have st:=Tryz.asSet g (w.heap.size+1+1+1) t p s o0 o1 W4 (S4.cell 0 rfl) (S4.cell 1 rfl) SG;have HF:Hid (StB ((W4.setCell ⟨g,0,none⟩ (.iface t p)).setCell ⟨g,1,none⟩ (.string s)) g 183 #[.iface t p,.string s]/\w.grownBy ((W4.setCell ⟨g,0,none⟩ (.iface t p)).setCell ⟨g,1,none⟩ (.string s)) (some g)):=
  ⟨(SG.put 0 _ rfl).put 1 _ rfl,G4.trans ((ai _ _ _ _).trans (ai _ _ _ _))⟩
 rw[hW4]at st HF;have f6:=Tryz.asValueOf;have f6':=Tryz.asValueOfR;have f7:=Tryz.asType;have mK:=Tryz.asMethodKind;have kP:=Tryz.asKindP;have kR:=Tryz.asKindR;have mE:=Tryz.asMethodElem;have mI:=Tryz.asMethodImplements;have mA:=Tryz.asMethodAssignableTo;have eT:=Tryz.asElemT;have iR:=Tryz.asImplements;have tO:=Tryz.asTypeOf;have aR:=Tryz.asAssignable;clear G4 b1 b2 b3 b4 S1 S2 S3 S4 SG hW4 S hg;go_enter Tryz.func163,Tryz.ntmps163;go_wp2_with (go_at_call 205;go_in)
 refine wp_loop_rounds 1 ?_;rw[rounds_succ];go_wp2;go_ret;exact⟨rfl,HF.out⟩
end
structure eO where
 n:Addr
 r:Addr
 u:Addr
 c:Addr
def eO.at (f:eO) (st:Int):Addr:=if st=1 then f.r else if st=2 then f.u else if st=3 then f.c else f.n
def rfV (f:eO) (st:Int) (tx:Bs):Value:=.iface 183 (.agg #[.iface 328 (.pointer (some (f.at st))),.string ⟨tx.toArray⟩])
def jH (f:eO) (st:Int) (tx:Bs):Value:=if st=0 then .nilIface else rfV f st tx
theorem rU (f:eO) (tx:Bs):jH f 0 tx=.nilIface:=rfl
theorem ua (f:eO) {st:Int} (h:st≠0) (tx:Bs):jH f st tx=rfV f st tx:=by unfold jH;rw[if_neg h]
def kt (w:World) (a:Addr):Prop:=∃c t,w.heap[a.block]?=some (.cells c t (0,0))
theorem kt.below {w w':World} {a:Addr} (h:kt w a) (b:bB w w'):kt w' a:=by
 obtain⟨c,t,h⟩:=h;have hl:a.block<w.heap.size:=by
  rcases Nat.lt_or_ge a.block w.heap.size with e|e
  ·exact e
  ·rw[Array.getElem?_eq_none e]at h;cases h
 exact⟨c,t,by rw[b.block _ hl];exact h⟩
structure Sen (f:eO) (w:World):Prop where
 n:w.cell? ⟨0,0,none⟩=some (.iface 328 (.pointer (some f.n)))
 r:w.cell? ⟨1,0,none⟩=some (.iface 328 (.pointer (some f.r)))
 u:w.cell? ⟨2,0,none⟩=some (.iface 328 (.pointer (some f.u)))
 c:w.cell? ⟨3,0,none⟩=some (.iface 328 (.pointer (some f.c)))
 ty:w.cell? ⟨4,0,none⟩=some (.iface 256 (.agg #[.pointer (some ⟨11,135,none⟩)]))
 hn:kt w f.n
 hr:kt w f.r
 hu:kt w f.u
 hc:kt w f.c
 nr:f.n≠f.r
 nu:f.n≠f.u
 nc:f.n≠f.c
 ur:f.u≠f.r
 cr:f.c≠f.r
 cu:f.c≠f.u
theorem Sen.below {f:eO} {w w':World} (h:Sen f w) (b:bB w w'):Sen f w':=
 ⟨aI h.n b,aI h.r b,aI h.u b,aI h.c b,aI h.ty b,h.hn.below b,h.hr.below b,h.hu.below b,h.hc.below b,h.nr,h.nu,h.nc,h.ur,h.cr,h.cu⟩
theorem da (t:TypeId) (p:Value) (w:World):
  Calls Tryz.prog 155 #[.iface t p] w fun e w'=>e=.returned (.iface 183 (.agg #[.iface t p,.string ⟨#[]⟩]))/\w'=w:=by
 go_enter Tryz.func155,Tryz.ntmps155;go_wp2;go_ret;exact⟨rfl,rfl⟩
def lU (code:Int):Int:=if code=0 then 0 else if code=1 then 3 else 1
theorem ub (f:eO) (code:Int) (w:World) (S:Sen f w):
  Calls Tryz.prog 199 #[.int .i64 code] w fun e w'=>e=.returned (jH f (lU code) [])/\w'=w:=by
 have hr:=S.r;have hc:=S.c;have H0:Hid (code=0->jH f (lU code) []=.nilIface):=fun e=>by subst e;rfl
 have H1:Hid (code=1->jH f (lU code) []=.iface 183 (.agg #[.iface 328 (.pointer (some f.c)),.string ⟨#[]⟩])):=fun e=>by subst e;rfl
 have H2:Hid (code≠0->code≠1->jH f (lU code) []=.iface 183 (.agg #[.iface 328 (.pointer (some f.r)),.string ⟨#[]⟩])):=fun e e'=>by
  unfold lU;rw[if_neg e,if_neg e'];rfl
 obtain⟨V,hV⟩:=eX (jH f (lU code) [])
 rw[<-hV]at H0 H1 H2⊢;clear hV S;by_cases h0:code=0
 ·rw[H0.out h0]
  clear H0 H1 H2;go_enter Tryz.func199,Tryz.ntmps199;go_wp2;go_ret;exact⟨rfl,rfl⟩
 ·by_cases h1:code=1
  ·rw[H1.out h1]
   clear H0 H1 H2;go_enter Tryz.func199,Tryz.ntmps199;go_wp2_with (go_at_call 155;refine(da _ _ _).mono ?_;rintro e w' ⟨rfl,hw'⟩;subst w')
   go_ret;exact⟨rfl,rfl⟩
  ·rw[H2.out h0 h1]
   clear H0 H1 H2;go_enter Tryz.func199,Tryz.ntmps199;go_wp2_with (go_at_call 155;refine(da _ _ _).mono ?_;rintro e w' ⟨rfl,hw'⟩;subst w')
   go_ret;exact⟨rfl,rfl⟩
theorem rV (f:eO) (an:An) (w:World) (S:Sen f w) (hs:an.st=0∨(an.st=1/\an.tx=[])∨an.st=2∨(an.st=7/\an.tx=[])):
  Calls Tryz.prog 196 #[AV an] w fun e w'=>e=.returned (jH f an.st an.tx)/\bB w w':=by
 have b0:bB w (w.alloc (.cells #[.int .i64 an.st,.string ⟨an.tx.toArray⟩] 44)):=bA;have P0:=StB.new w 44 #[.int .i64 an.st,.string ⟨an.tx.toArray⟩];have k0:(w.alloc (.cells #[.int .i64 an.st,.string ⟨an.tx.toArray⟩] 44)).cell? ⟨w.heap.size,0,none⟩=some (.int .i64 an.st):=P0.cell 0 rfl;have k1:(w.alloc (.cells #[.int .i64 an.st,.string ⟨an.tx.toArray⟩] 44)).cell? ⟨w.heap.size,1,none⟩=some (.string ⟨an.tx.toArray⟩):=P0.cell 1 rfl;have S':=S.below b0;have hr:=S'.r;have hu:=S'.u;have hn:=S'.n;have HB:Hid (bB w (w.alloc (.cells #[.int .i64 an.st,.string ⟨an.tx.toArray⟩] 44))):=b0;clear P0 S' S b0;obtain⟨st,tx⟩:=an;dsimp only at*;unfold AV anA S;dsimp only;rcases hs with rfl|⟨rfl,rfl⟩|rfl|⟨rfl,rfl⟩
 ·rw[rU]
  go_enter Tryz.func196,Tryz.ntmps196;go_wp2;go_ret;exact⟨rfl,HB.out⟩
 ·rw[show jH f 1 []=.iface 183 (.agg #[.iface 328 (.pointer (some f.r)),.string ⟨#[]⟩])from rfl]
  go_enter Tryz.func196,Tryz.ntmps196;go_wp2_with (go_at_call 155;refine(da _ _ _).mono ?_;rintro e w' ⟨rfl,hw'⟩;subst w')
  go_ret;exact⟨rfl,HB.out⟩
 ·rw[show jH f 2 tx=.iface 183 (.agg #[.iface 328 (.pointer (some f.u)),.string ⟨tx.toArray⟩])from rfl]
  go_enter Tryz.func196,Tryz.ntmps196;go_wp2;go_ret;exact⟨rfl,HB.out⟩
 ·rw[show jH f 7 []=.iface 183 (.agg #[.iface 328 (.pointer (some f.n)),.string ⟨#[]⟩])from rfl]
  go_enter Tryz.func196,Tryz.ntmps196;go_wp2_with (go_at_call 155;refine(da _ _ _).mono ?_;rintro e w' ⟨rfl,hw'⟩;subst w')
  go_ret;exact⟨rfl,HB.out⟩
theorem CI (a b:Addr) (y:Value) (w:World) (ha:kt w a) (hb:kt w b):
  Calls Tryz.prog 162 #[.iface 183 (.agg #[.iface 328 (.pointer (some a)),y]),.iface 328 (.pointer (some b))] w fun e w'=>e=.returned (.bool (decide (a=b)))/\bB w w':=by
 by_cases h:a=b
 ·subst h
  rw[decide_eq_true rfl];exact Cr a y w
 ·rw[decide_eq_false h]
  obtain⟨ca,ta,ha⟩:=ha;obtain⟨cb,tb,hb⟩:=hb;exact AM a b y ca cb ta tb w h ha hb
theorem ue (f:eO) (st:Int) (tx:Bs) (w:World) (S:Sen f w) (hs:st=1∨st=2∨st=3∨st=7):
  Calls Tryz.prog 118 #[rfV f st tx] w fun e w'=>e=.returned (.int .i64 st)/\bB w w':=by
 have ha:∀wx,Sen f wx->kt wx (f.at st):=by
  intro wx S;unfold eO.at;split
  ·exact S.hr
  ·split
   ·exact S.hu
   ·split
    ·exact S.hc
    ·exact S.hn
 have C:Hid (∀wx b,Sen f wx->kt wx b->Calls Tryz.prog 162 #[rfV f st tx,.iface 328 (.pointer (some b))] wx fun e w'=>e=.returned (.bool (decide (f.at st=b)))/\bB wx w'):=fun wx b S hb=>CI _ _ _ wx (ha wx S) hb
 have E1:Hid (decide (f.at st=f.r)=decide (st=1)/\(st≠1->decide (f.at st=f.u)=decide (st=2))/\(st≠1->st≠2->decide (f.at st=f.c)=decide (st=3))):=by
  rcases hs with rfl|rfl|rfl|rfl
  ·exact⟨by simp[eO.at],fun h=>absurd rfl h,fun h=>absurd rfl h⟩
  ·exact⟨by simp[eO.at,S.ur],fun _=>by simp[eO.at],fun _ h=>absurd rfl h⟩
  ·exact⟨by simp[eO.at,S.cr],fun _=>by simp[eO.at,S.cu],fun _ _=>by simp[eO.at]⟩
  ·exact⟨by simp[eO.at,S.nr],fun _=>by simp[eO.at,S.nu],fun _ _=>by simp[eO.at,S.nc]⟩
 have HS:Hid (Sen f w):=S;have k1:=S.r;obtain⟨V,hV⟩:=eX (rfV f st tx)
 have hI:∃t p,V=.iface t p:=⟨_,_,hV⟩
 rw[<-hV]at C⊢;obtain⟨t,p,rfl⟩:=hI;clear S hV ha;go_enter Tryz.func118,Tryz.ntmps118;go_wp2_with fail
 refine(C.out _ _ HS.out HS.out.hr).mono ?_;rintro e w1 ⟨rfl,b1⟩;rw[E1.out.1];by_cases h1:st=1
 ·subst h1
  rw[decide_eq_true rfl];go_wp2;go_ret;exact⟨rfl,b1⟩
 ·rw[decide_eq_false h1]
  have HS1:Hid (Sen f w1):=HS.out.below b1;have HB1:Hid (bB w w1):=b1;have k2:=HS1.out.u;clear b1 k1;go_wp2_with fail
  refine(C.out _ _ HS1.out HS1.out.hu).mono ?_;rintro e w2 ⟨rfl,b2⟩;rw[E1.out.2.1 h1];by_cases h2:st=2
  ·subst h2
   have HB2:Hid (bB w w2):=HB1.out.trans (b2.mono HB1.out.size);rw[decide_eq_true rfl];go_wp2;go_ret;exact⟨rfl,HB2.out⟩
  ·rw[decide_eq_false h2]
   have HS2:Hid (Sen f w2):=HS1.out.below b2;have HB2:Hid (bB w w2):=HB1.out.trans (b2.mono HB1.out.size);have k3:=HS2.out.c;clear b2 k2;go_wp2_with fail
   refine(C.out _ _ HS2.out HS2.out.hc).mono ?_;rintro e w3 ⟨rfl,b3⟩;have HB3:Hid (bB w w3):=HB2.out.trans (b3.mono HB2.out.size);rw[E1.out.2.2 h1 h2];clear k3 b3;by_cases h3:st=3
   ·subst h3
    rw[decide_eq_true rfl];go_wp2;go_ret;exact⟨rfl,HB3.out⟩
   ·have h7:st=7:=by omega
    subst h7;rw[decide_eq_false (by decide)];go_wp2;go_ret;exact⟨rfl,HB3.out⟩
theorem zv (f:eO) (st:Int) (tx:Bs) (w:World) (S:Sen f w):
  Calls Tryz.prog 119 #[rfV f st tx] w fun e w'=>e=.returned (.string ⟨tx.toArray⟩)/\bB w w':=by
 obtain⟨w1,hw1⟩:=eX (w.alloc (.cells #[.nilIface,.string ⟨#[]⟩] 183))
 have b1:bB w w1:=by rw[hw1];exactbA
 have P1:StB w1 w.heap.size 183 #[.nilIface,.string ⟨#[]⟩]:=by rw[hw1];exact StB.new _ _ _
 have c:=DU 328 (.pointer (some (f.at st))) ⟨tx.toArray⟩ w.heap.size _ _ w1 (S.below b1).ty P1;have HB:Hid (bB w w1):=b1;unfold rfV;clear b1 P1 S;go_enter Tryz.func119,Tryz.ntmps119;go_upto_region 2 with fail
 rw[<-hw1];clear hw1;go_wp2_with fail
 refine c.mono ?_;rintro e w2 ⟨rfl,s2,g2⟩;have k1:w2.cell? ⟨w.heap.size,1,none⟩=some (.string ⟨tx.toArray⟩):=s2.cell 1 rfl;have HB2:Hid (bB w w2):=HB.out.grown g2 HB.out.size (fun k e=>by cases e;exact Nat.le_refl _);clear s2 g2 c;go_wp2;go_ret;exact⟨rfl,HB2.out⟩
def wiA (i k d:Int):Array Value:=#[.int .i64 i,.int .i64 k,.int .i64 d]
theorem Tryz.isWish:IsS 297 3:=⟨⟨_,Tryz.underlying297⟩,by kernel_rfl⟩
theorem lZ {w:World} {g:Nat} {i k d:Int} (h:StB w g 297 (wiA i k d)):
  w.cell? ⟨g,0,none⟩=some (.int .i64 i)/\w.cell? ⟨g,1,none⟩=some (.int .i64 k)/\w.cell? ⟨g,2,none⟩=some (.int .i64 d):=
 ⟨h.cell 0 rfl,h.cell 1 rfl,h.cell 2 rfl⟩
def eu:Array Value:=heA (fun _=>0) 0 0 0
def HW (w w1:World) (f:Nat->Int) (kd ho tu i k d:Int):Prop:=
 StB w1 w.heap.size 165 (heA f kd ho tu)/\StB w1 (w.heap.size+1) 297 (wiA i k d)/\StB w1 (w.heap.size+2) 165 eu/\bB w w1
theorem HW.start (w:World) (f:Nat->Int) (kd ho tu i k d:Int):HW w (((w.alloc (.cells (heA f kd ho tu) 165)).alloc (.cells (wiA i k d) 297)).alloc (.cells eu 165)) f kd ho tu i k d:=by
 refine⟨((StB.new _ _ _).alloc _).alloc _,?_,?_,(bA.alloc (by simp) _).alloc (by simp;omega) _⟩
 ·have:=StB.new (w.alloc (.cells (heA f kd ho tu) 165)) 297 (wiA i k d)
  rw[World.size_alloc]at this;exact this.alloc _
 ·have:=StB.new ((w.alloc (.cells (heA f kd ho tu) 165)).alloc (.cells (wiA i k d) 297)) 165 eu
  rw[World.size_alloc,World.size_alloc]at this;exact this
theorem HW.next {w w1 w2:World} {f:Nat->Int} {kd ho tu i k d:Int} (h:HW w w1 f kd ho tu i k d) (b:bB w1 w2):HW w w2 f kd ho tu i k d:=
 ⟨h.1.below b,h.2.1.below b,h.2.2.1.below b,h.2.2.2.trans (b.mono h.2.2.2.size)⟩
theorem HW.drew {w w1:World} {f:Nat->Int} {kd ho tu i k d:Int} (h:HW w w1 f kd ho tu i k d):HW w w1.drew f kd ho tu i k d:=⟨h.1,h.2.1,h.2.2.1,h.2.2.2.drew⟩
theorem HW.lt {w w1:World} {f:Nat->Int} {kd ho tu i k d:Int} (h:HW w w1 f kd ho tu i k d):w.heap.size+2<w1.heap.size:=h.2.2.1.lt
theorem HW.set {w w1 w2:World} {f g:Nat->Int} {kd ho tu i k d kd' ho' tu':Int} (h:HW w w1 f kd ho tu i k d) (s:StB w2 w.heap.size 165 (heA g kd' ho' tu')) (b:w1.grownBy w2 (some w.heap.size)):HW w w2 g kd' ho' tu' i k d:=
 ⟨s,h.2.1.kept b (by simp),h.2.2.1.kept b (by simp),h.2.2.2.grown b h.2.2.2.size (fun x e=>by cases e;exact Nat.le_refl _)⟩
theorem HW.put {w w1:World} {f g:Nat->Int} {kd ho tu i k d kd' ho' tu':Int} (h:HW w w1 f kd ho tu i k d) (j:Nat) (x:Int) (e:(heA f kd ho tu).setIfInBounds j (.int .i64 x)=heA g kd' ho' tu'):HW w (w1.setCell ⟨w.heap.size,j,none⟩ (.int .i64 x)) g kd' ho' tu' i k d:=
 h.set (h.1.put j _ e) (ai w1 _ j _)
theorem uj (i k d:Int) (w:World):
  Calls Tryz.prog 272 #[.agg (wiA i k d)] w fun e w'=>e=.returned (.bool (inI k 0 9999))/\bB w w':=by
 have b1:bB w (w.alloc (.cells (wiA i k d) 297)):=bA;have c1:=fun wx=>iI k wx
 unfold wiA at*;go_enter Tryz.func272,Tryz.ntmps272;go_wp2_with (first|(go_at_call 213;refine mo (c1 _) ?_))
 go_ret;exact⟨rfl,b1⟩
theorem pK (i k d:Int) (w:World):
  Calls Tryz.prog 275 #[.agg (wiA i k d)] w fun e w'=>e=.returned (.bool (kiI d))/\bB w w':=by
 have b1:bB w (w.alloc (.cells (wiA i k d) 297)):=bA;have c1:=fun wx=>jv d wx
 unfold wiA at*;go_enter Tryz.func275,Tryz.ntmps275;go_wp2_with (first|(go_at_call 216;refine(c1 _).mono ?_;rintro e w2 ⟨rfl,b2⟩))
 go_ret;exact⟨rfl,b1.trans (b2.mono b1.size)⟩
theorem jT (i k d:Int) (w:World):
  Calls Tryz.prog 278 #[.agg (wiA i k d)] w fun e w'=>e=.returned (.bool true)/\bB w w':=by
 have b1:bB w (w.alloc (.cells (wiA i k d) 297)):=bA;unfold wiA at*;go_enter Tryz.func278,Tryz.ntmps278;go_wp2;go_ret;exact⟨rfl,b1⟩
theorem Bg (k:Int):(inI k 0 9999&&(k !=0))=inI k 1 9999:=by
 rw[Bool.eq_iff_iff];simp[inI];omega
theorem uk (i k d:Int) (w:World):
  Calls Tryz.prog 282 #[.agg (wiA i k d)] w fun e w'=>e=.returned (.bool (inI k 1 9999&&kiI d))/\bB w w':=by
 have b1:bB w (w.alloc (.cells (wiA i k d) 297)):=bA;have c1:=fun wx=>iI k wx
 have c2:=fun wx=>jv d wx
 have HE:Hid ((inI k 0 9999&&(k !=0))=inI k 1 9999):=Bg k;obtain⟨x,hx⟩:=eX (inI k 0 9999)
 obtain⟨y,hy⟩:=eX (kiI d)
 obtain⟨z,hz⟩:=eX (inI k 1 9999)
 rw[<-hx,<-hz]at HE;rw[<-hy,<-hz];simp only[<-hx]at c1;simp only[<-hy]at c2;clear hx hy hz;unfold wiA at*;cases x with
 |false=>
  have E:Hid (z=false):=by rw[Hid,<-HE.out];simp
  clear HE;go_enter Tryz.func282,Tryz.ntmps282;go_wp2_with (first|(go_at_call 213;refine mo (c1 _) ?_))
  go_ret;exact⟨af (by rw[E.out];simp),b1⟩
 |true=>
  by_cases k0:k=0
  ·have E:Hid (z=false):=by rw[Hid,<-HE.out];simp[k0]
   have kn:(k !=0)=false:=by simpa using k0
   clear HE k0;go_enter Tryz.func282,Tryz.ntmps282;go_wp2_with (first|(go_at_call 213;refine mo (c1 _) ?_))
   go_ret;exact⟨af (by rw[E.out];simp),b1⟩
  ·have E:Hid (z=true):=by rw[Hid,<-HE.out];simp[k0]
   have kn:(k !=0)=true:=by simpa using k0
   clear HE k0;go_enter Tryz.func282,Tryz.ntmps282;go_wp2_with (first|(go_at_call 213;refine mo (c1 _) ?_)|(go_at_call 216;refine(c2 _).mono ?_;rintro e w2 ⟨rfl,b2⟩))
   go_ret;exact⟨af (by rw[E.out];simp),b1.trans (b2.mono b1.size)⟩
theorem ul (f:Nat->Int) (kd ho tu i k d:Int) (w:World):
  Calls Tryz.prog 273 #[.agg (heA f kd ho tu),.agg (wiA i k d)] w fun e w'=>e=.returned (.bool false)/\bB w w':=by
 have b1:bB w ((w.alloc (.cells (heA f kd ho tu) 165)).alloc (.cells (wiA i k d) 297)):=bA.alloc (by simp) _;unfold wiA heA at*;go_enter Tryz.func273,Tryz.ntmps273;go_wp2;go_ret;exact⟨rfl,b1⟩
def HW2 (w w1:World) (f:Nat->Int) (kd ho tu i k d:Int):Prop:=
 StB w1 w.heap.size 165 (heA f kd ho tu)/\StB w1 (w.heap.size+1) 297 (wiA i k d)/\bB w w1
theorem HW2.start (w:World) (f:Nat->Int) (kd ho tu i k d:Int):HW2 w ((w.alloc (.cells (heA f kd ho tu) 165)).alloc (.cells (wiA i k d) 297)) f kd ho tu i k d:=by
 refine⟨(StB.new _ _ _).alloc _,?_,bA.alloc (by simp) _⟩;have:=StB.new (w.alloc (.cells (heA f kd ho tu) 165)) 297 (wiA i k d);rw[World.size_alloc]at this;exact this
theorem HW2.next {w w1 w2:World} {f:Nat->Int} {kd ho tu i k d:Int} (h:HW2 w w1 f kd ho tu i k d) (b:bB w1 w2):HW2 w w2 f kd ho tu i k d:=
 ⟨h.1.below b,h.2.1.below b,h.2.2.trans (b.mono h.2.2.size)⟩
theorem HW2.drew {w w1:World} {f:Nat->Int} {kd ho tu i k d:Int} (h:HW2 w w1 f kd ho tu i k d):HW2 w w1.drew f kd ho tu i k d:=⟨h.1,h.2.1,h.2.2.drew⟩
def lr (f:Nat->Int) (i:Int):Bool:= !(inI i 0 3&&decide (f i.toNat≠0))
theorem gm (f:Nat->Int) (kd ho tu i k d:Int) (w:World):
  Calls Tryz.prog 279 #[.agg (heA f kd ho tu),.agg (wiA i k d)] w fun e w'=>e=.returned (.bool (lr f i))/\bB w w':=by
 obtain⟨w1,hw1⟩:=eX ((w.alloc (.cells (heA f kd ho tu) 165)).alloc (.cells (wiA i k d) 297))
 have HS:Hid (HW2 w w1 f kd ho tu i k d):=by rw[hw1];exact HW2.start _ _ _ _ _ _ _ _
 have c1:=jt f i w1;obtain⟨x,hx⟩:=eX ((inI i 0 3&&decide (f i.toNat≠0)))
 unfold lr;rw[<-hx]at c1⊢;clear hx;unfold kA at c1;rw[heA,wiA]at hw1⊢;go_enter Tryz.func279,Tryz.ntmps279;go_wp2_with fail
 rw[<-hw1];refine c1.mono ?_;rintro e w2 ⟨rfl,b2⟩;replace HS:=HS.out.next b2;clear hw1 c1 b2;go_wp2;go_ret;exact⟨rfl,HS.2.2⟩
def HR (w w1:World) (f:Nat->Int) (kd ho tu:Int):Prop:=
 StB w1 w.heap.size 165 (heA f kd ho tu)/\StB w1 (w.heap.size+1) 165 eu/\bB w w1
theorem HR.start (w:World) (f:Nat->Int) (kd ho tu:Int):HR w ((w.alloc (.cells (heA f kd ho tu) 165)).alloc (.cells eu 165)) f kd ho tu:=by
 refine⟨(StB.new _ _ _).alloc _,?_,bA.alloc (by simp) _⟩;have:=StB.new (w.alloc (.cells (heA f kd ho tu) 165)) 165 eu;rw[World.size_alloc]at this;exact this
theorem HR.put {w w1:World} {f g:Nat->Int} {kd ho tu kd' ho' tu':Int} (h:HR w w1 f kd ho tu) (j:Nat) (x:Int) (e:(heA f kd ho tu).setIfInBounds j (.int .i64 x)=heA g kd' ho' tu'):HR w (w1.setCell ⟨w.heap.size,j,none⟩ (.int .i64 x)) g kd' ho' tu':=
 ⟨h.1.put j _ e,h.2.1.kept (ai w1 _ j _) (by simp),h.2.2.grown (ai w1 _ j _) h.2.2.size (fun x e=>by cases e;exact Nat.le_refl _)⟩
theorem jc (f:Nat->Int) (kd ho tu:Int) (w:World):
  Calls Tryz.prog 287 #[.agg (heA f kd ho tu)] w fun e w'=>e=.returned (.agg (heA f 0 (-1) tu))/\bB w w':=by
 obtain⟨w1,hw1⟩:=eX ((w.alloc (.cells (heA f kd ho tu) 165)).alloc (.cells eu 165))
 have HS:Hid (HR w w1 f kd ho tu):=by rw[hw1];exact HR.start _ _ _ _ _
 obtain⟨w2,hw2⟩:=eX ((w1.setCell ⟨w.heap.size,4,none⟩ (.int .i64 0)).setCell ⟨w.heap.size,5,none⟩ (.int .i64 (-1)))
 have HS2:Hid (HR w w2 f 0 (-1) tu):=by rw[hw2];exact(HS.out.put 4 0 rfl).put 5 (-1) rfl
 obtain⟨-, -, -, -,m4,m5, -⟩:=aV HS.out.1;have f4:=HS.out.1.frozen 4;have f5:=HS.out.1.frozen 5;clear HS;rw[heA,eu,heA]at hw1;rw[heA];go_enter Tryz.func287,Tryz.ntmps287;go_upto_region 1 with fail
 rw[<-hw1];clear hw1;go_upto_region 2 with fail
 rw[<-hw2];clear hw2 m4 m5 f4 f5;go_wp2_with (first|(refine ah Tryz.isHeld rfl _ rfl w.heap.size rfl (heA f 0 (-1) tu) rfl HS2.out.1 ?_)|(refine ae Tryz.isHeld rfl _ _ rfl (w.heap.size+1) (heA f 0 (-1) tu) eu rfl rfl rfl rfl (bK _ _ _ _) HS2.out.2.1 ?_;intro w3 h3 g3))
 refine bodyPost_ret (aj Tryz.isHeld rfl _ _ (w.heap.size+1) _ rfl rfl h3) rfl ?_;exact⟨rfl,HS2.out.2.2.grown g3 HS2.out.2.2.size (fun k e=>by cases e;omega)⟩
theorem fX (f:Nat->Int) (kd ho tu:Int) (w:World) (t0:0<=tu) (t1:tu<=1000000000):
  Calls Tryz.prog 288 #[.agg (heA f kd ho tu)] w fun e w'=>e=.returned (.agg (heA f kd ho (cL tu)))/\bB w w':=by
 obtain⟨w1,hw1⟩:=eX ((w.alloc (.cells (heA f kd ho tu) 165)).alloc (.cells eu 165))
 have HS:Hid (HR w w1 f kd ho tu):=by rw[hw1];exact HR.start _ _ _ _ _
 obtain⟨w2,hw2⟩:=eX (w1.setCell ⟨w.heap.size,6,none⟩ (.int .i64 (cL tu)))
 have HS2:Hid (HR w w2 f kd ho (cL tu)):=by rw[hw2];exact HS.out.put 6 (cL tu) rfl
 obtain⟨-, -, -, -, -, -,m6⟩:=aV HS.out.1;have f6:=HS.out.1.frozen 6;have hwr:IntKind.i64.wrap (tu+1)=tu+1:=by rw[IntKind.wrap_i64];omega
 clear HS;rw[heA,eu,heA]at hw1;rw[heA];by_cases ht:tu=1000000000
 ·have htb:(tu==1000000000)=true:=by simpa using ht
  have e1:cL tu=0:=by unfold cL;rw[if_pos (by omega)]
  rw[e1]at hw2 HS2⊢;clear ht e1 t0 t1 hwr;go_enter Tryz.func288,Tryz.ntmps288;go_upto_region 1 with fail
  rw[<-hw1];clear hw1;go_upto_region 4 with fail
  rw[<-hw2];clear hw2 m6 f6;go_wp2_with (first|(refine ah Tryz.isHeld rfl _ rfl w.heap.size rfl (heA f kd ho 0) rfl HS2.out.1 ?_)|(refine ae Tryz.isHeld rfl _ _ rfl (w.heap.size+1) (heA f kd ho 0) eu rfl rfl rfl rfl (bK _ _ _ _) HS2.out.2.1 ?_;intro w3 h3 g3))
  refine bodyPost_ret (aj Tryz.isHeld rfl _ _ (w.heap.size+1) _ rfl rfl h3) rfl ?_;exact⟨rfl,HS2.out.2.2.grown g3 HS2.out.2.2.size (fun k e=>by cases e;omega)⟩
 ·have htb:(tu==1000000000)=false:=by simpa using ht
  have e1:cL tu=tu+1:=by unfold cL;rw[if_neg (by omega)]
  rw[e1]at hw2 HS2⊢;clear ht e1 t0 t1;go_enter Tryz.func288,Tryz.ntmps288;go_upto_region 1 with fail
  rw[<-hw1];clear hw1;go_upto_region 4 with fail
  rw[<-hw2];clear hw2 m6 f6 hwr;go_wp2_with (first|(refine ah Tryz.isHeld rfl _ rfl w.heap.size rfl (heA f kd ho (tu+1)) rfl HS2.out.1 ?_)|(refine ae Tryz.isHeld rfl _ _ rfl (w.heap.size+1) (heA f kd ho (tu+1)) eu rfl rfl rfl rfl (bK _ _ _ _) HS2.out.2.1 ?_;intro w3 h3 g3))
  refine bodyPost_ret (aj Tryz.isHeld rfl _ _ (w.heap.size+1) _ rfl rfl h3) rfl ?_;exact⟨rfl,HS2.out.2.2.grown g3 HS2.out.2.2.size (fun k e=>by cases e;omega)⟩
theorem mQ (f:Nat->Int) (kd ho tu i k d:Int) (w:World):
  Calls Tryz.prog 277 #[.agg (heA f kd ho tu),.agg (wiA i k d)] w fun e w'=>e=.returned (.agg (heA f d (if bY d then-1 else i) tu))/\bB w w':=by
 obtain⟨w1,hw1⟩:=eX (((w.alloc (.cells (heA f kd ho tu) 165)).alloc (.cells (wiA i k d) 297)).alloc (.cells eu 165))
 have HS:Hid (HW w w1 f kd ho tu i k d):=by rw[hw1];exact HW.start _ _ _ _ _ _ _ _
 obtain⟨-, -, -, -,m4,m5, -⟩:=aV HS.out.1;obtain⟨p0,p1,p2⟩:=lZ HS.out.2.1;have f4:=HS.out.1.frozen 4;have f5:=HS.out.1.frozen 5;obtain⟨w2,hw2⟩:=eX (((w1.setCell ⟨w.heap.size,4,none⟩ (.int .i64 d)).setCell ⟨w.heap.size,5,none⟩ (.int .i64 i)).drew)
 have HS2:Hid (HW w w2 f d i tu i k d):=by rw[hw2];exact((HS.out.put 4 d rfl).put 5 i rfl).drew
 have q2:w2.cell? ⟨w.heap.size+1,2,none⟩=some (.int .i64 d):=HS2.out.2.1.cell 2 rfl;have c1:=fun wx=>lp d wx
 obtain⟨x,hx⟩:=eX (bY d)
 rw[<-hx];simp only[<-hx]at c1;clear hx;rw[heA,wiA,eu,heA]at hw1;rw[heA,wiA];go_enter Tryz.func277,Tryz.ntmps277;go_upto_region 1 with fail
 rw[<-hw1];clear hw1
 go_region
 rw[<-hw2];clear hw2 m4 m5 f4 f5 p0 p1 p2;go_wp2_with fail
 refine(c1 _).mono ?_;rintro e w3 ⟨rfl,b3⟩;have HS3:=HS2.out.next b3;clear b3 c1 HS2 q2;cases x with
 |false=>
  have H3:Hid (HW w w3 f d i tu i k d):=HS3;clear HS3;go_wp2_with (first|(refine ah Tryz.isHeld rfl _ rfl w.heap.size rfl (heA f d i tu) rfl H3.out.1 ?_)|(refine ae Tryz.isHeld rfl _ _ rfl (w.heap.size+2) (heA f d i tu) eu rfl rfl rfl rfl (bK _ _ _ _) H3.out.2.2.1 ?_;intro w5 h5 g5))
  refine bodyPost_ret (aj Tryz.isHeld rfl _ _ (w.heap.size+2) _ rfl rfl h5) rfl ?_;exact⟨rfl,H3.out.2.2.2.grown g5 H3.out.2.2.2.size (fun k e=>by cases e;omega)⟩
 |true=>
  obtain⟨w4,hw4⟩:=eX (w3.setCell ⟨w.heap.size,5,none⟩ (.int .i64 (-1)))
  have H4:Hid (HW w w4 f d (-1) tu i k d):=by rw[hw4];exact HS3.put 5 (-1) rfl
  obtain⟨-, -, -, -, -,m5, -⟩:=aV HS3.1;have f5:=HS3.1.frozen 5;clear HS3;go_upto_region 4 with fail
  rw[<-hw4];clear hw4 m5 f5;go_wp2_with (first|(refine ah Tryz.isHeld rfl _ rfl w.heap.size rfl (heA f d (-1) tu) rfl H4.out.1 ?_)|(refine ae Tryz.isHeld rfl _ _ rfl (w.heap.size+2) (heA f d (-1) tu) eu rfl rfl rfl rfl (bK _ _ _ _) H4.out.2.2.1 ?_;intro w5 h5 g5))
  refine bodyPost_ret (aj Tryz.isHeld rfl _ _ (w.heap.size+2) _ rfl rfl h5) rfl ?_;exact⟨rfl,H4.out.2.2.2.grown g5 H4.out.2.2.2.size (fun k e=>by cases e;omega)⟩
theorem zB (f:Nat->Int) (kd ho tu i k d:Int) (w:World):
  Calls Tryz.prog 280 #[.agg (heA f kd ho tu),.agg (wiA i k d)] w fun e w'=>e=.returned (.agg (heA f (if eE f kd ho i then 0 else kd) (if eE f kd ho i then-1 else ho) tu))/\bB w w':=by
 obtain⟨w1,hw1⟩:=eX (((w.alloc (.cells (heA f kd ho tu) 165)).alloc (.cells (wiA i k d) 297)).alloc (.cells eu 165))
 have HS:Hid (HW w w1 f kd ho tu i k d):=by rw[hw1];exact HW.start _ _ _ _ _ _ _ _
 have c1:=gF f kd ho tu i w1;have c2:=fun wx=>jc f kd ho tu wx
 obtain⟨x,hx⟩:=eX (eE f kd ho i)
 rw[<-hx]at c1⊢;clear hx;rw[heA,wiA,eu,heA]at hw1;rw[heA]at c1;conv in heA f kd ho tu=>unfold heA
 rw[wiA];go_enter Tryz.func280,Tryz.ntmps280;go_wp2_with fail
 rw[<-hw1];refine c1.mono ?_;rintro e w2 ⟨rfl,b2⟩;have HS2:=HS.out.next b2;clear hw1 c1 b2 HS;have H2:Hid (HW w w2 f kd ho tu i k d):=HS2;clear HS2;cases x with
 |false=>
  clear c2;go_wp2_with (first|(refine ah Tryz.isHeld rfl _ rfl w.heap.size rfl (heA f kd ho tu) rfl H2.out.1 ?_)|(refine ae Tryz.isHeld rfl _ _ rfl (w.heap.size+2) (heA f kd ho tu) eu rfl rfl rfl rfl (bK _ _ _ _) H2.out.2.2.1 ?_;intro w5 h5 g5))
  refine bodyPost_ret (aj Tryz.isHeld rfl _ _ (w.heap.size+2) _ rfl rfl h5) rfl ?_;exact⟨rfl,H2.out.2.2.2.grown g5 H2.out.2.2.2.size (fun k e=>by cases e;omega)⟩
 |true=>
  go_wp2_with (first|(refine ah Tryz.isHeld rfl _ rfl w.heap.size rfl (heA f kd ho tu) rfl H2.out.1 ?_)|(go_at_call 287;refine(c2 _).mono ?_;rintro e w3 ⟨rfl,b3⟩;have H3:Hid (HW w w3 f kd ho tu i k d):=H2.out.next b3;clear b3)|(refine ae Tryz.isHeld rfl _ _ rfl (w.heap.size+2) (heA f 0 (-1) tu) eu rfl rfl rfl rfl (bK _ _ _ _) H3.out.2.2.1 ?_;intro w5 h5 g5))
  refine bodyPost_ret (aj Tryz.isHeld rfl _ _ (w.heap.size+2) _ rfl rfl h5) rfl ?_;exact⟨rfl,H3.out.2.2.2.grown g5 H3.out.2.2.2.size (fun k e=>by cases e;omega)⟩
theorem r9 (f:Nat->Int) (kd ho tu i k d:Int) (w:World) (t0:0<=tu) (t1:tu<=1000000000):
  Calls Tryz.prog 281 #[.agg (heA f kd ho tu),.agg (wiA i k d)] w fun e w'=>e=.returned (.agg (heA (fun _=>0) 0 (-1) (cL tu)))/\bB w w':=by
 obtain⟨w1,hw1⟩:=eX (((w.alloc (.cells (heA f kd ho tu) 165)).alloc (.cells (wiA i k d) 297)).alloc (.cells eu 165))
 have HS:Hid (HW w w1 f kd ho tu i k d):=by rw[hw1];exact HW.start _ _ _ _ _ _ _ _
 have c2:=fun wx=>jc (fun _=>0) kd ho tu wx
 have c3:=fun wx=>fX (fun _=>0) 0 (-1) tu wx t0 t1
 obtain⟨w2,hw2⟩:=eX ((((w1.setCell ⟨w.heap.size,0,none⟩ (.int .i64 0)).setCell ⟨w.heap.size,1,none⟩ (.int .i64 0)).setCell ⟨w.heap.size,2,none⟩ (.int .i64 0)).setCell ⟨w.heap.size,3,none⟩ (.int .i64 0))
 have H2:Hid (HW w w2 (fun _=>0) kd ho tu i k d):=by
  rw[hw2];exact(((HS.out.put (g:=d9 f 0 0) (kd':=kd) (ho':=ho) (tu':=tu) 0 0 rfl).put (g:=d9 (d9 f 0 0) 1 0) (kd':=kd) (ho':=ho) (tu':=tu) 1 0 rfl).put (g:=d9 (d9 (d9 f 0 0) 1 0) 2 0) (kd':=kd) (ho':=ho) (tu':=tu) 2 0 rfl).put 3 0 rfl
 obtain⟨m0,m1,m2,m3, -, -, -⟩:=aV HS.out.1;have f0:=HS.out.1.frozen 0;have f1:=HS.out.1.frozen 1;have f2:=HS.out.1.frozen 2;have f3:=HS.out.1.frozen 3;clear HS;rw[heA,wiA,eu,heA]at hw1;conv in heA f kd ho tu=>unfold heA
 rw[wiA];go_enter Tryz.func281,Tryz.ntmps281;go_upto_region 1 with fail
 rw[<-hw1];clear hw1;go_upto_region 2 with fail
 rw[<-hw2];clear hw2 m0 m1 m2 m3 f0 f1 f2 f3;go_wp2_with (first|(refine ah Tryz.isHeld rfl _ rfl w.heap.size rfl (heA (fun _=>0) kd ho tu) rfl H2.out.1 ?_)|(go_at_call 287;refine(c2 _).mono ?_;rintro e w3 ⟨rfl,b3⟩;have H3:Hid (HW w w3 (fun _=>0) kd ho tu i k d):=H2.out.next b3;clear b3)|(go_at_call 288;refine(c3 _).mono ?_;rintro e w4 ⟨rfl,b4⟩;have H4:Hid (HW w w4 (fun _=>0) kd ho tu i k d):=H3.out.next b4;clear b4)|(refine ae Tryz.isHeld rfl _ _ rfl (w.heap.size+2) (heA (fun _=>0) 0 (-1) (cL tu)) eu rfl rfl rfl rfl (bK _ _ _ _) H4.out.2.2.1 ?_;intro w5 h5 g5))
 refine bodyPost_ret (aj Tryz.isHeld rfl _ _ (w.heap.size+2) _ rfl rfl h5) rfl ?_;exact⟨rfl,H4.out.2.2.2.grown g5 H4.out.2.2.2.size (fun k e=>by cases e;omega)⟩
end Go.Proofs.YthldeiojlllkdaaGreatDoor
