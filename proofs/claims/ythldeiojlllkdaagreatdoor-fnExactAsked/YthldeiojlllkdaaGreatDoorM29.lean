/- The key of one, as the program asks it of its row: keyOf. -/
import Derived.Test.YthldeiojlllkdaaGreatDoorM1
import Derived.Test.YthldeiojlllkdaaGreatDoorM15
import Derived.Test.YthldeiojlllkdaaGreatDoorM28
import Derived.Test.YthldeiojlllkdaaGreatDoorM19
import Derived.Test.YthldeiojlllkdaaGreatDoorM25
set_option maxRecDepth 20000
set_option maxHeartbeats 4000000
namespace Go.Proofs.YthldeiojlllkdaaGreatDoor
open Go.ChangeShapes Go.WideShapes Go.ChangeAt Go.RowKit
def iH (f:Nat->Int) (i:Int):Int:=if inI i 0 3 then f i.toNat else 0
theorem oo (f:Nat->Int) (i:Int) (w:World):
  Calls Tryz.prog 197 #[.agg (kA f),.int .i64 i] w fun e w'=>e=.returned (.int .i64 (iH f i))/\bB w w':=by
 have b1:bB w (w.alloc (.cells (kA f) 163)):=bA;have H1:StB (w.alloc (.cells (kA f) 163)) w.heap.size 163 (kA f):=StB.new _ _ _;have c1:=fun wx=>cO i wx
 by_cases h:0<=i/\i<4
 ·have hin:inI i 0 3=true:=by simp[inI];omega
  have HK:Hid (iH f i=f i.toNat):=by simp[Hid,iH,hin]
  simp only[hin]at c1;obtain⟨j,hj,hj4⟩:∃j:Nat,i=(j:Int)/\j<4:=⟨i.toNat,by omega,by omega⟩
  subst hj;obtain⟨y,hy⟩:=eX (f j)
  have hc:(w.alloc (.cells (kA f) 163)).cell? ⟨w.heap.size,j,none⟩=some (.int .i64 y):=by
   rw[hy];exact H1.cell j (qn f j hj4)
  have HY:Hid (y=iH f j):=by rw[Hid,HK.out,hy];rfl
  rw[<-HY.out];have hl:(j:Int)<4:=by omega
  clear hin hy h H1;unfold kA at*;go_enter Tryz.func197,Tryz.ntmps197;go_wp2_with (first|(go_at_call 26;refine mo (c1 _) ?_))
  go_ret;exact⟨rfl,b1⟩
 ·have hin:inI i 0 3=false:=by simp[inI];omega
  have HK:iH f i=0:=by simp[iH,hin]
  rw[HK];simp only[hin]at c1;clear h hin H1 HK;unfold kA at*;go_enter Tryz.func197,Tryz.ntmps197;go_wp2_with (first|(go_at_call 26;refine mo (c1 _) ?_))
  go_ret;exact⟨rfl,b1⟩
theorem un (f:Nat->Int) (i:Int) (w:World) (i0:0<=i) (i1:i<4):
  Calls Tryz.prog 290 #[.agg (kA f),.int .i64 i] w fun e w'=>e=.returned (.bool (jG (d9 f i.toNat 0)))/\bB w w':=by
 obtain⟨j,hj,hj4⟩:∃j:Nat,i=(j:Int)/\j<4:=⟨i.toNat,by omega,by omega⟩
 subst hj;rw[Int.toNat_natCast];obtain⟨w1,hw1⟩:=eX (w.alloc (.cells (kA f) 163))
 have b1:Hid (bB w w1):=by rw[hw1];exactbA
 have H1:StB w1 w.heap.size 163 (kA f):=by rw[hw1];exact StB.new _ _ _
 obtain⟨w2,hw2⟩:=eX (w1.setCell ⟨w.heap.size,j,none⟩ (.int .i64 0))
 have H2:Hid (StB w2 w.heap.size 163 (kA (d9 f j 0))/\bB w w2):=by
  rw[hw2];exact⟨H1.put j _ (AT f 0 j hj4),b1.out.grown (ai w1 _ j _) b1.out.size (fun k e=>by cases e;exact Nat.le_refl _)⟩
 have hc:=H1.cell j (qn f j hj4);have hf:=H1.frozen j;have c1:=mH (d9 f j 0) w2;obtain⟨x,hx⟩:=eX (jG (d9 f j 0))
 rw[<-hx]at c1⊢;clear hx H1 b1;rw[kA]at hw1⊢;go_enter Tryz.func290,Tryz.ntmps290;go_upto_region 1 with fail
 rw[<-hw1];clear hw1;go_upto_region 2 with fail
 rw[<-hw2];clear hw2 hc hf;go_wp2_with (first|(refine mL rfl _ rfl w.heap.size rfl _ H2.out.1 ?_)|(go_at_call 215;refine c1.mono ?_;rintro e w3 ⟨rfl,b3⟩))
 go_ret;exact⟨rfl,H2.out.2.trans (b3.mono H2.out.2.size)⟩
def lu (f:Nat->Int) (k:Int):Nat->Bool
 |0=>false
 |j+1=>lu f k j||decide (f j=k)
theorem CU (f:Nat->Int) (k:Int) (j:Nat) (hj:j<4) (h:f j=k):lu f k 4=true:=by
 obtain rfl|rfl|rfl|rfl:j=0∨j=1∨j=2∨j=3:=by omega
 all_goals simp[lu,h]
theorem wF (f:Nat->Int) (k:Int) (g:Nat) (w:World) (hc:∀j,j<4->w.cell? ⟨g,j,none⟩=some (.int .i64 (f j))):
  Calls Tryz.prog 291 #[.slice (some ⟨g,0,none⟩) 4 4,.int .i64 k] w fun e w'=>∃x:Int,e=.returned (.int .i64 x)/\decide (0<=x)=lu f k 4/\w'=w:=by
 go_enter Tryz.func291,Tryz.ntmps291;go_wp2_with fail
 go_loop [8] (fun i=>∃j:Nat,j<=4/\i=.int .i64 j/\lu f k j=false) (fun i=>(4-intOf i).toNat)
 case atStart=>exact⟨0,by omega,rfl,rfl⟩
 case round=>
  obtain⟨j,hj,rfl,hh⟩:=hrel;have HH:Hid (lu f k j=false):=hh;clear hh;by_cases hlt:(j:Int)<4
  ·have hcj:=hc j (by omega)
   obtain⟨y,hy⟩:=eX (f j)
   rw[<-hy]at hcj;have HY:Hid (y=f j):=hy;clear hy;by_cases e:k=y
   ·have HU:Hid (lu f k 4=true):=CU f k j (by omega) (by rw[<-HY.out,e])
    have eb:(k==y)=true:=by simpa using e
    clear e;go_wp2;go_ret;exact⟨_,rfl,by rw[HU.out];simp,rfl⟩
   ·have eb:(k==y)=false:=by simpa using e
    have HU:Hid (lu f k (j+1)=false):=by
     rw[Hid,lu,HH.out,<-HY.out];simp[Ne.symm e]
    clear e;go_wp2
    go_round
    case rel=>exact⟨j+1,by omega,by go_num,HU.out⟩
    case measure=>simp[intOf];omega
  ·go_wp2
   go_ret;have:j=4:=by omega
   subst this;exact⟨_,rfl,by rw[HH.out];rfl,rfl⟩
theorem pL (f:Nat->Int) (k:Int) (g:Nat) (w:World) (hc:∀j,j<4->w.cell? ⟨g,j,none⟩=some (.int .i64 (f j))):
  Calls Tryz.prog 289 #[.slice (some ⟨g,0,none⟩) 4 4,.int .i64 k] w fun e w'=>e=.returned (.bool (lu f k 4))/\w'=w:=by
 have c1:=wF f k g w hc;clear hc;go_enter Tryz.func289,Tryz.ntmps289;go_wp2_with fail
 refine c1.mono ?_;rintro e w' ⟨x,rfl,hx,hw⟩;subst w';have HX:Hid (decide (0<=x)=lu f k 4):=hx;clear hx;go_wp2;go_ret;exact⟨af (by rw[<-HX.out]),rfl⟩
def l6 (f:Nat->Int) (kd ho i d:Int):Bool:=lr f i||((kd !=0)&&((kd !=d)|| !holdsF f kd ho i))
theorem wG (f:Nat->Int) (kd ho tu i k d:Int) (w:World):
  Calls Tryz.prog 276 #[.agg (heA f kd ho tu),.agg (wiA i k d)] w fun e w'=>e=.returned (.bool (l6 f kd ho i d))/\bB w w':=by
 obtain⟨w1,hw1⟩:=eX ((w.alloc (.cells (heA f kd ho tu) 165)).alloc (.cells (wiA i k d) 297))
 have HS:Hid (HW2 w w1 f kd ho tu i k d):=by rw[hw1];exact HW2.start _ _ _ _ _ _ _ _
 have c1:=gm f kd ho tu i k d w1;have c2:=fun wx=>gF f kd ho tu i wx
 have HE:Hid (l6 f kd ho i d=(lr f i||((kd !=0)&&((kd !=d)|| !holdsF f kd ho i)))):=rfl;obtain⟨x,hx⟩:=eX (lr f i)
 obtain⟨y,hy⟩:=eX (eE f kd ho i)
 obtain⟨r,hr⟩:=eX (l6 f kd ho i d)
 rw[<-hr,<-hx,<-hy]at HE;rw[<-hr];rw[<-hx]at c1;simp only[<-hy]at c2;clear hx hy hr;obtain⟨a0,ha0⟩:=eX ((kd !=0))
 obtain⟨a1,ha1⟩:=eX ((kd !=d))
 rw[<-ha0,<-ha1]at HE;rw[heA,wiA]at hw1 c1⊢;unfold heA at c2;go_enter Tryz.func276,Tryz.ntmps276;go_wp2_with fail
 rw[<-hw1];refine c1.mono ?_;rintro e w2 ⟨rfl,b2⟩;have HS2:Hid (HW2 w w2 f kd ho tu i k d):=HS.out.next b2;obtain⟨m0,m1,m2,m3,m4,m5,m6⟩:=aV HS2.out.1;obtain⟨p0,p1,p2⟩:=lZ HS2.out.2.1;clear b2 c1 HS hw1;cases x with
 |true=>
  clear c2 ha0 ha1;go_wp2;go_ret;exact⟨af (by rw[HE.out];simp),HS2.out.2.2⟩
 |false=>
  cases a0 with
  |false=>
   have k0:(kd !=0)=false:=ha0.symm;clear c2 ha1 ha0;go_wp2;go_ret;exact⟨af (by rw[HE.out];simp),HS2.out.2.2⟩
  |true=>
   have k0:(kd !=0)=true:=ha0.symm;clear ha0;cases a1 with
   |true=>
    have k1:(kd !=d)=true:=ha1.symm;clear c2 ha1;go_wp2;go_ret;exact⟨af (by rw[HE.out];simp),HS2.out.2.2⟩
   |false=>
    have k1:(kd !=d)=false:=ha1.symm;clear ha1;go_wp2_with (first|(go_at_call 231;refine(c2 _).mono ?_;rintro e w3 ⟨rfl,b3⟩))
    go_ret;exact⟨af (by rw[HE.out];simp),HS2.out.2.2.trans (b3.mono HS2.out.2.2.size)⟩
def l9 (f:Nat->Int) (i k:Int):Bool:=lr f i|| !hasF f k 4
theorem wH {w:World} {g:Nat} {f:Nat->Int} {kd ho tu:Int} (h:StB w g 165 (heA f kd ho tu)):∀j,j<4->w.cell? ⟨g,j,none⟩=some (.int .i64 (f j)):=
 nh (h.cell 0 rfl) (h.cell 1 rfl) (h.cell 2 rfl) (h.cell 3 rfl)
theorem yg (f:Nat->Int) (kd ho tu x:Int):∀j,j<4->(heA f kd ho tu).setIfInBounds j (.int .i64 x)=heA (d9 f j x) kd ho tu:=nh rfl rfl rfl rfl
theorem wI (f:Nat->Int) (kd ho tu i k d:Int) (w:World):
  Calls Tryz.prog 283 #[.agg (heA f kd ho tu),.agg (wiA i k d)] w fun e w'=>e=.returned (.bool (l9 f i k))/\bB w w':=by
 obtain⟨w1,hw1⟩:=eX ((w.alloc (.cells (heA f kd ho tu) 165)).alloc (.cells (wiA i k d) 297))
 have HS:Hid (HW2 w w1 f kd ho tu i k d):=by rw[hw1];exact HW2.start _ _ _ _ _ _ _ _
 have HD:Hid (HW2 w w1.drew f kd ho tu i k d):=HS.out.drew;have c1:=fun wx=>gm f kd ho tu i k d wx
 have c2:∀wx:World,(∀j,j<4->wx.cell? ⟨w.heap.size,j,none⟩=some (Value.int .i64 (f j)))->_:=fun wx h=>pL f k w.heap.size wx h
 have HE:Hid (l9 f i k=(lr f i|| !hasF f k 4)):=rfl;obtain⟨x,hx⟩:=eX (lr f i)
 obtain⟨y,hy⟩:=eX (lu f k 4)
 obtain⟨r,hr⟩:=eX (l9 f i k)
 rw[<-hr,<-hx,<-hy]at HE;rw[<-hr];simp only[<-hx]at c1;simp only[<-hy]at c2;clear hx hy hr;obtain⟨p,hp⟩:=eX (fun x=>HW2 w x f kd ho tu i k d)
 have HP:Hid (∀x,p x->HW2 w x f kd ho tu i k d):=by rw[hp];exact fun _ h=>h
 have HN:Hid (∀x w',p x->bB x w'->p w'):=by rw[hp];exact fun _ _ h b=>h.next b
 have H0:Hid (p w1.drew):=by rw[hp];exact HD.out
 have hne:Nonempty (Kin p):=⟨⟨_,H0.out⟩⟩
 have m0:∀q:Kin p,q.x.cell? ⟨w.heap.size,0,none⟩=some (.int .i64 (f 0)):=fun q=>(HP.out _ q.h).1.cell 0 rfl
 have m1:∀q:Kin p,q.x.cell? ⟨w.heap.size,1,none⟩=some (.int .i64 (f 1)):=fun q=>(HP.out _ q.h).1.cell 1 rfl
 have m2:∀q:Kin p,q.x.cell? ⟨w.heap.size,2,none⟩=some (.int .i64 (f 2)):=fun q=>(HP.out _ q.h).1.cell 2 rfl
 have m3:∀q:Kin p,q.x.cell? ⟨w.heap.size,3,none⟩=some (.int .i64 (f 3)):=fun q=>(HP.out _ q.h).1.cell 3 rfl
 have m4:∀q:Kin p,q.x.cell? ⟨w.heap.size,4,none⟩=some (.int .i64 kd):=fun q=>(HP.out _ q.h).1.cell 4 rfl
 have m5:∀q:Kin p,q.x.cell? ⟨w.heap.size,5,none⟩=some (.int .i64 ho):=fun q=>(HP.out _ q.h).1.cell 5 rfl
 have m6:∀q:Kin p,q.x.cell? ⟨w.heap.size,6,none⟩=some (.int .i64 tu):=fun q=>(HP.out _ q.h).1.cell 6 rfl
 have p0:∀q:Kin p,q.x.cell? ⟨w.heap.size+1,0,none⟩=some (.int .i64 i):=fun q=>(HP.out _ q.h).2.1.cell 0 rfl
 have p1:∀q:Kin p,q.x.cell? ⟨w.heap.size+1,1,none⟩=some (.int .i64 k):=fun q=>(HP.out _ q.h).2.1.cell 1 rfl
 have p2:∀q:Kin p,q.x.cell? ⟨w.heap.size+1,2,none⟩=some (.int .i64 d):=fun q=>(HP.out _ q.h).2.1.cell 2 rfl
 unfold heA wiA at c1;rw[heA,wiA]at hw1⊢;go_enter Tryz.func283,Tryz.ntmps283;go_upto_region 1 with fail
 rw[<-hw1];clear hw1 HS hp;have C2:Hid (∀q:Kin p,_):=fun q=>c2 q.x (wH (HP.out _ q.h).1)
 clear c2;cases x with
 |true=>
  refine eQ p (by kernel_rfl) (by kernel_rfl) H0.out ?_;repeat(quiet_step (first|(go_at_call 279;exact Kin.call (c1 _) HN.out)))
  refine wpQuiet_nil ?_;intro w2 hw';have H2:p w2:=by{obtain⟨q,rfl⟩:=hw';exact q.h}
  clear hw';go_wp2;go_ret;exact⟨af (by rw[HE.out];simp),(HP.out _ H2).2.2⟩
 |false=>
  refine eQ p (by kernel_rfl) (by kernel_rfl) H0.out ?_;repeat(quiet_step (first|(go_at_call 279;exact Kin.call (c1 _) HN.out)|(go_at_call 289;exact Kin.same (C2.out _))))
  refine wpQuiet_nil ?_;intro w2 hw';have H2:p w2:=by{obtain⟨q,rfl⟩:=hw';exact q.h}
  clear hw';go_wp2;go_ret;exact⟨af (by rw[HE.out];simp),(HP.out _ H2).2.2⟩
theorem sa (f:Nat->Int) (kd ho tu i k d:Int) (w:World) (t0:0<=tu) (t1:tu<=1000000000) (i0:0<=i) (i1:i<4):
  Calls Tryz.prog 274 #[.agg (heA f kd ho tu),.agg (wiA i k d)] w fun e w'=>e=.returned (.agg (heA (d9 f i.toNat k) (if jF (d9 f i.toNat k) kd ho then kd else 0) (if jF (d9 f i.toNat k) kd ho then ho else-1) (cL tu)))/\bB w w':=by
 obtain⟨j,hj,hj4⟩:∃j:Nat,i=(j:Int)/\j<4:=⟨i.toNat,by omega,by omega⟩
 subst hj;rw[Int.toNat_natCast];obtain⟨w1,hw1⟩:=eX (((w.alloc (.cells (heA f kd ho tu) 165)).alloc (.cells (wiA j k d) 297)).alloc (.cells eu 165))
 have HS:Hid (HW w w1 f kd ho tu j k d):=by rw[hw1];exact HW.start _ _ _ _ _ _ _ _
 obtain⟨w2,hw2⟩:=eX (w1.setCell ⟨w.heap.size,j,none⟩ (.int .i64 k))
 have H2:Hid (HW w w2 (d9 f j k) kd ho tu j k d):=by rw[hw2];exact HS.out.put j k (yg f kd ho tu k j hj4)
 obtain⟨p0,p1,p2⟩:=lZ HS.out.2.1;have hc:=wH HS.out.1 j hj4;have hf:=HS.out.1.frozen j;obtain⟨g,hg⟩:=eX (d9 f j k)
 rw[<-hg]at H2⊢;have c1:=fun wx=>jP g kd ho tu wx
 have c2:=fun wx=>jc g kd ho tu wx
 have c3:=fun wx=>fX g kd ho tu wx t0 t1
 have c4:=fun wx=>fX g 0 (-1) tu wx t0 t1
 obtain⟨x,hx⟩:=eX (jF g kd ho)
 rw[<-hx];simp only[<-hx]at c1;have hl:(j:Int)<4:=by omega
 clear hx hg HS t0 t1 i0 i1 hj4;rw[heA,wiA,eu,heA]at hw1;conv in heA f kd ho tu=>unfold heA
 rw[wiA];go_enter Tryz.func274,Tryz.ntmps274;go_upto_region 1 with fail
 rw[<-hw1];clear hw1;go_upto_region 2 with fail
 rw[<-hw2];clear hw2 p0 p1 p2 hc hf;cases x with
 |true=>
  clear c2 c4;go_wp2_with (first|(refine ah Tryz.isHeld rfl _ rfl w.heap.size rfl (heA g kd ho tu) rfl H3.out.1 ?_)|(refine ah Tryz.isHeld rfl _ rfl w.heap.size rfl (heA g kd ho tu) rfl H2.out.1 ?_)|(go_at_call 178;refine(c1 _).mono ?_;rintro e w3 ⟨rfl,b3⟩;have H3:Hid (HW w w3 g kd ho tu j k d):=H2.out.next b3;clear b3)|(go_at_call 288;refine(c3 _).mono ?_;rintro e w4 ⟨rfl,b4⟩;have H4:Hid (HW w w4 g kd ho tu j k d):=H3.out.next b4;clear b4)|(refine ae Tryz.isHeld rfl _ _ rfl (w.heap.size+2) (heA g kd ho (cL tu)) eu rfl rfl rfl rfl (bK _ _ _ _) H4.out.2.2.1 ?_;intro w5 h5 g5))
  refine bodyPost_ret (aj Tryz.isHeld rfl _ _ (w.heap.size+2) _ rfl rfl h5) rfl ?_;exact⟨rfl,H4.out.2.2.2.grown g5 H4.out.2.2.2.size (fun k e=>by cases e;omega)⟩
 |false=>
  clear c3;go_upto_region 3 with(first|(refine ah Tryz.isHeld rfl _ rfl w.heap.size rfl (heA g kd ho tu) rfl H2.out.1 ?_)|(go_at_call 178;refine(c1 _).mono ?_;rintro e w3 ⟨rfl,b3⟩;have H3:Hid (HW w w3 g kd ho tu j k d):=H2.out.next b3;clear b3))
  clear H2 c1;go_upto_region 4 with(first|(refine ah Tryz.isHeld rfl _ rfl w.heap.size rfl (heA g kd ho tu) rfl H3.out.1 ?_)|(go_at_call 287;refine(c2 _).mono ?_;rintro e w4 ⟨rfl,b4⟩;have H4:Hid (HW w w4 g kd ho tu j k d):=H3.out.next b4;clear b4)|(refine ae Tryz.isHeld rfl _ _ rfl w.heap.size (heA g 0 (-1) tu) (heA g kd ho tu) rfl rfl rfl rfl (bK _ _ _ _) H4.out.1 ?_;intro w5 h5 g5;have H5:Hid (HW w w5 g 0 (-1) tu j k d):=H4.out.set h5 g5;clear h5 g5))
  clear H3 H4 c2;go_wp2_with (first|(refine ah Tryz.isHeld rfl _ rfl w.heap.size rfl (heA g 0 (-1) tu) rfl H5.out.1 ?_)|(go_at_call 288;refine(c4 _).mono ?_;rintro e w6 ⟨rfl,b6⟩;have H6:Hid (HW w w6 g 0 (-1) tu j k d):=H5.out.next b6;clear b6)|(refine ae Tryz.isHeld rfl _ _ rfl (w.heap.size+2) (heA g 0 (-1) (cL tu)) eu rfl rfl rfl rfl (bK _ _ _ _) H6.out.2.2.1 ?_;intro w7 h7 g7))
  refine bodyPost_ret (aj Tryz.isHeld rfl _ _ (w.heap.size+2) _ rfl rfl h7) rfl ?_;exact⟨rfl,H6.out.2.2.2.grown g7 H6.out.2.2.2.size (fun k e=>by cases e;omega)⟩
def fY (f:Nat->Int) (i:Nat) (k:Int) (j:Nat):Nat->Int:=fun m=>if m<j/\f m=k/\m≠i then 0 else f m
theorem zk (f:Nat->Int) (i:Nat) (k:Int):fY f i k 0=f:=by funext m;simp[fY]
theorem A1 (f:Nat->Int) (i:Nat) (k:Int) (j:Nat) (h:f j=k) (hn:j≠i):d9 (fY f i k j) j 0=fY f i k (j+1):=by
 funext m
 unfold d9 fY;by_cases e:m=j
 ·subst e;simp[h,hn]
 ·have:m<j+1↔m<j:=by omega
  simp[e,this]
theorem yd (f:Nat->Int) (i:Nat) (k:Int) (j:Nat) (h:¬(f j=k/\j≠i)):fY f i k j=fY f i k (j+1):=by
 funext m
 unfold fY;by_cases e:m=j
 ·subst e
  rw[if_neg (by intro c;exact h c.2),if_neg (by intro c;exact h c.2)]
 ·have:m<j+1↔m<j:=by omega
  simp[this]
theorem Fb (f:Nat->Int) (j:Nat) (hj:j<4) (w:World):(Instr.index 163 (.agg (kA f)) (.int .i64 (j:Int))).run Tryz.prog w=.ok (.int .i64 (f j)) w:=by
 obtain⟨i0,hi,hz0,hz1,hz2⟩:=info_parts Tryz.infoI;have h1:(0:Int)<=(j:Int)/\(j:Int)<((4:Nat):Int):=by omega
 have h2:((j:Int)).toNat*1=j:=by omega
 have hcells:Tryz.prog.cellsOf 2=1:=by kernel_rfl
 have hplain:Tryz.prog.plainKey 2=true:=by kernel_rfl
 simp only[Instr.index,asIntOf,run_underlying Tryz.underK,Sem.run_bind,Sem.run_pure,Result.andThen_ok,h1,and_self,if_true,run_sizeOf w hi,hcells,h2];exact run_part_plain w hplain (qn f j hj)
def gH (f:Nat->Int) (kd ho i k:Int):Bool:=(iH f ho==k)||(bY kd&& !anyF (d9 (fY f i.toNat k 4) i.toNat 0))
theorem ox (f:Nat->Int) (kd ho tu i k d:Int) (w:World) (t0:0<=tu) (t1:tu<=1000000000) (i0:0<=i) (i1:i<4):
  Calls Tryz.prog 284 #[.agg (heA f kd ho tu),.agg (wiA i k d)] w fun e w'=>e=.returned (.agg (heA (fY f i.toNat k 4) (if gH f kd ho i k then d else kd) (if gH f kd ho i k then(if bY d then-1 else i)else ho) (cL tu)))/\bB w w':=by
 obtain⟨n,hn,hn4⟩:∃n:Nat,i=(n:Int)/\n<4:=⟨i.toNat,by omega,by omega⟩
 subst hn;rw[Int.toNat_natCast];obtain⟨w1,hw1⟩:=eX (((w.alloc (.cells (heA f kd ho tu) 165)).alloc (.cells (wiA n k d) 297)).alloc (.cells eu 165))
 have HS:Hid (HW w w1 f kd ho tu n k d):=by rw[hw1];exact HW.start _ _ _ _ _ _ _ _
 have HD:Hid (HW w w1.drew f kd ho tu n k d):=HS.out.drew;have c1:=fun wx=>oo f ho wx
 have HE:Hid (gH f kd ho n k=((iH f ho==k)||(bY kd&& !anyF (d9 (fY f n k 4) n 0)))):=rfl;obtain⟨y,hy⟩:=eX (iH f ho)
 obtain⟨r,hr⟩:=eX (gH f kd ho n k)
 obtain⟨A,hA⟩:=eX (heA (fY f n k 4) (if gH f kd ho n k then d else kd) (if gH f kd ho n k then(if bY d then-1 else(n:Int))else ho) (cL tu))
 rw[<-hA];have HA:Hid (A=heA (fY f n k 4) (if r then d else kd) (if r then(if bY d then-1 else(n:Int))else ho) (cL tu)):=by rw[Hid,hr];exact hA
 clear hA;rw[<-hr,<-hy]at HE;simp only[<-hy]at c1;clear hy hr;obtain⟨p,hp⟩:=eX (fun x=>HW w x f kd ho tu n k d)
 have HP:Hid (∀x,p x->HW w x f kd ho tu n k d):=by rw[hp];exact fun _ h=>h
 have HN:Hid (∀x w',p x->bB x w'->p w'):=by rw[hp];exact fun _ _ h b=>h.next b
 have H0:Hid (p w1.drew):=by rw[hp];exact HD.out
 have hne:Nonempty (Kin p):=⟨⟨_,H0.out⟩⟩
 have m0:∀q:Kin p,q.x.cell? ⟨w.heap.size,0,none⟩=some (.int .i64 (f 0)):=fun q=>(HP.out _ q.h).1.cell 0 rfl
 have m1:∀q:Kin p,q.x.cell? ⟨w.heap.size,1,none⟩=some (.int .i64 (f 1)):=fun q=>(HP.out _ q.h).1.cell 1 rfl
 have m2:∀q:Kin p,q.x.cell? ⟨w.heap.size,2,none⟩=some (.int .i64 (f 2)):=fun q=>(HP.out _ q.h).1.cell 2 rfl
 have m3:∀q:Kin p,q.x.cell? ⟨w.heap.size,3,none⟩=some (.int .i64 (f 3)):=fun q=>(HP.out _ q.h).1.cell 3 rfl
 have m5:∀q:Kin p,q.x.cell? ⟨w.heap.size,5,none⟩=some (.int .i64 ho):=fun q=>(HP.out _ q.h).1.cell 5 rfl
 have p1:∀q:Kin p,q.x.cell? ⟨w.heap.size+1,1,none⟩=some (.int .i64 k):=fun q=>(HP.out _ q.h).2.1.cell 1 rfl
 unfold kA at c1;rw[heA,wiA,eu,heA]at hw1;conv in heA f kd ho tu=>unfold heA
 rw[wiA];go_enter Tryz.func284,Tryz.ntmps284;go_upto_region 1 with fail
 rw[<-hw1];clear hw1 HS HD hp;refine eQ p (by kernel_rfl) (by kernel_rfl) H0.out ?_;repeat(quiet_step (first|(go_at_call 197;exact Kin.call (c1 _) HN.out)))
 refine wpQuiet_nil ?_;intro w2 hw';have H2:p w2:=by{obtain⟨q,rfl⟩:=hw';exact q.h}
 clear hw';have HS:Hid (HW w w2 f kd ho tu n k d):=HP.out _ H2;clear H2 HP HN H0 hne m0 m1 m2 m3 m5 p1 c1;obtain⟨m0,m1,m2,m3, -, -, -⟩:=aV HS.out.1;have hix:=fun j hj wx=>Fb f j hj wx
 unfold kA at hix;have HX:Hid _:=hix;clear hix;go_wp2_with fail
 clear m0 m1 m2 m3;go_loopw [18] (fun v wr=>∃j:Nat,j<=4/\v=.int .i64 j/\Hid (HW w wr (fY f n k j) kd ho tu n k d)) (fun v _=>4-(intOf v).toNat)
 case atStart=>exact⟨0,by omega,rfl,by rw[zk];exact HS⟩
 case round=>
  obtain⟨j,hj,rfl,HR⟩:=hrel;clear HS;by_cases hlt:(j:Int)<4
  ·have ix:=HX.out j (by omega) wr
   obtain⟨z,hz⟩:=eX (f j)
   rw[<-hz]at ix;have p0:wr.cell? ⟨w.heap.size+1,0,none⟩=some (.int .i64 n):=HR.out.2.1.cell 0 rfl;have p1:wr.cell? ⟨w.heap.size+1,1,none⟩=some (.int .i64 k):=HR.out.2.1.cell 1 rfl;by_cases ek:z=k
   ·have ekb:(z==k)=true:=by simpa using ek
    by_cases en:(j:Int)=n
    ·have enb:((j:Int) !=(n:Int))=false:=by simpa using en
     have HR2:Hid (HW w wr (fY f n k (j+1)) kd ho tu n k d):=by rw[Hid,<-yd f n k j (by omega)];exact HR.out
     clear hz ek en HR;go_wp2;go_roundw
     case rel=>exact⟨j+1,by omega,by go_num,HR2⟩
     case measure=>simp[intOf];omega
    ·have enb:((j:Int) !=(n:Int))=true:=by simpa using en
     have hcj:=wH HR.out.1 j (by omega);have hfj:=HR.out.1.frozen j;have HR2:Hid (HW w (wr.setCell ⟨w.heap.size,j,none⟩ (.int .i64 0)) (fY f n k (j+1)) kd ho tu n k d):=by
      rw[Hid,<-A1 f n k j (by rw[<-hz,ek]) (by omega)];exact HR.out.put j 0 (yg _ kd ho tu 0 j (by omega))
     clear hz ek en HR;go_wp2;go_roundw
     case rel=>exact⟨j+1,by omega,by go_num,HR2⟩
     case measure=>simp[intOf];omega
   ·have ekb:(z==k)=false:=by simpa using ek
    have HR2:Hid (HW w wr (fY f n k (j+1)) kd ho tu n k d):=by rw[Hid,<-yd f n k j (by rw[<-hz];omega)];exact HR.out
    clear hz ek HR p0;go_wp2;go_roundw
    case rel=>exact⟨j+1,by omega,by go_num,HR2⟩
    case measure=>simp[intOf];omega
  ·have e4:j=4:=by omega
   subst e4;obtain⟨g,hg⟩:=eX (fY f n k 4)
   have c2:=fun wx=>lp kd wx
   have c3:=fun wx=>un g n wx i0 i1
   have c4:=fun wx=>mQ g kd ho tu n k d wx
   obtain⟨h2,hh2⟩:=eX (if bY d then-1 else(n:Int))
   have c5:=fun wx=>fX g d h2 tu wx t0 t1
   have c6:=fun wx=>fX g kd ho tu wx t0 t1
   rw[Int.toNat_natCast]at c3;simp only[<-hh2]at c4;rw[<-hg]at HE HR;have HG:Hid (g=fY f n k 4):=hg;have HH2:Hid (h2=if bY d then-1 else(n:Int)):=hh2;obtain⟨a1,ha1⟩:=eX (bY kd)
   obtain⟨a2,ha2⟩:=eX (jG (d9 g n 0))
   obtain⟨b0,hb0⟩:=eX ((y==k))
   rw[<-ha1,<-ha2,<-hb0]at HE;simp only[<-ha1]at c2;simp only[<-ha2]at c3;clear ha1 ha2 hg hh2 t0 t1 i0 i1 HX;unfold kA at c3;cases b0 with
   |true=>
    have hb:(y==k)=true:=hb0.symm;clear hb0 c2 c3;clear c6;go_upto_region 9 with fail
    go_upto_region 10 with(first|(refine ah Tryz.isHeld rfl _ rfl w.heap.size rfl (heA g kd ho tu) rfl HR.out.1 ?_)|(refine ah Tryz.isWish rfl _ rfl (w.heap.size+1) rfl (wiA n k d) rfl HR.out.2.1 ?_)|(go_at_call 277;refine(c4 _).mono ?_;rintro e w6 ⟨rfl,b6⟩;have H6:Hid (HW w w6 g kd ho tu n k d):=HR.out.next b6;clear b6)|(refine ae Tryz.isHeld rfl _ _ rfl w.heap.size (heA g d h2 tu) (heA g kd ho tu) rfl rfl rfl rfl (bK _ _ _ _) H6.out.1 ?_;intro w7 h7 g7;have H7:Hid (HW w w7 g d h2 tu n k d):=H6.out.set h7 g7;clear h7 g7))
    clear c4;go_wp2_with (first|(refine ah Tryz.isHeld rfl _ rfl w.heap.size rfl (heA g d h2 tu) rfl H7.out.1 ?_)|(go_at_call 288;refine(c5 _).mono ?_;rintro e w8 ⟨rfl,b8⟩;have H8:Hid (HW w w8 g d h2 tu n k d):=H7.out.next b8;clear b8)|(refine ae Tryz.isHeld rfl _ _ rfl (w.heap.size+2) (heA g d h2 (cL tu)) eu rfl rfl rfl rfl (bK _ _ _ _) H8.out.2.2.1 ?_;intro w9 h9 g9))
    refine bodyPost_ret (aj Tryz.isHeld rfl _ _ (w.heap.size+2) _ rfl rfl h9) rfl ?_;exact⟨by rw[HA.out,HE.out,<-HG.out,<-HH2.out];rfl,H8.out.2.2.2.grown g9 H8.out.2.2.2.size (fun k e=>by cases e;omega)⟩
   |false=>
    have hb:(y==k)=false:=hb0.symm;clear hb0;have q4:wr.cell? ⟨w.heap.size,4,none⟩=some (.int .i64 kd):=HR.out.1.cell 4 rfl;go_wp2_with fail
    refine(c2 _).mono ?_;rintro e w3 ⟨rfl,b3⟩;have H3:Hid (HW w w3 g kd ho tu n k d):=HR.out.next b3;clear b3 HR q4 c2;cases a1 with
    |false=>
     clear c3;clear c4 c5;go_upto_region 10 with fail
     go_wp2_with (first|(refine ah Tryz.isHeld rfl _ rfl w.heap.size rfl (heA g kd ho tu) rfl H3.out.1 ?_)|(go_at_call 288;refine(c6 _).mono ?_;rintro e w8 ⟨rfl,b8⟩;have H8:Hid (HW w w8 g kd ho tu n k d):=H3.out.next b8;clear b8)|(refine ae Tryz.isHeld rfl _ _ rfl (w.heap.size+2) (heA g kd ho (cL tu)) eu rfl rfl rfl rfl (bK _ _ _ _) H8.out.2.2.1 ?_;intro w9 h9 g9))
     refine bodyPost_ret (aj Tryz.isHeld rfl _ _ (w.heap.size+2) _ rfl rfl h9) rfl ?_;exact⟨by rw[HA.out,HE.out,<-HG.out,<-HH2.out];rfl,H8.out.2.2.2.grown g9 H8.out.2.2.2.size (fun k e=>by cases e;omega)⟩
    |true=>
     obtain⟨m0,m1,m2,m3, -, -, -⟩:=aV H3.out.1;have p0:w3.cell? ⟨w.heap.size+1,0,none⟩=some (.int .i64 n):=H3.out.2.1.cell 0 rfl;go_wp2_with fail
     refine(c3 _).mono ?_;rintro e w4 ⟨rfl,b4⟩;have H4:Hid (HW w w4 g kd ho tu n k d):=H3.out.next b4;clear b4 H3 c3 m0 m1 m2 m3 p0;cases a2 with
     |true=>
      clear c4 c5;go_upto_region 10 with fail
      go_wp2_with (first|(refine ah Tryz.isHeld rfl _ rfl w.heap.size rfl (heA g kd ho tu) rfl H4.out.1 ?_)|(go_at_call 288;refine(c6 _).mono ?_;rintro e w8 ⟨rfl,b8⟩;have H8:Hid (HW w w8 g kd ho tu n k d):=H4.out.next b8;clear b8)|(refine ae Tryz.isHeld rfl _ _ rfl (w.heap.size+2) (heA g kd ho (cL tu)) eu rfl rfl rfl rfl (bK _ _ _ _) H8.out.2.2.1 ?_;intro w9 h9 g9))
      refine bodyPost_ret (aj Tryz.isHeld rfl _ _ (w.heap.size+2) _ rfl rfl h9) rfl ?_;exact⟨by rw[HA.out,HE.out,<-HG.out,<-HH2.out];rfl,H8.out.2.2.2.grown g9 H8.out.2.2.2.size (fun k e=>by cases e;omega)⟩
     |false=>
      clear c6;go_upto_region 9 with fail
      go_upto_region 10 with(first|(refine ah Tryz.isHeld rfl _ rfl w.heap.size rfl (heA g kd ho tu) rfl H4.out.1 ?_)|(refine ah Tryz.isWish rfl _ rfl (w.heap.size+1) rfl (wiA n k d) rfl H4.out.2.1 ?_)|(go_at_call 277;refine(c4 _).mono ?_;rintro e w6 ⟨rfl,b6⟩;have H6:Hid (HW w w6 g kd ho tu n k d):=H4.out.next b6;clear b6)|(refine ae Tryz.isHeld rfl _ _ rfl w.heap.size (heA g d h2 tu) (heA g kd ho tu) rfl rfl rfl rfl (bK _ _ _ _) H6.out.1 ?_;intro w7 h7 g7;have H7:Hid (HW w w7 g d h2 tu n k d):=H6.out.set h7 g7;clear h7 g7))
      clear c4;go_wp2_with (first|(refine ah Tryz.isHeld rfl _ rfl w.heap.size rfl (heA g d h2 tu) rfl H7.out.1 ?_)|(go_at_call 288;refine(c5 _).mono ?_;rintro e w8 ⟨rfl,b8⟩;have H8:Hid (HW w w8 g d h2 tu n k d):=H7.out.next b8;clear b8)|(refine ae Tryz.isHeld rfl _ _ rfl (w.heap.size+2) (heA g d h2 (cL tu)) eu rfl rfl rfl rfl (bK _ _ _ _) H8.out.2.2.1 ?_;intro w9 h9 g9))
      refine bodyPost_ret (aj Tryz.isHeld rfl _ _ (w.heap.size+2) _ rfl rfl h9) rfl ?_;exact⟨by rw[HA.out,HE.out,<-HG.out,<-HH2.out];rfl,H8.out.2.2.2.grown g9 H8.out.2.2.2.size (fun k e=>by cases e;omega)⟩
def fv (n:FuncId):Value:=.func (Fn.func n) #[] #[]
def acA:Array Value:=#[fv 272,fv 273,fv 274,fv 275,fv 276,fv 277,fv 278,fv 279,fv 280,fv 278,fv 279,fv 281,fv 282,fv 283,fv 284]
def vI (n:Nat):Array Value:=Array.replicate n .nilFunc
theorem Tryz.isAction:IsS 310 3:=⟨⟨_,Tryz.underlying310⟩,by kernel_rfl⟩
theorem Tryz.sizeAcs:(Tryz.prog.info? 311).map (·.size)=some 15:=by kernel_rfl
theorem Tryz.underAcs:Tryz.prog.underlying 311=some (.array 5 310):=by kernel_rfl
theorem rN (w:World):
  Calls Tryz.prog 266 #[] w fun e w'=>e=.returned (.agg acA)/\bB w w':=by
 have z0:StB (w.alloc (.cells (vI 15) 311)) w.heap.size 311 (vI 15):=StB.new _ _ _;have b0:bB w (w.alloc (.cells (vI 15) 311)):=bA;have Z0:Hid _:=z0;have B0:Hid _:=b0;clear z0 b0;go_enter Tryz.func266,Tryz.ntmps266;go_wp2_with (first|(refine wpList_store_row rfl _ _ _ rfl w.heap.size acA rfl rfl _ _ Z0.out Tryz.sizeAcs rfl (by simp[acA,fv,Value.oneCell']) ?_))
 have h2:=setRow_heap _ w.heap.size _ acA _ _ Z0.out;have g2:=gz (w.alloc (.cells (vI 15) 311)) w.heap.size acA;refine bodyPost_ret (results_cell_row rfl _ _ w.heap.size _ _ _ _ rfl h2 Tryz.underAcs rfl Tryz.sizeAcs) rfl ?_;exact⟨rfl,B0.out.grown g2 B0.out.size (fun k e=>by cases e;exact Nat.le_refl _)⟩
def nY (r:Nat):Array Value:=#[acA.getD (3*r) undef,acA.getD (3*r+1) undef,acA.getD (3*r+2) undef]
theorem Em (w:World):(Instr.index 311 (.agg acA) (.int .i64 0)).run Tryz.prog w=.ok (.agg (nY 0)) w:=by kernel_rfl
theorem En (w:World):(Instr.index 311 (.agg acA) (.int .i64 1)).run Tryz.prog w=.ok (.agg (nY 1)) w:=by kernel_rfl
theorem Eo (w:World):(Instr.index 311 (.agg acA) (.int .i64 2)).run Tryz.prog w=.ok (.agg (nY 2)) w:=by kernel_rfl
theorem Ep (w:World):(Instr.index 311 (.agg acA) (.int .i64 3)).run Tryz.prog w=.ok (.agg (nY 3)) w:=by kernel_rfl
theorem Er (w:World):(Instr.index 311 (.agg acA) (.int .i64 4)).run Tryz.prog w=.ok (.agg (nY 4)) w:=by kernel_rfl
def pA:Array Value:=#[.slice none 0 0,.int .i64 0,.int .i64 0,.int .i64 0]
def AW (w w1:World) (v:Value) (h:Hd) (i k d:Int):Prop:=
 StB w1 w.heap.size 37 (hdA v h)/\StB w1 (w.heap.size+1) 297 (wiA i k d)/\StB w1 (w.heap.size+2) 37 pA/\bB w w1
theorem AW.start (w:World) (v:Value) (h:Hd) (i k d:Int):AW w (((w.alloc (.cells (hdA v h) 37)).alloc (.cells (wiA i k d) 297)).alloc (.cells pA 37)) v h i k d:=by
 refine⟨((StB.new _ _ _).alloc _).alloc _,?_,?_,(bA.alloc (by simp) _).alloc (by simp;omega) _⟩
 ·have:=StB.new (w.alloc (.cells (hdA v h) 37)) 297 (wiA i k d)
  rw[World.size_alloc]at this;exact this.alloc _
 ·have:=StB.new ((w.alloc (.cells (hdA v h) 37)).alloc (.cells (wiA i k d) 297)) 37 pA
  rw[World.size_alloc,World.size_alloc]at this;exact this
theorem AW.next {w w1 w2:World} {v:Value} {h:Hd} {i k d:Int} (a:AW w w1 v h i k d) (b:bB w1 w2):AW w w2 v h i k d:=
 ⟨a.1.below b,a.2.1.below b,a.2.2.1.below b,a.2.2.2.trans (b.mono a.2.2.2.size)⟩
theorem AW.lt {w w1:World} {v:Value} {h:Hd} {i k d:Int} (a:AW w w1 v h i k d):w.heap.size+2<w1.heap.size:=a.2.2.1.lt
theorem lP {w w2:World} {t:TypeId} {cs:Array Value} (g:(w.alloc (.cells cs t)).grownBy w2 (some w.heap.size)):bB w w2:=
 bA |>.grown g (by simp) (fun k e=>by cases e;exact Nat.le_refl _)
def lQ (ok fits refuses:Bool) (h g:Hd):Hd×Int:=if ok&&fits then(if refuses then(h,1)else(g,0))else(Hd.zero,2)
theorem gE (row:Int) (F1 F2 F3:FuncId) (hx:∀wx,(Instr.index 311 (.agg acA) (.int .i64 row)).run Tryz.prog wx=.ok (.agg #[fv F1,fv F2,fv F3]) wx)
  (v:Value) (h:Hd) (i k d:Int) (w:World) (hr:ag w v h.ks) (hl:h.ks.length<=1099511627776) (b1 b2:Bool) (f:Nat->Int) (kd ho tu:Int)
  (e1:∀args wx,(callFunc F1 args).run Tryz.prog wx=.ok (.enter F1 args) wx) (e2:∀args wx,(callFunc F2 args).run Tryz.prog wx=.ok (.enter F2 args) wx) (e3:∀args wx,(callFunc F3 args).run Tryz.prog wx=.ok (.enter F3 args) wx)
  (c1:∀wx,Calls Tryz.prog F1 #[.agg (wiA i k d)] wx fun e w'=>e=.returned (.bool b1)/\bB wx w')
  (c2:h.ok=true->inI i 0 3=true->b1=true->∀wx,Calls Tryz.prog F2 #[.agg (heA (KF h.ks) h.kd h.ho h.tu),.agg (wiA i k d)] wx fun e w'=>e=.returned (.bool b2)/\bB wx w')
  (c3:h.ok=true->inI i 0 3=true->b1=true->b2=false->∀wx,Calls Tryz.prog F3 #[.agg (heA (KF h.ks) h.kd h.ho h.tu),.agg (wiA i k d)] wx fun e w'=>e=.returned (.agg (heA f kd ho tu))/\bB wx w'):
  Calls Tryz.prog 256 #[.int .i64 row,HV v h,.agg (wiA i k d)] w (Ans w (lQ h.ok (inI i 0 3&&b1) b2 h ⟨dw f,kd,ho,tu⟩)):=by
 obtain⟨ao,cap,rfl⟩:=aa hr;obtain⟨w1,hw1⟩:=eX (((w.alloc (.cells (hdA (.slice ao h.ks.length cap) h) 37)).alloc (.cells (wiA i k d) 297)).alloc (.cells pA 37))
 have HS:Hid (AW w w1 (.slice ao h.ks.length cap) h i k d):=by rw[hw1];exact AW.start _ _ _ _ _ _
 have ch:=fV (.slice ao h.ks.length cap) h w1 (hr.below HS.out.2.2.2 (Nat.le_refl _)) hl;have ct:=fun wx=>rN wx
 have cp:=fun wx=>cO i wx
 have C2:Hid _:=c2;have C3:Hid _:=c3;have HK:Hid (h.ok=true->h.ks.length=4):=Hd.ok_len;obtain⟨A,hA⟩:=eX (lQ h.ok (inI i 0 3&&b1) b2 h ⟨dw f,kd,ho,tu⟩)
 rw[<-hA];have HA:Hid (A=lQ h.ok (inI i 0 3&&b1) b2 h ⟨dw f,kd,ho,tu⟩):=hA;clear c2 c3 hA hr hl;have HV2:Hid (h.ok=true->jQ h=heA (KF h.ks) h.kd h.ho h.tu):=fun e=>by rw[jQ,e];rfl
 obtain⟨f0,x0,y0,z0,hf, -⟩:=gG h;rw[hf]at ch HV2;clear hf;unfold hdA wiA pA at hw1;unfold HV;conv in hdA (.slice ao h.ks.length cap) h=>unfold hdA
 conv in wiA i k d=>unfold wiA
 go_enter Tryz.func256,Tryz.ntmps256;go_upto_region 1 with fail
 rw[<-hw1];clear hw1;unfold HV at ch;go_upto_region 2 with(first|(refine ah Tryz.isH rfl _ rfl w.heap.size rfl (hdA (.slice ao h.ks.length cap) h) rfl HS.out.1 ?_)|(go_at_call 145;refine ch.mono ?_;rintro e w2 ⟨rfl,b2'⟩;have H2:Hid (AW w w2 (.slice ao h.ks.length cap) h i k d):=HS.out.next b2';clear b2';have Z2:Hid (StB (w2.alloc (.cells eu 165)) w2.heap.size 165 eu):=StB.new _ _ _)|(refine ae Tryz.isHeld rfl _ _ rfl w2.heap.size (heA f0 x0 y0 z0) eu rfl rfl rfl rfl (bK _ _ _ _) Z2.out ?_;intro w3 h3 g3;have H3:Hid (AW w w3 (.slice ao h.ks.length cap) h i k d):=H2.out.next (lP g3);have E3:Hid (StB w3 w2.heap.size 165 (heA f0 x0 y0 z0)):=h3;clear h3 g3))
 clear ch HS H2 Z2;obtain⟨g8,hg8⟩:=eX w2.heap.size
 rw[<-hg8]at E3⊢;clear hg8;unfold fv at hx;go_upto_region 3 with(first|(go_at_call 266;refine(ct _).mono ?_;rintro e w4 ⟨rfl,b4⟩;have H4:Hid (AW w w4 (.slice ao h.ks.length cap) h i k d):=H3.out.next b4;have E4:Hid (StB w4 g8 165 (heA f0 x0 y0 z0)):=E3.out.below b4;clear b4;have Z4:Hid (StB (w4.alloc (.cells (vI 3) 310)) w4.heap.size 310 (vI 3)):=StB.new _ _ _)|(refine ae Tryz.isAction rfl _ _ rfl w4.heap.size #[.func (Fn.func F1) #[] #[],.func (Fn.func F2) #[] #[],.func (Fn.func F3) #[] #[]] (vI 3) rfl rfl rfl rfl (by simp[Value.oneCell']) Z4.out ?_;intro w5 h5 g5;have H5:Hid (AW w w5 (.slice ao h.ks.length cap) h i k d):=H4.out.next (lP g5);have E5:Hid (StB w5 g8 165 (heA f0 x0 y0 z0)):=E4.out.below (lP g5);have T5:Hid (StB w5 w4.heap.size 310 #[.func (Fn.func F1) #[] #[],.func (Fn.func F2) #[] #[],.func (Fn.func F3) #[] #[]]):=h5;clear h5 g5))
 clear ct hx H3 H4 E3 E4 Z4;obtain⟨ga,hga⟩:=eX w4.heap.size
 rw[<-hga]at T5⊢;clear hga;obtain⟨ok,hok⟩:=eX h.ok
 rw[<-hok]at C2 C3 HK HA HV2⊢;obtain⟨pe,hpe⟩:=eX (inI i 0 3)
 rw[<-hpe]at C2 C3 HA;simp only[<-hpe]at cp;clear hok hpe;unfold wiA at c1;cases ok with
 |false=>
  clear c1 cp C2 C3 HK HV2;go_upto_region 4 with fail
  go_wp2_with (first|(refine ae Tryz.isH rfl _ _ rfl (w.heap.size+2) (hdA (.slice none 0 0) Hd.zero) pA rfl rfl rfl rfl (dB _ rfl) H5.out.2.2.1 ?_;intro w9 h9 g9))
  refine bodyPost_ret (bE Tryz.isH rfl _ _ (w.heap.size+2) _ _ rfl rfl rfl h9) rfl ?_;exact⟨.slice none 0 0,by rw[HA.out];rfl,by rw[HA.out];exact ml _ _,H5.out.2.2.2.grown g9 H5.out.2.2.2.size (fun x e=>by cases e;omega)⟩
 |true=>
  have HF:Hid (heA f0 x0 y0 z0=heA (KF h.ks) h.kd h.ho h.tu):=HV2.out rfl;have hk4:Hid (h.ks.length=4):=HK.out rfl;have D2:Hid _:=C2.out rfl;have D3:Hid _:=C3.out rfl;clear HV2 HK C2 C3;have q0:w5.cell? ⟨w.heap.size+1,0,none⟩=some (.int .i64 i):=H5.out.2.1.cell 0 rfl;cases pe with
  |false=>
   clear c1 D2 D3;go_wp2_with fail
   refine mo (cp _) ?_;go_upto_region 4 with fail
   go_wp2_with (first|(refine ae Tryz.isH rfl _ _ rfl (w.heap.size+2) (hdA (.slice none 0 0) Hd.zero) pA rfl rfl rfl rfl (dB _ rfl) H5.out.2.2.1 ?_;intro w9 h9 g9))
   refine bodyPost_ret (bE Tryz.isH rfl _ _ (w.heap.size+2) _ _ rfl rfl rfl h9) rfl ?_;exact⟨.slice none 0 0,by rw[HA.out];rfl,by rw[HA.out];exact ml _ _,H5.out.2.2.2.grown g9 H5.out.2.2.2.size (fun x e=>by cases e;omega)⟩
  |true=>
   have B2:Hid _:=D2.out rfl;have B3:Hid _:=D3.out rfl;clear D2 D3;have q1:w5.cell? ⟨w.heap.size+1,1,none⟩=some (.int .i64 k):=H5.out.2.1.cell 1 rfl;have q2:w5.cell? ⟨w.heap.size+1,2,none⟩=some (.int .i64 d):=H5.out.2.1.cell 2 rfl;have a0:w5.cell? ⟨ga,0,none⟩=some (.func (Fn.func F1) #[] #[]):=T5.out.cell 0 rfl;go_wp2_with fail
   refine mo (cp _) ?_;go_wp2_with fail
   refine(c1 _).mono ?_;rintro e w6 ⟨rfl,b6⟩;have H6:Hid (AW w w6 (.slice ao h.ks.length cap) h i k d):=H5.out.next b6;have T6:Hid (StB w6 ga 310 #[.func (Fn.func F1) #[] #[],.func (Fn.func F2) #[] #[],.func (Fn.func F3) #[] #[]]):=T5.out.below b6;have E6:Hid (StB w6 g8 165 (heA f0 x0 y0 z0)):=E5.out.below b6;clear b6 c1 cp H5 T5 E5 q0 q1 q2 a0 e1;cases b1 with
   |false=>
    clear B2 B3;go_upto_region 4 with fail
    go_wp2_with (first|(refine ae Tryz.isH rfl _ _ rfl (w.heap.size+2) (hdA (.slice none 0 0) Hd.zero) pA rfl rfl rfl rfl (dB _ rfl) H6.out.2.2.1 ?_;intro w9 h9 g9))
    refine bodyPost_ret (bE Tryz.isH rfl _ _ (w.heap.size+2) _ _ rfl rfl rfl h9) rfl ?_;exact⟨.slice none 0 0,by rw[HA.out];rfl,by rw[HA.out];exact ml _ _,H6.out.2.2.2.grown g9 H6.out.2.2.2.size (fun x e=>by cases e;omega)⟩
   |true=>
    have c2:=B2.out rfl;have D3:Hid _:=B3.out rfl;clear B2 B3;rw[HF.out]at E6;have a1:w6.cell? ⟨ga,1,none⟩=some (.func (Fn.func F2) #[] #[]):=T6.out.cell 1 rfl;go_upto_region 5 with fail
    go_wp2_with (first|(refine ah Tryz.isHeld rfl _ rfl g8 rfl (heA (KF h.ks) h.kd h.ho h.tu) rfl E6.out ?_)|(refine ah Tryz.isWish rfl _ rfl (w.heap.size+1) rfl (wiA i k d) rfl H6.out.2.1 ?_))
    refine(c2 _).mono ?_;rintro e w7 ⟨rfl,b7⟩;have H7:Hid (AW w w7 (.slice ao h.ks.length cap) h i k d):=H6.out.next b7;have T7:Hid (StB w7 ga 310 #[.func (Fn.func F1) #[] #[],.func (Fn.func F2) #[] #[],.func (Fn.func F3) #[] #[]]):=T6.out.below b7;have E7:Hid (StB w7 g8 165 (heA (KF h.ks) h.kd h.ho h.tu)):=E6.out.below b7;clear b7 c2 H6 T6 E6 a1 e2;have ci:=fun wx=>ld (KF h.ks) h.kd h.ho h.tu wx
    rw[ot hk4.out]at ci;unfold HV at ci;cases b2 with
    |true=>
     clear D3;go_upto_region 6 with fail
     go_wp2_with (first|(refine ah Tryz.isHeld rfl _ rfl g8 rfl (heA (KF h.ks) h.kd h.ho h.tu) rfl E7.out ?_)|(go_at_call 267;refine(ci _).mono ?_;rintro e w8 ⟨u,rfl,o8,b8⟩;have H8:Hid (AW w w8 (.slice ao h.ks.length cap) h i k d):=H7.out.next b8;have O8:Hid (Own w8 w7.heap.size u h.ks):=o8;have ho1:=dq o8.reads;clear b8 o8)|(refine ae Tryz.isH rfl _ _ rfl (w.heap.size+2) (hdA u h) pA rfl rfl rfl rfl (dB _ ho1) H8.out.2.2.1 ?_;intro w9 h9 g9))
     refine bodyPost_ret (bE Tryz.isH rfl _ _ (w.heap.size+2) _ _ rfl rfl rfl h9) rfl ?_;have l7:=H7.out.lt;exact⟨u,by rw[HA.out];rfl,by rw[HA.out];exact(O8.out.keptLt g9 l7).mono (by omega),H8.out.2.2.2.grown g9 H8.out.2.2.2.size (fun x e=>by cases e;omega)⟩
    |false=>
     have c3:=D3.out rfl;have cj:=fun wx=>ld f kd ho tu wx
     unfold HV at cj;clear D3 ci;have a2:w7.cell? ⟨ga,2,none⟩=some (.func (Fn.func F3) #[] #[]):=T7.out.cell 2 rfl;go_upto_region 7 with fail
     go_wp2_with (first|(refine ah Tryz.isHeld rfl _ rfl g8 rfl (heA (KF h.ks) h.kd h.ho h.tu) rfl E7.out ?_)|(refine ah Tryz.isWish rfl _ rfl (w.heap.size+1) rfl (wiA i k d) rfl H7.out.2.1 ?_))
     refine(c3 _).mono ?_;rintro e w8 ⟨rfl,b8⟩;have H8:Hid (AW w w8 (.slice ao h.ks.length cap) h i k d):=H7.out.next b8;clear b8 c3 H7 T7 E7 a2 e3;go_wp2_with (first|(go_at_call 267;refine(cj _).mono ?_;rintro e w9 ⟨u,rfl,o9,b9⟩;have H9:Hid (AW w w9 (.slice ao h.ks.length cap) h i k d):=H8.out.next b9;have O9:Hid (Own w9 w8.heap.size u (dw f)):=o9;have ho1:=dq o9.reads;clear b9 o9)|(refine ae Tryz.isH rfl _ _ rfl (w.heap.size+2) (hdA u ⟨dw f,kd,ho,tu⟩) pA rfl rfl rfl rfl (dB _ ho1) H9.out.2.2.1 ?_;intro wa ha ga'))
     refine bodyPost_ret (bE Tryz.isH rfl _ _ (w.heap.size+2) _ _ rfl rfl rfl ha) rfl ?_;have l8:=H8.out.lt;exact⟨u,by rw[HA.out];rfl,by rw[HA.out];exact(O9.out.keptLt ga' l8).mono (by omega),H9.out.2.2.2.grown ga' H9.out.2.2.2.size (fun x e=>by cases e;omega)⟩
end Go.Proofs.YthldeiojlllkdaaGreatDoor
