/- The key of one, as the program asks it of its row: keyOf. -/
import Derived.Test.YthldeiojlllkdaaGreatDoorM21
set_option maxRecDepth 20000
set_option maxHeartbeats 4000000
namespace Go.Proofs.YthldeiojlllkdaaGreatDoor
open Go.ChangeShapes Go.WideShapes Go.ChangeAt Go.RowKit
def iH (f:Nat->Int) (i:Int):Int:=if inI i 0 3 then f i.toNat else 0
theorem om (f:Nat->Int) (i:Int) (w:World):
  Calls Tryz.prog 197 #[.agg (kA f),.int .i64 i] w fun e w'=>e=.returned (.int .i64 (iH f i))/\iO w w':=by
 have b1:iO w (w.alloc (.cells (kA f) 163)):=Fc;have H1:StB (w.alloc (.cells (kA f) 163)) w.heap.size 163 (kA f):=StB.new _ _ _;have c1:=fun wx=>cQ i wx
 by_cases h:0<=i/\i<4
 ·have hin:inI i 0 3=true:=by simp[inI];omega
  have HK:Hid (iH f i=f i.toNat):=by simp[Hid,iH,hin]
  simp only[hin]at c1;obtain⟨j,hj,hj4⟩:∃j:Nat,i=(j:Int)/\j<4:=⟨i.toNat,by omega,by omega⟩
  subst hj;obtain⟨y,hy⟩:=Fe (f j)
  have hc:(w.alloc (.cells (kA f) 163)).cell? ⟨w.heap.size,j,none⟩=some (.int .i64 y):=by
   rw[hy];exact H1.cell j (ql f j hj4)
  have HY:Hid (y=iH f j):=by rw[Hid,HK.out,hy];rfl
  rw[<-HY.out];have hl:(j:Int)<4:=by omega
  clear hin hy h H1;unfold kA at*;go_enter Tryz.func197,Tryz.ntmps197;go_wp2_with (first|(go_at_call 26;refine Fd (c1 _) ?_))
  go_ret;exact⟨rfl,b1⟩
 ·have hin:inI i 0 3=false:=by simp[inI];omega
  have HK:iH f i=0:=by simp[iH,hin]
  rw[HK];simp only[hin]at c1;clear h hin H1 HK;unfold kA at*;go_enter Tryz.func197,Tryz.ntmps197;go_wp2_with (first|(go_at_call 26;refine Fd (c1 _) ?_))
  go_ret;exact⟨rfl,b1⟩
theorem un (f:Nat->Int) (i:Int) (w:World) (i0:0<=i) (i1:i<4):
  Calls Tryz.prog 290 #[.agg (kA f),.int .i64 i] w fun e w'=>e=.returned (.bool (iJ (ec f i.toNat 0)))/\iO w w':=by
 obtain⟨j,hj,hj4⟩:∃j:Nat,i=(j:Int)/\j<4:=⟨i.toNat,by omega,by omega⟩
 subst hj;rw[Int.toNat_natCast];obtain⟨w1,hw1⟩:=Fe (w.alloc (.cells (kA f) 163))
 have b1:Hid (iO w w1):=by rw[hw1];exact Fc
 have H1:StB w1 w.heap.size 163 (kA f):=by rw[hw1];exact StB.new _ _ _
 obtain⟨w2,hw2⟩:=Fe (w1.setCell ⟨w.heap.size,j,none⟩ (.int .i64 0))
 have H2:Hid (StB w2 w.heap.size 163 (kA (ec f j 0))/\iO w w2):=by
  rw[hw2];exact⟨H1.put j _ (AS f 0 j hj4),b1.out.grown (ai w1 _ j _) b1.out.size (fun k e=>by cases e;exact Nat.le_refl _)⟩
 have hc:=H1.cell j (ql f j hj4);have hf:=H1.frozen j;have c1:=mG (ec f j 0) w2;obtain⟨x,hx⟩:=Fe (iJ (ec f j 0))
 rw[<-hx]at c1⊢;clear hx H1 b1;rw[kA]at hw1⊢;go_enter Tryz.func290,Tryz.ntmps290;go_upto_region 1 with fail
 rw[<-hw1];clear hw1;go_upto_region 2 with fail
 rw[<-hw2];clear hw2 hc hf;go_wp2_with (first|(refine mJ rfl _ rfl w.heap.size rfl _ H2.out.1 ?_)|(go_at_call 215;refine c1.mono ?_;rintro e w3 ⟨rfl,b3⟩))
 go_ret;exact⟨rfl,H2.out.2.trans (b3.mono H2.out.2.size)⟩
def jI (f:Nat->Int) (k:Int):Nat->Bool
 |0=>false
 |j+1=>jI f k j||decide (f j=k)
theorem CU (f:Nat->Int) (k:Int) (j:Nat) (hj:j<4) (h:f j=k):jI f k 4=true:=by
 obtain rfl|rfl|rfl|rfl:j=0∨j=1∨j=2∨j=3:=by omega
 all_goals simp[jI,h]
theorem wF (f:Nat->Int) (k:Int) (g:Nat) (w:World) (hc:∀j,j<4->w.cell? ⟨g,j,none⟩=some (.int .i64 (f j))):
  Calls Tryz.prog 291 #[.slice (some ⟨g,0,none⟩) 4 4,.int .i64 k] w fun e w'=>∃x:Int,e=.returned (.int .i64 x)/\decide (0<=x)=jI f k 4/\w'=w:=by
 go_enter Tryz.func291,Tryz.ntmps291;go_wp2_with fail
 go_loop [8] (fun i=>∃j:Nat,j<=4/\i=.int .i64 j/\jI f k j=false) (fun i=>(4-intOf i).toNat)
 case atStart=>exact⟨0,by omega,rfl,rfl⟩
 case round=>
  obtain⟨j,hj,rfl,hh⟩:=hrel;have HH:Hid (jI f k j=false):=hh;clear hh;by_cases hlt:(j:Int)<4
  ·have hcj:=hc j Ff
   obtain⟨y,hy⟩:=Fe (f j)
   rw[<-hy]at hcj;have HY:Hid (y=f j):=hy;clear hy;by_cases e:k=y
   ·have HU:Hid (jI f k 4=true):=CU f k j Ff (by rw[<-HY.out,e])
    have eb:(k==y)=true:=by simpa using e
    clear e;go_wp2;go_ret;exact⟨_,rfl,by rw[HU.out];simp,rfl⟩
   ·have eb:(k==y)=false:=by simpa using e
    have HU:Hid (jI f k (j+1)=false):=by
     rw[Hid,jI,HH.out,<-HY.out];simp[Ne.symm e]
    clear e;go_wp2
    go_round
    case rel=>exact⟨j+1,by omega,by go_num,HU.out⟩
    case measure=>simp[intOf];omega
  ·go_wp2
   go_ret;have:j=4:=by omega
   subst this;exact⟨_,rfl,by rw[HH.out];rfl,rfl⟩
theorem pK (f:Nat->Int) (k:Int) (g:Nat) (w:World) (hc:∀j,j<4->w.cell? ⟨g,j,none⟩=some (.int .i64 (f j))):
  Calls Tryz.prog 289 #[.slice (some ⟨g,0,none⟩) 4 4,.int .i64 k] w fun e w'=>e=.returned (.bool (jI f k 4))/\w'=w:=by
 have c1:=wF f k g w hc;clear hc;go_enter Tryz.func289,Tryz.ntmps289;go_wp2_with fail
 refine c1.mono ?_;rintro e w' ⟨x,rfl,hx,hw⟩;subst w';have HX:Hid (decide (0<=x)=jI f k 4):=hx;clear hx;go_wp2;go_ret;exact⟨af (by rw[<-HX.out]),rfl⟩
def lZ (f:Nat->Int) (kd ho i d:Int):Bool:=lr f i||((kd !=0)&&((kd !=d)|| !d9 f kd ho i))
theorem wG (f:Nat->Int) (kd ho tu i k d:Int) (w:World):
  Calls Tryz.prog 276 #[.agg (heA f kd ho tu),.agg (wiA i k d)] w fun e w'=>e=.returned (.bool (lZ f kd ho i d))/\iO w w':=by
 obtain⟨w1,hw1⟩:=Fe ((w.alloc (.cells (heA f kd ho tu) 165)).alloc (.cells (wiA i k d) 297))
 have HS:Hid (HW2 w w1 f kd ho tu i k d):=by rw[hw1];exact HW2.start _ _ _ _ _ _ _ _
 have c1:=gl f kd ho tu i k d w1;have c2:=fun wx=>gE f kd ho tu i wx
 have HE:Hid (lZ f kd ho i d=(lr f i||((kd !=0)&&((kd !=d)|| !d9 f kd ho i)))):=rfl;obtain⟨x,hx⟩:=Fe (lr f i)
 obtain⟨y,hy⟩:=Fe (d9 f kd ho i)
 obtain⟨r,hr⟩:=Fe (lZ f kd ho i d)
 rw[<-hr,<-hx,<-hy]at HE;rw[<-hr];rw[<-hx]at c1;simp only[<-hy]at c2;clear hx hy hr;obtain⟨a0,ha0⟩:=Fe ((kd !=0))
 obtain⟨a1,ha1⟩:=Fe ((kd !=d))
 rw[<-ha0,<-ha1]at HE;rw[heA,wiA]at hw1 c1⊢;unfold heA at c2;go_enter Tryz.func276,Tryz.ntmps276;go_wp2_with fail
 rw[<-hw1];refine c1.mono ?_;rintro e w2 ⟨rfl,b2⟩;have HS2:Hid (HW2 w w2 f kd ho tu i k d):=HS.out.next b2;obtain⟨m0,m1,m2,m3,m4,m5,m6⟩:=aY HS2.out.1;obtain⟨p0,p1,p2⟩:=lY HS2.out.2.1;clear b2 c1 HS hw1;cases x with
 |true=>
  clear c2 ha0 ha1;go_wp2;go_ret;exact⟨af (by rw[HE.out];simp),HS2.out.2.2⟩
 |false=>
  cases a0 with
  |false=>
   have k0:(kd !=0)=false:=ha0.symm;clear c2 ha1 ha0;go_wp2;go_ret;exact⟨af (by rw[HE.out];simp),HS2.out.2.2⟩
  |true=>
   have k0:(kd !=0)=true:=ha0.symm;clear ha0;cases a1 with
   |true=>
    have k1:(kd !=d)=true:=ha1.symm;clear c2 ha1;go_wp2;go_ret;exact⟨af (by rw[HE.out];simp),HS2.out.2.2⟩
   |false=>
    have k1:(kd !=d)=false:=ha1.symm;clear ha1;go_wp2_with (first|(go_at_call 231;refine(c2 _).mono ?_;rintro e w3 ⟨rfl,b3⟩))
    go_ret;exact⟨af (by rw[HE.out];simp),HS2.out.2.2.trans (b3.mono HS2.out.2.2.size)⟩
def l6 (f:Nat->Int) (i k:Int):Bool:=lr f i|| !jI f k 4
theorem wH {w:World} {g:Nat} {f:Nat->Int} {kd ho tu:Int} (h:StB w g 165 (heA f kd ho tu)):∀j,j<4->w.cell? ⟨g,j,none⟩=some (.int .i64 (f j)):=
 ng (h.cell 0 rfl) (h.cell 1 rfl) (h.cell 2 rfl) (h.cell 3 rfl)
theorem yg (f:Nat->Int) (kd ho tu x:Int):∀j,j<4->(heA f kd ho tu).setIfInBounds j (.int .i64 x)=heA (ec f j x) kd ho tu:=ng rfl rfl rfl rfl
theorem wI (f:Nat->Int) (kd ho tu i k d:Int) (w:World):
  Calls Tryz.prog 283 #[.agg (heA f kd ho tu),.agg (wiA i k d)] w fun e w'=>e=.returned (.bool (l6 f i k))/\iO w w':=by
 obtain⟨w1,hw1⟩:=Fe ((w.alloc (.cells (heA f kd ho tu) 165)).alloc (.cells (wiA i k d) 297))
 have HS:Hid (HW2 w w1 f kd ho tu i k d):=by rw[hw1];exact HW2.start _ _ _ _ _ _ _ _
 have HD:Hid (HW2 w w1.drew f kd ho tu i k d):=HS.out.drew;have c1:=fun wx=>gl f kd ho tu i k d wx
 have c2:∀wx:World,(∀j,j<4->wx.cell? ⟨w.heap.size,j,none⟩=some (Value.int .i64 (f j)))->_:=fun wx h=>pK f k w.heap.size wx h
 have HE:Hid (l6 f i k=(lr f i|| !jI f k 4)):=rfl;obtain⟨x,hx⟩:=Fe (lr f i)
 obtain⟨y,hy⟩:=Fe (jI f k 4)
 obtain⟨r,hr⟩:=Fe (l6 f i k)
 rw[<-hr,<-hx,<-hy]at HE;rw[<-hr];simp only[<-hx]at c1;simp only[<-hy]at c2;clear hx hy hr;obtain⟨p,hp⟩:=Fe (fun x=>HW2 w x f kd ho tu i k d)
 have HP:Hid (∀x,p x->HW2 w x f kd ho tu i k d):=by rw[hp];exact fun _ h=>h
 have HN:Hid (∀x w',p x->iO x w'->p w'):=by rw[hp];exact fun _ _ h b=>h.next b
 have H0:Hid (p w1.drew):=by rw[hp];exact HD.out
 have hne:Nonempty (Kin p):=⟨⟨_,H0.out⟩⟩
 have m0:∀q:Kin p,q.x.cell? ⟨w.heap.size,0,none⟩=some (.int .i64 (f 0)):=fun q=>(HP.out _ q.h).1.cell 0 rfl
 have m1:∀q:Kin p,q.x.cell? ⟨w.heap.size,1,none⟩=some (.int .i64 (f 1)):=fun q=>(HP.out _ q.h).1.cell 1 rfl
 have m2:∀q:Kin p,q.x.cell? ⟨w.heap.size,2,none⟩=some (.int .i64 (f 2)):=fun q=>(HP.out _ q.h).1.cell 2 rfl
 have m3:∀q:Kin p,q.x.cell? ⟨w.heap.size,3,none⟩=some (.int .i64 (f 3)):=fun q=>(HP.out _ q.h).1.cell 3 rfl
 have m4:∀q:Kin p,q.x.cell? ⟨w.heap.size,4,none⟩=some (.int .i64 kd):=fun q=>(HP.out _ q.h).1.cell 4 rfl
 have m5:∀q:Kin p,q.x.cell? ⟨w.heap.size,5,none⟩=some (.int .i64 ho):=fun q=>(HP.out _ q.h).1.cell 5 rfl
 have m6:∀q:Kin p,q.x.cell? ⟨w.heap.size,6,none⟩=some (.int .i64 tu):=fun q=>(HP.out _ q.h).1.cell 6 rfl
 have p0:∀q:Kin p,q.x.cell? ⟨w.heap.size+1,0,none⟩=some (.int .i64 i):=fun q=>(HP.out _ q.h).2.1.cell 0 rfl
 have p1:∀q:Kin p,q.x.cell? ⟨w.heap.size+1,1,none⟩=some (.int .i64 k):=fun q=>(HP.out _ q.h).2.1.cell 1 rfl
 have p2:∀q:Kin p,q.x.cell? ⟨w.heap.size+1,2,none⟩=some (.int .i64 d):=fun q=>(HP.out _ q.h).2.1.cell 2 rfl
 unfold heA wiA at c1;rw[heA,wiA]at hw1⊢;go_enter Tryz.func283,Tryz.ntmps283;go_upto_region 1 with fail
 rw[<-hw1];clear hw1 HS hp;have C2:Hid (∀q:Kin p,_):=fun q=>c2 q.x (wH (HP.out _ q.h).1)
 clear c2;cases x with
 |true=>
  refine eQ p Fi Fi H0.out ?_;repeat(quiet_step (first|(go_at_call 279;exact Kin.call (c1 _) HN.out)))
  refine wpQuiet_nil ?_;intro w2 hw';have H2:p w2:=by{obtain⟨q,rfl⟩:=hw';exact q.h}
  clear hw';go_wp2;go_ret;exact⟨af (by rw[HE.out];simp),(HP.out _ H2).2.2⟩
 |false=>
  refine eQ p Fi Fi H0.out ?_;repeat(quiet_step (first|(go_at_call 279;exact Kin.call (c1 _) HN.out)|(go_at_call 289;exact Kin.same (C2.out _))))
  refine wpQuiet_nil ?_;intro w2 hw';have H2:p w2:=by{obtain⟨q,rfl⟩:=hw';exact q.h}
  clear hw';go_wp2;go_ret;exact⟨af (by rw[HE.out];simp),(HP.out _ H2).2.2⟩
theorem sa (f:Nat->Int) (kd ho tu i k d:Int) (w:World) (t0:0<=tu) (t1:tu<=1000000000) (i0:0<=i) (i1:i<4):
  Calls Tryz.prog 274 #[.agg (heA f kd ho tu),.agg (wiA i k d)] w fun e w'=>e=.returned (.agg (heA (ec f i.toNat k) (if jG (ec f i.toNat k) kd ho then kd else 0) (if jG (ec f i.toNat k) kd ho then ho else-1) (cM tu)))/\iO w w':=by
 obtain⟨j,hj,hj4⟩:∃j:Nat,i=(j:Int)/\j<4:=⟨i.toNat,by omega,by omega⟩
 subst hj;rw[Int.toNat_natCast];obtain⟨w1,hw1⟩:=Fe (((w.alloc (.cells (heA f kd ho tu) 165)).alloc (.cells (wiA j k d) 297)).alloc (.cells ev 165))
 have HS:Hid (HW w w1 f kd ho tu j k d):=by rw[hw1];exact HW.start _ _ _ _ _ _ _ _
 obtain⟨w2,hw2⟩:=Fe (w1.setCell ⟨w.heap.size,j,none⟩ (.int .i64 k))
 have H2:Hid (HW w w2 (ec f j k) kd ho tu j k d):=by rw[hw2];exact HS.out.put j k (yg f kd ho tu k j hj4)
 obtain⟨p0,p1,p2⟩:=lY HS.out.2.1;have hc:=wH HS.out.1 j hj4;have hf:=HS.out.1.frozen j;obtain⟨g,hg⟩:=Fe (ec f j k)
 rw[<-hg]at H2⊢;have c1:=fun wx=>jQ g kd ho tu wx
 have c2:=fun wx=>jd g kd ho tu wx
 have c3:=fun wx=>fW g kd ho tu wx t0 t1
 have c4:=fun wx=>fW g 0 (-1) tu wx t0 t1
 obtain⟨x,hx⟩:=Fe (jG g kd ho)
 rw[<-hx];simp only[<-hx]at c1;have hl:(j:Int)<4:=by omega
 clear hx hg HS t0 t1 i0 i1 hj4;rw[heA,wiA,ev,heA]at hw1;conv in heA f kd ho tu=>unfold heA
 rw[wiA];go_enter Tryz.func274,Tryz.ntmps274;go_upto_region 1 with fail
 rw[<-hw1];clear hw1;go_upto_region 2 with fail
 rw[<-hw2];clear hw2 p0 p1 p2 hc hf;cases x with
 |true=>
  clear c2 c4;go_wp2_with (first|(refine ah GK rfl _ rfl w.heap.size rfl (heA g kd ho tu) rfl H3.out.1 ?_)|(refine ah GK rfl _ rfl w.heap.size rfl (heA g kd ho tu) rfl H2.out.1 ?_)|(go_at_call 178;refine(c1 _).mono ?_;rintro e w3 ⟨rfl,b3⟩;have H3:Hid (HW w w3 g kd ho tu j k d):=H2.out.next b3;clear b3)|(go_at_call 288;refine(c3 _).mono ?_;rintro e w4 ⟨rfl,b4⟩;have H4:Hid (HW w w4 g kd ho tu j k d):=H3.out.next b4;clear b4)|(refine ae GK rfl _ _ rfl (w.heap.size+2) (heA g kd ho (cM tu)) ev rfl rfl rfl rfl (bO _ _ _ _) H4.out.2.2.1 ?_;intro w5 h5 g5))
  refine bodyPost_ret (aj GK rfl _ _ (w.heap.size+2) _ rfl rfl h5) rfl ?_;exact⟨rfl,H4.out.2.2.2.grown g5 H4.out.2.2.2.size (fun k e=>by cases e;omega)⟩
 |false=>
  clear c3;go_upto_region 3 with(first|(refine ah GK rfl _ rfl w.heap.size rfl (heA g kd ho tu) rfl H2.out.1 ?_)|(go_at_call 178;refine(c1 _).mono ?_;rintro e w3 ⟨rfl,b3⟩;have H3:Hid (HW w w3 g kd ho tu j k d):=H2.out.next b3;clear b3))
  clear H2 c1;go_upto_region 4 with(first|(refine ah GK rfl _ rfl w.heap.size rfl (heA g kd ho tu) rfl H3.out.1 ?_)|(go_at_call 287;refine(c2 _).mono ?_;rintro e w4 ⟨rfl,b4⟩;have H4:Hid (HW w w4 g kd ho tu j k d):=H3.out.next b4;clear b4)|(refine ae GK rfl _ _ rfl w.heap.size (heA g 0 (-1) tu) (heA g kd ho tu) rfl rfl rfl rfl (bO _ _ _ _) H4.out.1 ?_;intro w5 h5 g5;have H5:Hid (HW w w5 g 0 (-1) tu j k d):=H4.out.set h5 g5;clear h5 g5))
  clear H3 H4 c2;go_wp2_with (first|(refine ah GK rfl _ rfl w.heap.size rfl (heA g 0 (-1) tu) rfl H5.out.1 ?_)|(go_at_call 288;refine(c4 _).mono ?_;rintro e w6 ⟨rfl,b6⟩;have H6:Hid (HW w w6 g 0 (-1) tu j k d):=H5.out.next b6;clear b6)|(refine ae GK rfl _ _ rfl (w.heap.size+2) (heA g 0 (-1) (cM tu)) ev rfl rfl rfl rfl (bO _ _ _ _) H6.out.2.2.1 ?_;intro w7 h7 g7))
  refine bodyPost_ret (aj GK rfl _ _ (w.heap.size+2) _ rfl rfl h7) rfl ?_;exact⟨rfl,H6.out.2.2.2.grown g7 H6.out.2.2.2.size (fun k e=>by cases e;omega)⟩
def fX (f:Nat->Int) (i:Nat) (k:Int) (j:Nat):Nat->Int:=fun m=>if m<j/\f m=k/\m≠i then 0 else f m
theorem zj (f:Nat->Int) (i:Nat) (k:Int):fX f i k 0=f:=by funext m;simp[fX]
theorem A0 (f:Nat->Int) (i:Nat) (k:Int) (j:Nat) (h:f j=k) (hn:j≠i):ec (fX f i k j) j 0=fX f i k (j+1):=by
 funext m
 unfold ec fX;by_cases e:m=j
 ·subst e;simp[h,hn]
 ·have:m<j+1↔m<j:=by omega
  simp[e,this]
theorem yd (f:Nat->Int) (i:Nat) (k:Int) (j:Nat) (h:¬(f j=k/\j≠i)):fX f i k j=fX f i k (j+1):=by
 funext m
 unfold fX;by_cases e:m=j
 ·subst e
  rw[if_neg (by intro c;exact h c.2),if_neg (by intro c;exact h c.2)]
 ·have:m<j+1↔m<j:=by omega
  simp[this]
theorem Fa (f:Nat->Int) (j:Nat) (hj:j<4) (w:World):(Instr.index 163 (.agg (kA f)) (.int .i64 (j:Int))).run Tryz.prog w=.ok (.int .i64 (f j)) w:=by
 obtain⟨i0,hi,hz0,hz1,hz2⟩:=info_parts Gz;have h1:(0:Int)<=(j:Int)/\(j:Int)<((4:Nat):Int):=by omega
 have h2:((j:Int)).toNat*1=j:=by omega
 have hcells:Tryz.prog.cellsOf 2=1:=by kernel_rfl
 have hplain:Tryz.prog.plainKey 2=true:=by kernel_rfl
 simp only[Instr.index,asIntOf,run_underlying Hy,Sem.run_bind,Sem.run_pure,Result.andThen_ok,h1,and_self,if_true,run_sizeOf w hi,hcells,h2];exact run_part_plain w hplain (ql f j hj)
def gG (f:Nat->Int) (kd ho i k:Int):Bool:=(iH f ho==k)||(bY kd&& !iJ (ec (fX f i.toNat k 4) i.toNat 0))
theorem ot (f:Nat->Int) (kd ho tu i k d:Int) (w:World) (t0:0<=tu) (t1:tu<=1000000000) (i0:0<=i) (i1:i<4):
  Calls Tryz.prog 284 #[.agg (heA f kd ho tu),.agg (wiA i k d)] w fun e w'=>e=.returned (.agg (heA (fX f i.toNat k 4) (if gG f kd ho i k then d else kd) (if gG f kd ho i k then(if bY d then-1 else i)else ho) (cM tu)))/\iO w w':=by
 obtain⟨n,hn,hn4⟩:∃n:Nat,i=(n:Int)/\n<4:=⟨i.toNat,by omega,by omega⟩
 subst hn;rw[Int.toNat_natCast];obtain⟨w1,hw1⟩:=Fe (((w.alloc (.cells (heA f kd ho tu) 165)).alloc (.cells (wiA n k d) 297)).alloc (.cells ev 165))
 have HS:Hid (HW w w1 f kd ho tu n k d):=by rw[hw1];exact HW.start _ _ _ _ _ _ _ _
 have HD:Hid (HW w w1.drew f kd ho tu n k d):=HS.out.drew;have c1:=fun wx=>om f ho wx
 have HE:Hid (gG f kd ho n k=((iH f ho==k)||(bY kd&& !iJ (ec (fX f n k 4) n 0)))):=rfl;obtain⟨y,hy⟩:=Fe (iH f ho)
 obtain⟨r,hr⟩:=Fe (gG f kd ho n k)
 obtain⟨A,hA⟩:=Fe (heA (fX f n k 4) (if gG f kd ho n k then d else kd) (if gG f kd ho n k then(if bY d then-1 else(n:Int))else ho) (cM tu))
 rw[<-hA];have HA:Hid (A=heA (fX f n k 4) (if r then d else kd) (if r then(if bY d then-1 else(n:Int))else ho) (cM tu)):=by rw[Hid,hr];exact hA
 clear hA;rw[<-hr,<-hy]at HE;simp only[<-hy]at c1;clear hy hr;obtain⟨p,hp⟩:=Fe (fun x=>HW w x f kd ho tu n k d)
 have HP:Hid (∀x,p x->HW w x f kd ho tu n k d):=by rw[hp];exact fun _ h=>h
 have HN:Hid (∀x w',p x->iO x w'->p w'):=by rw[hp];exact fun _ _ h b=>h.next b
 have H0:Hid (p w1.drew):=by rw[hp];exact HD.out
 have hne:Nonempty (Kin p):=⟨⟨_,H0.out⟩⟩
 have m0:∀q:Kin p,q.x.cell? ⟨w.heap.size,0,none⟩=some (.int .i64 (f 0)):=fun q=>(HP.out _ q.h).1.cell 0 rfl
 have m1:∀q:Kin p,q.x.cell? ⟨w.heap.size,1,none⟩=some (.int .i64 (f 1)):=fun q=>(HP.out _ q.h).1.cell 1 rfl
 have m2:∀q:Kin p,q.x.cell? ⟨w.heap.size,2,none⟩=some (.int .i64 (f 2)):=fun q=>(HP.out _ q.h).1.cell 2 rfl
 have m3:∀q:Kin p,q.x.cell? ⟨w.heap.size,3,none⟩=some (.int .i64 (f 3)):=fun q=>(HP.out _ q.h).1.cell 3 rfl
 have m5:∀q:Kin p,q.x.cell? ⟨w.heap.size,5,none⟩=some (.int .i64 ho):=fun q=>(HP.out _ q.h).1.cell 5 rfl
 have p1:∀q:Kin p,q.x.cell? ⟨w.heap.size+1,1,none⟩=some (.int .i64 k):=fun q=>(HP.out _ q.h).2.1.cell 1 rfl
 unfold kA at c1;rw[heA,wiA,ev,heA]at hw1;conv in heA f kd ho tu=>unfold heA
 rw[wiA];go_enter Tryz.func284,Tryz.ntmps284;go_upto_region 1 with fail
 rw[<-hw1];clear hw1 HS HD hp;refine eQ p Fi Fi H0.out ?_;repeat(quiet_step (first|(go_at_call 197;exact Kin.call (c1 _) HN.out)))
 refine wpQuiet_nil ?_;intro w2 hw';have H2:p w2:=by{obtain⟨q,rfl⟩:=hw';exact q.h}
 clear hw';have HS:Hid (HW w w2 f kd ho tu n k d):=HP.out _ H2;clear H2 HP HN H0 hne m0 m1 m2 m3 m5 p1 c1;obtain⟨m0,m1,m2,m3, -, -, -⟩:=aY HS.out.1;have hix:=fun j hj wx=>Fa f j hj wx
 unfold kA at hix;have HX:Hid _:=hix;clear hix;go_wp2_with fail
 clear m0 m1 m2 m3;go_loopw [18] (fun v wr=>∃j:Nat,j<=4/\v=.int .i64 j/\Hid (HW w wr (fX f n k j) kd ho tu n k d)) (fun v _=>4-(intOf v).toNat)
 case atStart=>exact⟨0,by omega,rfl,by rw[zj];exact HS⟩
 case round=>
  obtain⟨j,hj,rfl,HR⟩:=hrel;clear HS;by_cases hlt:(j:Int)<4
  ·have ix:=HX.out j Ff wr
   obtain⟨z,hz⟩:=Fe (f j)
   rw[<-hz]at ix;have p0:wr.cell? ⟨w.heap.size+1,0,none⟩=some (.int .i64 n):=HR.out.2.1.cell 0 rfl;have p1:wr.cell? ⟨w.heap.size+1,1,none⟩=some (.int .i64 k):=HR.out.2.1.cell 1 rfl;by_cases ek:z=k
   ·have ekb:(z==k)=true:=by simpa using ek
    by_cases en:(j:Int)=n
    ·have enb:((j:Int) !=(n:Int))=false:=by simpa using en
     have HR2:Hid (HW w wr (fX f n k (j+1)) kd ho tu n k d):=by rw[Hid,<-yd f n k j Ff];exact HR.out
     clear hz ek en HR;go_wp2;go_roundw
     case rel=>exact⟨j+1,by omega,by go_num,HR2⟩
     case measure=>simp[intOf];omega
    ·have enb:((j:Int) !=(n:Int))=true:=by simpa using en
     have hcj:=wH HR.out.1 j Ff;have hfj:=HR.out.1.frozen j;have HR2:Hid (HW w (wr.setCell ⟨w.heap.size,j,none⟩ (.int .i64 0)) (fX f n k (j+1)) kd ho tu n k d):=by
      rw[Hid,<-A0 f n k j (by rw[<-hz,ek]) Ff];exact HR.out.put j 0 (yg _ kd ho tu 0 j Ff)
     clear hz ek en HR;go_wp2;go_roundw
     case rel=>exact⟨j+1,by omega,by go_num,HR2⟩
     case measure=>simp[intOf];omega
   ·have ekb:(z==k)=false:=by simpa using ek
    have HR2:Hid (HW w wr (fX f n k (j+1)) kd ho tu n k d):=by rw[Hid,<-yd f n k j (by rw[<-hz];omega)];exact HR.out
    clear hz ek HR p0;go_wp2;go_roundw
    case rel=>exact⟨j+1,by omega,by go_num,HR2⟩
    case measure=>simp[intOf];omega
  ·have e4:j=4:=by omega
   subst e4;obtain⟨g,hg⟩:=Fe (fX f n k 4)
   have c2:=fun wx=>lp kd wx
   have c3:=fun wx=>un g n wx i0 i1
   have c4:=fun wx=>mP g kd ho tu n k d wx
   obtain⟨h2,hh2⟩:=Fe (if bY d then-1 else(n:Int))
   have c5:=fun wx=>fW g d h2 tu wx t0 t1
   have c6:=fun wx=>fW g kd ho tu wx t0 t1
   rw[Int.toNat_natCast]at c3;simp only[<-hh2]at c4;rw[<-hg]at HE HR;have HG:Hid (g=fX f n k 4):=hg;have HH2:Hid (h2=if bY d then-1 else(n:Int)):=hh2;obtain⟨a1,ha1⟩:=Fe (bY kd)
   obtain⟨a2,ha2⟩:=Fe (iJ (ec g n 0))
   obtain⟨b0,hb0⟩:=Fe ((y==k))
   rw[<-ha1,<-ha2,<-hb0]at HE;simp only[<-ha1]at c2;simp only[<-ha2]at c3;clear ha1 ha2 hg hh2 t0 t1 i0 i1 HX;unfold kA at c3;cases b0 with
   |true=>
    have hb:(y==k)=true:=hb0.symm;clear hb0 c2 c3;clear c6;go_upto_region 9 with fail
    go_upto_region 10 with(first|(refine ah GK rfl _ rfl w.heap.size rfl (heA g kd ho tu) rfl HR.out.1 ?_)|(refine ah GU rfl _ rfl (w.heap.size+1) rfl (wiA n k d) rfl HR.out.2.1 ?_)|(go_at_call 277;refine(c4 _).mono ?_;rintro e w6 ⟨rfl,b6⟩;have H6:Hid (HW w w6 g kd ho tu n k d):=HR.out.next b6;clear b6)|(refine ae GK rfl _ _ rfl w.heap.size (heA g d h2 tu) (heA g kd ho tu) rfl rfl rfl rfl (bO _ _ _ _) H6.out.1 ?_;intro w7 h7 g7;have H7:Hid (HW w w7 g d h2 tu n k d):=H6.out.set h7 g7;clear h7 g7))
    clear c4;go_wp2_with (first|(refine ah GK rfl _ rfl w.heap.size rfl (heA g d h2 tu) rfl H7.out.1 ?_)|(go_at_call 288;refine(c5 _).mono ?_;rintro e w8 ⟨rfl,b8⟩;have H8:Hid (HW w w8 g d h2 tu n k d):=H7.out.next b8;clear b8)|(refine ae GK rfl _ _ rfl (w.heap.size+2) (heA g d h2 (cM tu)) ev rfl rfl rfl rfl (bO _ _ _ _) H8.out.2.2.1 ?_;intro w9 h9 g9))
    refine bodyPost_ret (aj GK rfl _ _ (w.heap.size+2) _ rfl rfl h9) rfl ?_;exact⟨by rw[HA.out,HE.out,<-HG.out,<-HH2.out];rfl,H8.out.2.2.2.grown g9 H8.out.2.2.2.size (fun k e=>by cases e;omega)⟩
   |false=>
    have hb:(y==k)=false:=hb0.symm;clear hb0;have q4:wr.cell? ⟨w.heap.size,4,none⟩=some (.int .i64 kd):=HR.out.1.cell 4 rfl;go_wp2_with fail
    refine(c2 _).mono ?_;rintro e w3 ⟨rfl,b3⟩;have H3:Hid (HW w w3 g kd ho tu n k d):=HR.out.next b3;clear b3 HR q4 c2;cases a1 with
    |false=>
     clear c3;clear c4 c5;go_upto_region 10 with fail
     go_wp2_with (first|(refine ah GK rfl _ rfl w.heap.size rfl (heA g kd ho tu) rfl H3.out.1 ?_)|(go_at_call 288;refine(c6 _).mono ?_;rintro e w8 ⟨rfl,b8⟩;have H8:Hid (HW w w8 g kd ho tu n k d):=H3.out.next b8;clear b8)|(refine ae GK rfl _ _ rfl (w.heap.size+2) (heA g kd ho (cM tu)) ev rfl rfl rfl rfl (bO _ _ _ _) H8.out.2.2.1 ?_;intro w9 h9 g9))
     refine bodyPost_ret (aj GK rfl _ _ (w.heap.size+2) _ rfl rfl h9) rfl ?_;exact⟨by rw[HA.out,HE.out,<-HG.out,<-HH2.out];rfl,H8.out.2.2.2.grown g9 H8.out.2.2.2.size (fun k e=>by cases e;omega)⟩
    |true=>
     obtain⟨m0,m1,m2,m3, -, -, -⟩:=aY H3.out.1;have p0:w3.cell? ⟨w.heap.size+1,0,none⟩=some (.int .i64 n):=H3.out.2.1.cell 0 rfl;go_wp2_with fail
     refine(c3 _).mono ?_;rintro e w4 ⟨rfl,b4⟩;have H4:Hid (HW w w4 g kd ho tu n k d):=H3.out.next b4;clear b4 H3 c3 m0 m1 m2 m3 p0;cases a2 with
     |true=>
      clear c4 c5;go_upto_region 10 with fail
      go_wp2_with (first|(refine ah GK rfl _ rfl w.heap.size rfl (heA g kd ho tu) rfl H4.out.1 ?_)|(go_at_call 288;refine(c6 _).mono ?_;rintro e w8 ⟨rfl,b8⟩;have H8:Hid (HW w w8 g kd ho tu n k d):=H4.out.next b8;clear b8)|(refine ae GK rfl _ _ rfl (w.heap.size+2) (heA g kd ho (cM tu)) ev rfl rfl rfl rfl (bO _ _ _ _) H8.out.2.2.1 ?_;intro w9 h9 g9))
      refine bodyPost_ret (aj GK rfl _ _ (w.heap.size+2) _ rfl rfl h9) rfl ?_;exact⟨by rw[HA.out,HE.out,<-HG.out,<-HH2.out];rfl,H8.out.2.2.2.grown g9 H8.out.2.2.2.size (fun k e=>by cases e;omega)⟩
     |false=>
      clear c6;go_upto_region 9 with fail
      go_upto_region 10 with(first|(refine ah GK rfl _ rfl w.heap.size rfl (heA g kd ho tu) rfl H4.out.1 ?_)|(refine ah GU rfl _ rfl (w.heap.size+1) rfl (wiA n k d) rfl H4.out.2.1 ?_)|(go_at_call 277;refine(c4 _).mono ?_;rintro e w6 ⟨rfl,b6⟩;have H6:Hid (HW w w6 g kd ho tu n k d):=H4.out.next b6;clear b6)|(refine ae GK rfl _ _ rfl w.heap.size (heA g d h2 tu) (heA g kd ho tu) rfl rfl rfl rfl (bO _ _ _ _) H6.out.1 ?_;intro w7 h7 g7;have H7:Hid (HW w w7 g d h2 tu n k d):=H6.out.set h7 g7;clear h7 g7))
      clear c4;go_wp2_with (first|(refine ah GK rfl _ rfl w.heap.size rfl (heA g d h2 tu) rfl H7.out.1 ?_)|(go_at_call 288;refine(c5 _).mono ?_;rintro e w8 ⟨rfl,b8⟩;have H8:Hid (HW w w8 g d h2 tu n k d):=H7.out.next b8;clear b8)|(refine ae GK rfl _ _ rfl (w.heap.size+2) (heA g d h2 (cM tu)) ev rfl rfl rfl rfl (bO _ _ _ _) H8.out.2.2.1 ?_;intro w9 h9 g9))
      refine bodyPost_ret (aj GK rfl _ _ (w.heap.size+2) _ rfl rfl h9) rfl ?_;exact⟨by rw[HA.out,HE.out,<-HG.out,<-HH2.out];rfl,H8.out.2.2.2.grown g9 H8.out.2.2.2.size (fun k e=>by cases e;omega)⟩
def fv (n:FuncId):Value:=.func (Fn.func n) #[] #[]
def acA:Array Value:=#[fv 272,fv 273,fv 274,fv 275,fv 276,fv 277,fv 278,fv 279,fv 280,fv 278,fv 279,fv 281,fv 282,fv 283,fv 284]
def vI (n:Nat):Array Value:=Array.replicate n .nilFunc
theorem GD:IsS 310 3:=⟨⟨_,Tryz.underlying310⟩,by kernel_rfl⟩
theorem Hp:(Tryz.prog.info? 311).map (·.size)=some 15:=by kernel_rfl
theorem Hu:Tryz.prog.underlying 311=some (.array 5 310):=by kernel_rfl
theorem rN (w:World):
  Calls Tryz.prog 266 #[] w fun e w'=>e=.returned (.agg acA)/\iO w w':=by
 have z0:StB (w.alloc (.cells (vI 15) 311)) w.heap.size 311 (vI 15):=StB.new _ _ _;have b0:iO w (w.alloc (.cells (vI 15) 311)):=Fc;have Z0:Hid _:=z0;have B0:Hid _:=b0;clear z0 b0;go_enter Tryz.func266,Tryz.ntmps266;go_wp2_with (first|(refine wpList_store_row rfl _ _ _ rfl w.heap.size acA rfl rfl _ _ Z0.out Hp rfl (by simp[acA,fv,Value.oneCell']) ?_))
 have h2:=setRow_heap _ w.heap.size _ acA _ _ Z0.out;have g2:=gw (w.alloc (.cells (vI 15) 311)) w.heap.size acA;refine bodyPost_ret (results_cell_row rfl _ _ w.heap.size _ _ _ _ rfl h2 Hu rfl Hp) rfl ?_;exact⟨rfl,B0.out.grown g2 B0.out.size (fun k e=>by cases e;exact Nat.le_refl _)⟩
def nX (r:Nat):Array Value:=#[acA.getD (3*r) undef,acA.getD (3*r+1) undef,acA.getD (3*r+2) undef]
theorem El (w:World):(Instr.index 311 (.agg acA) (.int .i64 0)).run Tryz.prog w=.ok (.agg (nX 0)) w:=by kernel_rfl
theorem Em (w:World):(Instr.index 311 (.agg acA) (.int .i64 1)).run Tryz.prog w=.ok (.agg (nX 1)) w:=by kernel_rfl
theorem En (w:World):(Instr.index 311 (.agg acA) (.int .i64 2)).run Tryz.prog w=.ok (.agg (nX 2)) w:=by kernel_rfl
theorem Eo (w:World):(Instr.index 311 (.agg acA) (.int .i64 3)).run Tryz.prog w=.ok (.agg (nX 3)) w:=by kernel_rfl
theorem Ep (w:World):(Instr.index 311 (.agg acA) (.int .i64 4)).run Tryz.prog w=.ok (.agg (nX 4)) w:=by kernel_rfl
def pz:Array Value:=#[.slice none 0 0,.int .i64 0,.int .i64 0,.int .i64 0]
def AW (w w1:World) (v:Value) (h:Hd) (i k d:Int):Prop:=
 StB w1 w.heap.size 37 (hdA v h)/\StB w1 (w.heap.size+1) 297 (wiA i k d)/\StB w1 (w.heap.size+2) 37 pz/\iO w w1
theorem AW.start (w:World) (v:Value) (h:Hd) (i k d:Int):AW w (((w.alloc (.cells (hdA v h) 37)).alloc (.cells (wiA i k d) 297)).alloc (.cells pz 37)) v h i k d:=by
 refine⟨((StB.new _ _ _).alloc _).alloc _,?_,?_,(Fc.alloc Fg _).alloc (by simp;omega) _⟩
 ·have:=StB.new (w.alloc (.cells (hdA v h) 37)) 297 (wiA i k d)
  rw[World.size_alloc]at this;exact this.alloc _
 ·have:=StB.new ((w.alloc (.cells (hdA v h) 37)).alloc (.cells (wiA i k d) 297)) 37 pz
  rw[World.size_alloc,World.size_alloc]at this;exact this
theorem AW.next {w w1 w2:World} {v:Value} {h:Hd} {i k d:Int} (a:AW w w1 v h i k d) (b:iO w1 w2):AW w w2 v h i k d:=
 ⟨a.1.below b,a.2.1.below b,a.2.2.1.below b,a.2.2.2.trans (b.mono a.2.2.2.size)⟩
theorem AW.lt {w w1:World} {v:Value} {h:Hd} {i k d:Int} (a:AW w w1 v h i k d):w.heap.size+2<w1.heap.size:=a.2.2.1.lt
theorem lO {w w2:World} {t:TypeId} {cs:Array Value} (g:(w.alloc (.cells cs t)).grownBy w2 (some w.heap.size)):iO w w2:=
 Fc |>.grown g Fg (fun k e=>by cases e;exact Nat.le_refl _)
def lP (ok fits refuses:Bool) (h g:Hd):Hd×Int:=if ok&&fits then(if refuses then(h,1)else(g,0))else(Hd.zero,2)
theorem gD (row:Int) (F1 F2 F3:FuncId) (hx:∀wx,(Instr.index 311 (.agg acA) (.int .i64 row)).run Tryz.prog wx=.ok (.agg #[fv F1,fv F2,fv F3]) wx)
  (v:Value) (h:Hd) (i k d:Int) (w:World) (hr:ag w v h.ks) (hl:h.ks.length<=1099511627776) (b1 b2:Bool) (f:Nat->Int) (kd ho tu:Int)
  (e1:∀args wx,(callFunc F1 args).run Tryz.prog wx=.ok (.enter F1 args) wx) (e2:∀args wx,(callFunc F2 args).run Tryz.prog wx=.ok (.enter F2 args) wx) (e3:∀args wx,(callFunc F3 args).run Tryz.prog wx=.ok (.enter F3 args) wx)
  (c1:∀wx,Calls Tryz.prog F1 #[.agg (wiA i k d)] wx fun e w'=>e=.returned (.bool b1)/\iO wx w')
  (c2:h.ok=true->inI i 0 3=true->b1=true->∀wx,Calls Tryz.prog F2 #[.agg (heA (KF h.ks) h.kd h.ho h.tu),.agg (wiA i k d)] wx fun e w'=>e=.returned (.bool b2)/\iO wx w')
  (c3:h.ok=true->inI i 0 3=true->b1=true->b2=false->∀wx,Calls Tryz.prog F3 #[.agg (heA (KF h.ks) h.kd h.ho h.tu),.agg (wiA i k d)] wx fun e w'=>e=.returned (.agg (heA f kd ho tu))/\iO wx w'):
  Calls Tryz.prog 256 #[.int .i64 row,HV v h,.agg (wiA i k d)] w (Ans w (lP h.ok (inI i 0 3&&b1) b2 h ⟨dw f,kd,ho,tu⟩)):=by
 obtain⟨ao,cap,rfl⟩:=aa hr;obtain⟨w1,hw1⟩:=Fe (((w.alloc (.cells (hdA (.slice ao h.ks.length cap) h) 37)).alloc (.cells (wiA i k d) 297)).alloc (.cells pz 37))
 have HS:Hid (AW w w1 (.slice ao h.ks.length cap) h i k d):=by rw[hw1];exact AW.start _ _ _ _ _ _
 have ch:=fU (.slice ao h.ks.length cap) h w1 (hr.below HS.out.2.2.2 (Nat.le_refl _)) hl;have ct:=fun wx=>rN wx
 have cp:=fun wx=>cQ i wx
 have C2:Hid _:=c2;have C3:Hid _:=c3;have HK:Hid (h.ok=true->h.ks.length=4):=Hd.ok_len;obtain⟨A,hA⟩:=Fe (lP h.ok (inI i 0 3&&b1) b2 h ⟨dw f,kd,ho,tu⟩)
 rw[<-hA];have HA:Hid (A=lP h.ok (inI i 0 3&&b1) b2 h ⟨dw f,kd,ho,tu⟩):=hA;clear c2 c3 hA hr hl;have HV2:Hid (h.ok=true->jR h=heA (KF h.ks) h.kd h.ho h.tu):=fun e=>by rw[jR,e];rfl
 obtain⟨f0,x0,y0,z0,hf, -⟩:=gF h;rw[hf]at ch HV2;clear hf;unfold hdA wiA pz at hw1;unfold HV;conv in hdA (.slice ao h.ks.length cap) h=>unfold hdA
 conv in wiA i k d=>unfold wiA
 go_enter Tryz.func256,Tryz.ntmps256;go_upto_region 1 with fail
 rw[<-hw1];clear hw1;unfold HV at ch;go_upto_region 2 with(first|(refine ah GJ rfl _ rfl w.heap.size rfl (hdA (.slice ao h.ks.length cap) h) rfl HS.out.1 ?_)|(go_at_call 145;refine ch.mono ?_;rintro e w2 ⟨rfl,b2'⟩;have H2:Hid (AW w w2 (.slice ao h.ks.length cap) h i k d):=HS.out.next b2';clear b2';have Z2:Hid (StB (w2.alloc (.cells ev 165)) w2.heap.size 165 ev):=StB.new _ _ _)|(refine ae GK rfl _ _ rfl w2.heap.size (heA f0 x0 y0 z0) ev rfl rfl rfl rfl (bO _ _ _ _) Z2.out ?_;intro w3 h3 g3;have H3:Hid (AW w w3 (.slice ao h.ks.length cap) h i k d):=H2.out.next (lO g3);have E3:Hid (StB w3 w2.heap.size 165 (heA f0 x0 y0 z0)):=h3;clear h3 g3))
 clear ch HS H2 Z2;obtain⟨g8,hg8⟩:=Fe w2.heap.size
 rw[<-hg8]at E3⊢;clear hg8;unfold fv at hx;go_upto_region 3 with(first|(go_at_call 266;refine(ct _).mono ?_;rintro e w4 ⟨rfl,b4⟩;have H4:Hid (AW w w4 (.slice ao h.ks.length cap) h i k d):=H3.out.next b4;have E4:Hid (StB w4 g8 165 (heA f0 x0 y0 z0)):=E3.out.below b4;clear b4;have Z4:Hid (StB (w4.alloc (.cells (vI 3) 310)) w4.heap.size 310 (vI 3)):=StB.new _ _ _)|(refine ae GD rfl _ _ rfl w4.heap.size #[.func (Fn.func F1) #[] #[],.func (Fn.func F2) #[] #[],.func (Fn.func F3) #[] #[]] (vI 3) rfl rfl rfl rfl (by simp[Value.oneCell']) Z4.out ?_;intro w5 h5 g5;have H5:Hid (AW w w5 (.slice ao h.ks.length cap) h i k d):=H4.out.next (lO g5);have E5:Hid (StB w5 g8 165 (heA f0 x0 y0 z0)):=E4.out.below (lO g5);have T5:Hid (StB w5 w4.heap.size 310 #[.func (Fn.func F1) #[] #[],.func (Fn.func F2) #[] #[],.func (Fn.func F3) #[] #[]]):=h5;clear h5 g5))
 clear ct hx H3 H4 E3 E4 Z4;obtain⟨ga,hga⟩:=Fe w4.heap.size
 rw[<-hga]at T5⊢;clear hga;obtain⟨ok,hok⟩:=Fe h.ok
 rw[<-hok]at C2 C3 HK HA HV2⊢;obtain⟨pe,hpe⟩:=Fe (inI i 0 3)
 rw[<-hpe]at C2 C3 HA;simp only[<-hpe]at cp;clear hok hpe;unfold wiA at c1;cases ok with
 |false=>
  clear c1 cp C2 C3 HK HV2;go_upto_region 4 with fail
  go_wp2_with (first|(refine ae GJ rfl _ _ rfl (w.heap.size+2) (hdA (.slice none 0 0) Hd.zero) pz rfl rfl rfl rfl (dB _ rfl) H5.out.2.2.1 ?_;intro w9 h9 g9))
  refine bodyPost_ret (bI GJ rfl _ _ (w.heap.size+2) _ _ rfl rfl rfl h9) rfl ?_;exact⟨.slice none 0 0,by rw[HA.out];rfl,by rw[HA.out];exact mj _ _,H5.out.2.2.2.grown g9 H5.out.2.2.2.size (fun x e=>by cases e;omega)⟩
 |true=>
  have HF:Hid (heA f0 x0 y0 z0=heA (KF h.ks) h.kd h.ho h.tu):=HV2.out rfl;have hk4:Hid (h.ks.length=4):=HK.out rfl;have D2:Hid _:=C2.out rfl;have D3:Hid _:=C3.out rfl;clear HV2 HK C2 C3;have q0:w5.cell? ⟨w.heap.size+1,0,none⟩=some (.int .i64 i):=H5.out.2.1.cell 0 rfl;cases pe with
  |false=>
   clear c1 D2 D3;go_wp2_with fail
   refine Fd (cp _) ?_;go_upto_region 4 with fail
   go_wp2_with (first|(refine ae GJ rfl _ _ rfl (w.heap.size+2) (hdA (.slice none 0 0) Hd.zero) pz rfl rfl rfl rfl (dB _ rfl) H5.out.2.2.1 ?_;intro w9 h9 g9))
   refine bodyPost_ret (bI GJ rfl _ _ (w.heap.size+2) _ _ rfl rfl rfl h9) rfl ?_;exact⟨.slice none 0 0,by rw[HA.out];rfl,by rw[HA.out];exact mj _ _,H5.out.2.2.2.grown g9 H5.out.2.2.2.size (fun x e=>by cases e;omega)⟩
  |true=>
   have B2:Hid _:=D2.out rfl;have B3:Hid _:=D3.out rfl;clear D2 D3;have q1:w5.cell? ⟨w.heap.size+1,1,none⟩=some (.int .i64 k):=H5.out.2.1.cell 1 rfl;have q2:w5.cell? ⟨w.heap.size+1,2,none⟩=some (.int .i64 d):=H5.out.2.1.cell 2 rfl;have a0:w5.cell? ⟨ga,0,none⟩=some (.func (Fn.func F1) #[] #[]):=T5.out.cell 0 rfl;go_wp2_with fail
   refine Fd (cp _) ?_;go_wp2_with fail
   refine(c1 _).mono ?_;rintro e w6 ⟨rfl,b6⟩;have H6:Hid (AW w w6 (.slice ao h.ks.length cap) h i k d):=H5.out.next b6;have T6:Hid (StB w6 ga 310 #[.func (Fn.func F1) #[] #[],.func (Fn.func F2) #[] #[],.func (Fn.func F3) #[] #[]]):=T5.out.below b6;have E6:Hid (StB w6 g8 165 (heA f0 x0 y0 z0)):=E5.out.below b6;clear b6 c1 cp H5 T5 E5 q0 q1 q2 a0 e1;cases b1 with
   |false=>
    clear B2 B3;go_upto_region 4 with fail
    go_wp2_with (first|(refine ae GJ rfl _ _ rfl (w.heap.size+2) (hdA (.slice none 0 0) Hd.zero) pz rfl rfl rfl rfl (dB _ rfl) H6.out.2.2.1 ?_;intro w9 h9 g9))
    refine bodyPost_ret (bI GJ rfl _ _ (w.heap.size+2) _ _ rfl rfl rfl h9) rfl ?_;exact⟨.slice none 0 0,by rw[HA.out];rfl,by rw[HA.out];exact mj _ _,H6.out.2.2.2.grown g9 H6.out.2.2.2.size (fun x e=>by cases e;omega)⟩
   |true=>
    have c2:=B2.out rfl;have D3:Hid _:=B3.out rfl;clear B2 B3;rw[HF.out]at E6;have a1:w6.cell? ⟨ga,1,none⟩=some (.func (Fn.func F2) #[] #[]):=T6.out.cell 1 rfl;go_upto_region 5 with fail
    go_wp2_with (first|(refine ah GK rfl _ rfl g8 rfl (heA (KF h.ks) h.kd h.ho h.tu) rfl E6.out ?_)|(refine ah GU rfl _ rfl (w.heap.size+1) rfl (wiA i k d) rfl H6.out.2.1 ?_))
    refine(c2 _).mono ?_;rintro e w7 ⟨rfl,b7⟩;have H7:Hid (AW w w7 (.slice ao h.ks.length cap) h i k d):=H6.out.next b7;have T7:Hid (StB w7 ga 310 #[.func (Fn.func F1) #[] #[],.func (Fn.func F2) #[] #[],.func (Fn.func F3) #[] #[]]):=T6.out.below b7;have E7:Hid (StB w7 g8 165 (heA (KF h.ks) h.kd h.ho h.tu)):=E6.out.below b7;clear b7 c2 H6 T6 E6 a1 e2;have ci:=fun wx=>ld (KF h.ks) h.kd h.ho h.tu wx
    rw[oo hk4.out]at ci;unfold HV at ci;cases b2 with
    |true=>
     clear D3;go_upto_region 6 with fail
     go_wp2_with (first|(refine ah GK rfl _ rfl g8 rfl (heA (KF h.ks) h.kd h.ho h.tu) rfl E7.out ?_)|(go_at_call 267;refine(ci _).mono ?_;rintro e w8 ⟨u,rfl,o8,b8⟩;have H8:Hid (AW w w8 (.slice ao h.ks.length cap) h i k d):=H7.out.next b8;have O8:Hid (Own w8 w7.heap.size u h.ks):=o8;have ho1:=aB o8.reads;clear b8 o8)|(refine ae GJ rfl _ _ rfl (w.heap.size+2) (hdA u h) pz rfl rfl rfl rfl (dB _ ho1) H8.out.2.2.1 ?_;intro w9 h9 g9))
     refine bodyPost_ret (bI GJ rfl _ _ (w.heap.size+2) _ _ rfl rfl rfl h9) rfl ?_;have l7:=H7.out.lt;exact⟨u,by rw[HA.out];rfl,by rw[HA.out];exact(O8.out.keptLt g9 l7).mono Ff,H8.out.2.2.2.grown g9 H8.out.2.2.2.size (fun x e=>by cases e;omega)⟩
    |false=>
     have c3:=D3.out rfl;have cj:=fun wx=>ld f kd ho tu wx
     unfold HV at cj;clear D3 ci;have a2:w7.cell? ⟨ga,2,none⟩=some (.func (Fn.func F3) #[] #[]):=T7.out.cell 2 rfl;go_upto_region 7 with fail
     go_wp2_with (first|(refine ah GK rfl _ rfl g8 rfl (heA (KF h.ks) h.kd h.ho h.tu) rfl E7.out ?_)|(refine ah GU rfl _ rfl (w.heap.size+1) rfl (wiA i k d) rfl H7.out.2.1 ?_))
     refine(c3 _).mono ?_;rintro e w8 ⟨rfl,b8⟩;have H8:Hid (AW w w8 (.slice ao h.ks.length cap) h i k d):=H7.out.next b8;clear b8 c3 H7 T7 E7 a2 e3;go_wp2_with (first|(go_at_call 267;refine(cj _).mono ?_;rintro e w9 ⟨u,rfl,o9,b9⟩;have H9:Hid (AW w w9 (.slice ao h.ks.length cap) h i k d):=H8.out.next b9;have O9:Hid (Own w9 w8.heap.size u (dw f)):=o9;have ho1:=aB o9.reads;clear b9 o9)|(refine ae GJ rfl _ _ rfl (w.heap.size+2) (hdA u ⟨dw f,kd,ho,tu⟩) pz rfl rfl rfl rfl (dB _ ho1) H9.out.2.2.1 ?_;intro wa ha ga'))
     refine bodyPost_ret (bI GJ rfl _ _ (w.heap.size+2) _ _ rfl rfl rfl ha) rfl ?_;have l8:=H8.out.lt;exact⟨u,by rw[HA.out];rfl,by rw[HA.out];exact(O9.out.keptLt ga' l8).mono Ff,H9.out.2.2.2.grown ga' H9.out.2.2.2.size (fun x e=>by cases e;omega)⟩
section
open Go.RowKit
theorem xN {h:Hd} (e:h.mid=true) (h0:h.kd=0):h.ho= -1:=by
 unfold Hd.mid at e;rw[if_pos h0]at e;simpa using e
theorem ro {h:Hd} (e:h.mid=true) (h0:h.kd≠0) (ha:bY h.kd=true):h.ho= -1/\eE h.ks=true:=by
 unfold Hd.mid at e;rw[if_neg h0,if_pos ha]at e;simpa using e
theorem xO {h:Hd} (e:h.mid=true) (h0:h.kd≠0) (ha:bY h.kd=false):kiI h.kd=true/\(0<=h.ho/\h.ho<=3)/\h.ks.getD h.ho.toNat 0≠0:=by
 unfold Hd.mid at e;rw[if_neg h0,ha]at e;simp only[Bool.false_eq_true,if_false,Bool.and_eq_true]at e;exact⟨e.1.1,(aE _ _ _).1 e.1.2,by simpa[dT]using e.2⟩
theorem yp {ks:List Int} (hl:ks.length=4) {j:Nat} (hj:j<4) (x:Int):dw (ec (KF ks) j x)=ks.set j x:=by
 match ks,hl with
 |[a,b,c,d],_=>
  obtain rfl|rfl|rfl|rfl:j=0∨j=1∨j=2∨j=3:=by omega
  all_goals rfl
theorem yq (f:Nat->Int):iJ f=eE (dw f):=by
 simp[iJ,eE,dw,Bool.or_assoc,bne,decide_not];rfl
theorem Ag {ks:List Int} {i m:Nat} {x:Int} (hm:m<ks.length) (hn:m≠i) (h:ks.getD m 0≠0):eE (ks.set i x)=true:=by
 refine rJ _ m (by simpa using hm) ?_;simp only[List.getD_eq_getElem?_getD]at h⊢;rw[List.getElem?_set_ne Ff];exact h
theorem pt {ks:List Int} {i:Nat} {x:Int} (hi:i<ks.length) (h:x≠0):eE (ks.set i x)=true:=by
 refine rJ _ i (by simpa using hi) ?_;simp only[List.getD_eq_getElem?_getD,List.getElem?_set_self hi];exact h
theorem yr (h:Hd) (i key:Int):
  lP h.ok (inI i 0 3&&inI key 0 9999) false h ⟨dw (ec (KF h.ks) i.toNat key),if jG (ec (KF h.ks) i.toNat key) h.kd h.ho then h.kd else 0,if jG (ec (KF h.ks) i.toNat key) h.kd h.ho then h.ho else-1,cM h.tu⟩=h.register i key:=by
 unfold lP Hd.register;cases ho:h.ok
 ·simp
 cases hi:inI i 0 3
 ·simp
 cases hk:inI key 0 9999
 ·simp
 obtain⟨hl, -, -,hm⟩:=Hd.ok_all ho;have hi':=(aE _ _ _).1 hi;have h4:i.toNat<4:=by omega
 simp only[Bool.and_self,if_true,Bool.false_eq_true,if_false]
 congr 1
 unfold Hd.regd;have e1:dw (ec (KF h.ks) i.toNat key)=h.ks.set i.toNat key:=yp hl h4 key;have e2:iJ (ec (KF h.ks) i.toNat key)=eE (h.ks.set i.toNat key):=by rw[yq,e1]
 rw[e1];unfold jG;rw[e2];by_cases k0:h.kd=0
 ·have:=xN hm k0
  rw[if_pos k0];split<;>simp[Hd.free,Hd.turn,Hd.key,k0,this]
 ·rw[if_neg k0]
  cases ha:bY h.kd
  ·obtain⟨m1,m2,m3⟩:=xO hm k0 ha
   have m4:inI h.ho 0 3=true:=(aE _ _ _).2 m2;simp only[Bool.false_eq_true,if_false,m1,m4,Bool.true_and];by_cases e:h.ho=i
   ·have:ec (KF h.ks) i.toNat key h.ho.toNat=key:=by simp[ec,e]
    rw[this];by_cases kz:key=0
    ·simp[kz,e,Hd.free,Hd.turn,Hd.key]
    ·simp[kz,Hd.turn,Hd.key]
   ·have n1:h.ho.toNat≠i.toNat:=by omega
    have:ec (KF h.ks) i.toNat key h.ho.toNat=h.ks.getD h.ho.toNat 0:=by simp[ec,n1,KF]
    rw[this];have a1:eE (h.ks.set i.toNat key)=true:=Ag Ff n1 m3;simp only[a1,e,Bool.true_eq_false,or_self,and_false,if_false];simp only[ne_eq,m3,not_false_eq_true,decide_true,if_true];rfl
  ·obtain⟨m1,m2⟩:=ro hm k0 ha
   have n2:¬((-1:Int)=i):=by omega
   simp only[m1,decide_true,Bool.true_and,if_true];by_cases kz:key=0
   ·subst kz
    cases hb:eE (h.ks.set i.toNat 0)<;>simp[n2,Hd.free,Hd.turn,Hd.key,m1]
   ·have hb:eE (h.ks.set i.toNat key)=true:=pt Ff kz
    simp[kz,hb,Hd.turn,Hd.key,m1]
theorem nv (h:Hd) (i:Int) (hi:inI i 0 3=true):lr (KF h.ks) i= !dT h.ks i:=by
 unfold lr dT KF;rw[hi,Bool.true_and]
theorem Dx (h:Hd) (i:Int):lP h.ok (inI i 0 3&&true) (lr (KF h.ks) i) h ⟨dw (fun _=>0),0, -1,cM h.tu⟩=h.clear i:=by
 unfold lP Hd.clear;cases ho:h.ok
 ·simp
 cases hi:inI i 0 3
 ·simp
 rw[nv h i hi];unfold Hd.clrd;cases hr:dT h.ks i
 ·simp[told]
 ·simp[told,dw]
theorem Ah (h:Hd) (i:Int):lP h.ok (inI i 0 3&&true) (lr (KF h.ks) i) h ⟨dw (KF h.ks),if d9 (KF h.ks) h.kd h.ho i then 0 else h.kd,if d9 (KF h.ks) h.kd h.ho i then-1 else h.ho,h.tu⟩=h.release i:=by
 unfold lP Hd.release;cases ho:h.ok
 ·simp
 cases hi:inI i 0 3
 ·simp
 rw[nv h i hi,qk ho,hi,oo (Hd.ok_all ho).1];unfold Hd.reld;cases hr:dT h.ks i
 ·simp[told]
 ·cases hh:h.holds i
  ·simp[told]
  ·simp[told,Hd.free]
theorem Ai (h:Hd) (i k:Int):lP h.ok (inI i 0 3&&kiI k) (lZ (KF h.ks) h.kd h.ho i k) h ⟨dw (KF h.ks),k,if bY k then-1 else i,h.tu⟩=h.reserve i k:=by
 unfold lP Hd.reserve;cases ho:h.ok
 ·simp
 cases hi:inI i 0 3
 ·simp
 cases hk:kiI k
 ·simp
 obtain⟨hl, -, -,hm⟩:=Hd.ok_all ho;have hi':=(aE _ _ _).1 hi;unfold lZ;rw[nv h i hi,oo hl];unfold Hd.resd d9;rw[hi,show decide (KF h.ks i.toNat≠0)=dT h.ks i from rfl];cases hr:dT h.ks i
 ·simp[told]
 ·simp only[Bool.not_true,Bool.false_or,Bool.true_eq_false,if_false,Bool.and_self,if_true,Bool.true_and]
  by_cases k0:h.kd=0
  ·simp[k0,told,Hd.take]
  ·rw[if_neg k0]
   by_cases e:h.kd=k
   ·subst e
    cases ha:bY h.kd
    ·by_cases eo:h.ho=i
     ·subst eo
      simp[told]
     ·have:¬i=h.ho:=fun c=>eo c.symm
      simp[k0,eo,told,this]
    ·have m1:=(ro hm k0 ha).1
     rw[<-m1];simp[told]
   ·simp[k0,e,told]
theorem B8 {ks:List Int} (hl:ks.length=4) {i:Nat} (hi:i<4) (key:Int):dw (fX (KF ks) i key 4)=cA ks i key 4:=by
 match ks,hl with
 |[a,b,c,d],_=>
  obtain rfl|rfl|rfl|rfl:i=0∨i=1∨i=2∨i=3:=by omega
  all_goals
   simp only[dw,fX,KF,cA,List.getD_cons_zero,List.getD_cons_succ];by_cases ha:a=key<;>by_cases hb:b=key<;>by_cases hc:c=key<;>by_cases hd:d=key<;>simp[ha,hb,hc,hd]
theorem nez (x:Int):(x !=0)= !decide (x=0):=rfl
theorem Eh {ks:List Int} (hl:ks.length=4) {i:Nat} (hi:i<4) (key:Int):iJ (ec (fX (KF ks) i key 4) i 0)=ip ks i key 4:=by
 match ks,hl with
 |[a,b,c,d],_=>
  obtain rfl|rfl|rfl|rfl:i=0∨i=1∨i=2∨i=3:=by omega
  all_goals
   simp only[iJ,ec,fX,KF,ip,List.getD_cons_zero,List.getD_cons_succ];by_cases ha:a=key<;>by_cases hb:b=key<;>by_cases hc:c=key<;>by_cases hd:d=key<;>simp[ha,hb,hc,hd,nez]
theorem Ei (ks:List Int) (key:Int):∀j,jI (KF ks) key j=has ks key j
 |0=>rfl
 |j+1=>by rw[jI,has,Ei ks key j];rfl
theorem Dy {h:Hd} (hm:h.mid=true) (key:Int) (hk:1<=key):(iH (KF h.ks) h.ho==key)=h.alone key:=by
 unfold iH Hd.alone;by_cases k0:h.kd=0
 ·rw[xN hm k0]
  have:¬(0=key):=by omega
  simp[inI,k0,this]
 ·cases ha:bY h.kd
  ·obtain⟨m1,m2,m3⟩:=xO hm k0 ha
   rw[(aE _ _ _).2 m2];simp only[if_true,k0,ne_eq,not_false_eq_true,decide_true,Bool.true_and,Bool.not_false];rfl
  ·obtain⟨m1,m2⟩:=ro hm k0 ha
   rw[m1];have:¬(0=key):=by omega
   simp[inI,this]
theorem Aj (h:Hd) (i key k:Int):
  lP h.ok (inI i 0 3&&(inI key 1 9999&&kiI k)) (l6 (KF h.ks) i key) h ⟨dw (fX (KF h.ks) i.toNat key 4),if gG (KF h.ks) h.kd h.ho i key then k else h.kd,if gG (KF h.ks) h.kd h.ho i key then(if bY k then-1 else i)else h.ho,cM h.tu⟩=h.preempt i key k:=by
 unfold lP Hd.preempt;cases ho:h.ok
 ·simp
 cases hi:inI i 0 3
 ·simp
 cases hk:inI key 1 9999
 ·simp
 cases hd:kiI k
 ·simp
 obtain⟨hl, -, -,hm⟩:=Hd.ok_all ho;have hi':=(aE _ _ _).1 hi;have hk':=(aE _ _ _).1 hk;have h4:i.toNat<4:=by omega
 unfold l6 gG;rw[nv h i hi,Ei,B8 hl h4,Eh hl h4,Dy hm key hk'.1];unfold Hd.pred;simp only[Bool.and_self,if_true];cases hr:dT h.ks i
 ·simp[told]
 ·cases hh:has h.ks key 4
  ·simp[told]
  ·simp only[Bool.not_true,Bool.or_self,Bool.false_eq_true,if_false,Bool.and_self,Bool.true_eq_false]
   cases hq:(h.alone key||(bY h.kd&& !ip h.ks i.toNat key 4))
   ·simp[told,Hd.turn]
   ·simp[told,Hd.turn,Hd.take]
end
def Ent (n:FuncId):Prop:=∀args wx,(callFunc n args).run Tryz.prog wx=.ok (.enter n args) wx
theorem nd:Ent 272:=by intro args wx;kernel_rfl
theorem iF:Ent 273:=by intro args wx;kernel_rfl
theorem lL:Ent 274:=by intro args wx;kernel_rfl
theorem kY:Ent 275:=by intro args wx;kernel_rfl
theorem lM:Ent 276:=by intro args wx;kernel_rfl
theorem nf:Ent 277:=by intro args wx;kernel_rfl
theorem hQ:Ent 278:=by intro args wx;kernel_rfl
theorem fS:Ent 279:=by intro args wx;kernel_rfl
theorem px:Ent 280:=by intro args wx;kernel_rfl
theorem lN:Ent 281:=by intro args wx;kernel_rfl
theorem iv:Ent 282:=by intro args wx;kernel_rfl
theorem iT:Ent 283:=by intro args wx;kernel_rfl
theorem ki:Ent 284:=by intro args wx;kernel_rfl
theorem js {h:Hd} (e:h.ok=true):0<=h.tu/\h.tu<=1000000000:=(Hd.ok_all e).2.1
theorem nA {i:Int} (e:inI i 0 3=true):0<=i/\i<4:=by have:=(aE _ _ _).1 e;omega
theorem py (v:Value) (h:Hd) (i key:Int) (w:World) (hr:ag w v h.ks) (hl:h.ks.length<=1099511627776):
  Calls Tryz.prog 234 #[HV v h,.int .i64 i,.int .i64 key] w (Ans w (h.register i key)):=by
 obtain⟨ao,cap,rfl⟩:=aa hr;obtain⟨w1,hw1⟩:=Fe ((w.alloc (.cells (hdA (.slice ao h.ks.length cap) h) 37)).alloc (.cells #[.slice none 0 0,.int .i64 0,.int .i64 0,.int .i64 0] 37))
 have HB:Hid (Bx w w1 (.slice ao h.ks.length cap) h):=by rw[hw1];exact Bx.start hr
 have c:=gD 0 272 273 274 El (.slice ao h.ks.length cap) h i key 0 w1 HB.out.2.2.2.2 hl (inI key 0 9999) (false) (ec (KF h.ks) i.toNat key) (if jG (ec (KF h.ks) i.toNat key) h.kd h.ho then h.kd else 0) (if jG (ec (KF h.ks) i.toNat key) h.kd h.ho then h.ho else-1) (cM h.tu) nd iF lL
  (fun wx=>uj i key 0 wx) (fun _ _ _ wx=>ul (KF h.ks) h.kd h.ho h.tu i key 0 wx) (fun ok hi _ _ wx=>sa (KF h.ks) h.kd h.ho h.tu i key 0 wx (js ok).1 (js ok).2 (nA hi).1 (nA hi).2)
 rw[yr]at c;obtain⟨r,HE⟩:∃r,Hid (r=h.register i key):=⟨_,rfl⟩
 rw[<-HE.out]at c⊢;clear HE hr hl;obtain⟨z,t⟩:=r;unfold Ans HV wiA at c;dsimp only at c;unfold hdA at hw1;unfold HV;conv in hdA (.slice ao h.ks.length cap) h=>unfold hdA
 have hs:=HB.out.2.2.2.1;go_enter Tryz.func234,Tryz.ntmps234;go_upto_region 1 with fail
 rw[<-hw1];clear hw1;go_wp2_with (first|(refine ah GJ rfl _ rfl w.heap.size rfl (hdA (.slice ao h.ks.length cap) h) rfl HB.out.1 ?_)|(go_at_call 256;refine c.mono ?_;rintro e w2 ⟨u,rfl,o2,b2⟩;have HB2:Hid (Bx w w2 (.slice ao h.ks.length cap) h):=HB.out.next b2;have O2:Hid (Own w2 w1.heap.size u z.ks):=o2;have ho1:=aB o2.reads;clear b2 o2)|(refine ae GJ rfl _ _ rfl (w.heap.size+1) (hdA u z) #[.slice none 0 0,.int .i64 0,.int .i64 0,.int .i64 0] rfl rfl rfl rfl (dB _ ho1) HB2.out.2.1 ?_;intro we se ge))
 refine bodyPost_ret (bI GJ rfl _ _ (w.heap.size+1) _ _ rfl rfl rfl se) rfl ?_;exact⟨u,rfl,(O2.out.keptLt ge Ff).mono Ff,HB2.out.2.2.1.grown ge HB2.out.2.2.1.size (fun x e=>by cases e;omega)⟩
theorem rK (v:Value) (h:Hd) (i k:Int) (w:World) (hr:ag w v h.ks) (hl:h.ks.length<=1099511627776):
  Calls Tryz.prog 235 #[HV v h,.int .i64 i,.int .i64 k] w (Ans w (h.reserve i k)):=by
 obtain⟨ao,cap,rfl⟩:=aa hr;obtain⟨w1,hw1⟩:=Fe ((w.alloc (.cells (hdA (.slice ao h.ks.length cap) h) 37)).alloc (.cells #[.slice none 0 0,.int .i64 0,.int .i64 0,.int .i64 0] 37))
 have HB:Hid (Bx w w1 (.slice ao h.ks.length cap) h):=by rw[hw1];exact Bx.start hr
 have c:=gD 1 275 276 277 Em (.slice ao h.ks.length cap) h i 0 k w1 HB.out.2.2.2.2 hl (kiI k) (lZ (KF h.ks) h.kd h.ho i k) (KF h.ks) k (if bY k then-1 else i) h.tu kY lM nf
  (fun wx=>pJ i 0 k wx) (fun _ _ _ wx=>wG (KF h.ks) h.kd h.ho h.tu i 0 k wx) (fun _ _ _ _ wx=>mP (KF h.ks) h.kd h.ho h.tu i 0 k wx)
 rw[Ai]at c;obtain⟨r,HE⟩:∃r,Hid (r=h.reserve i k):=⟨_,rfl⟩
 rw[<-HE.out]at c⊢;clear HE hr hl;obtain⟨z,t⟩:=r;unfold Ans HV wiA at c;dsimp only at c;unfold hdA at hw1;unfold HV;conv in hdA (.slice ao h.ks.length cap) h=>unfold hdA
 have hs:=HB.out.2.2.2.1;go_enter Tryz.func235,Tryz.ntmps235;go_upto_region 1 with fail
 rw[<-hw1];clear hw1;go_wp2_with (first|(refine ah GJ rfl _ rfl w.heap.size rfl (hdA (.slice ao h.ks.length cap) h) rfl HB.out.1 ?_)|(go_at_call 256;refine c.mono ?_;rintro e w2 ⟨u,rfl,o2,b2⟩;have HB2:Hid (Bx w w2 (.slice ao h.ks.length cap) h):=HB.out.next b2;have O2:Hid (Own w2 w1.heap.size u z.ks):=o2;have ho1:=aB o2.reads;clear b2 o2)|(refine ae GJ rfl _ _ rfl (w.heap.size+1) (hdA u z) #[.slice none 0 0,.int .i64 0,.int .i64 0,.int .i64 0] rfl rfl rfl rfl (dB _ ho1) HB2.out.2.1 ?_;intro we se ge))
 refine bodyPost_ret (bI GJ rfl _ _ (w.heap.size+1) _ _ rfl rfl rfl se) rfl ?_;exact⟨u,rfl,(O2.out.keptLt ge Ff).mono Ff,HB2.out.2.2.1.grown ge HB2.out.2.2.1.size (fun x e=>by cases e;omega)⟩
theorem rL (v:Value) (h:Hd) (i:Int) (w:World) (hr:ag w v h.ks) (hl:h.ks.length<=1099511627776):
  Calls Tryz.prog 236 #[HV v h,.int .i64 i] w (Ans w (h.release i)):=by
 obtain⟨ao,cap,rfl⟩:=aa hr;obtain⟨w1,hw1⟩:=Fe ((w.alloc (.cells (hdA (.slice ao h.ks.length cap) h) 37)).alloc (.cells #[.slice none 0 0,.int .i64 0,.int .i64 0,.int .i64 0] 37))
 have HB:Hid (Bx w w1 (.slice ao h.ks.length cap) h):=by rw[hw1];exact Bx.start hr
 have c:=gD 2 278 279 280 En (.slice ao h.ks.length cap) h i 0 0 w1 HB.out.2.2.2.2 hl (true) (lr (KF h.ks) i) (KF h.ks) (if d9 (KF h.ks) h.kd h.ho i then 0 else h.kd) (if d9 (KF h.ks) h.kd h.ho i then-1 else h.ho) h.tu hQ fS px
  (fun wx=>jU i 0 0 wx) (fun _ _ _ wx=>gl (KF h.ks) h.kd h.ho h.tu i 0 0 wx) (fun _ _ _ _ wx=>zA (KF h.ks) h.kd h.ho h.tu i 0 0 wx)
 rw[Ah]at c;obtain⟨r,HE⟩:∃r,Hid (r=h.release i):=⟨_,rfl⟩
 rw[<-HE.out]at c⊢;clear HE hr hl;obtain⟨z,t⟩:=r;unfold Ans HV wiA at c;dsimp only at c;unfold hdA at hw1;unfold HV;conv in hdA (.slice ao h.ks.length cap) h=>unfold hdA
 have hs:=HB.out.2.2.2.1;go_enter Tryz.func236,Tryz.ntmps236;go_upto_region 1 with fail
 rw[<-hw1];clear hw1;go_wp2_with (first|(refine ah GJ rfl _ rfl w.heap.size rfl (hdA (.slice ao h.ks.length cap) h) rfl HB.out.1 ?_)|(go_at_call 256;refine c.mono ?_;rintro e w2 ⟨u,rfl,o2,b2⟩;have HB2:Hid (Bx w w2 (.slice ao h.ks.length cap) h):=HB.out.next b2;have O2:Hid (Own w2 w1.heap.size u z.ks):=o2;have ho1:=aB o2.reads;clear b2 o2)|(refine ae GJ rfl _ _ rfl (w.heap.size+1) (hdA u z) #[.slice none 0 0,.int .i64 0,.int .i64 0,.int .i64 0] rfl rfl rfl rfl (dB _ ho1) HB2.out.2.1 ?_;intro we se ge))
 refine bodyPost_ret (bI GJ rfl _ _ (w.heap.size+1) _ _ rfl rfl rfl se) rfl ?_;exact⟨u,rfl,(O2.out.keptLt ge Ff).mono Ff,HB2.out.2.2.1.grown ge HB2.out.2.2.1.size (fun x e=>by cases e;omega)⟩
theorem vH (v:Value) (h:Hd) (i:Int) (w:World) (hr:ag w v h.ks) (hl:h.ks.length<=1099511627776):
  Calls Tryz.prog 237 #[HV v h,.int .i64 i] w (Ans w (h.clear i)):=by
 obtain⟨ao,cap,rfl⟩:=aa hr;obtain⟨w1,hw1⟩:=Fe ((w.alloc (.cells (hdA (.slice ao h.ks.length cap) h) 37)).alloc (.cells #[.slice none 0 0,.int .i64 0,.int .i64 0,.int .i64 0] 37))
 have HB:Hid (Bx w w1 (.slice ao h.ks.length cap) h):=by rw[hw1];exact Bx.start hr
 have c:=gD 3 278 279 281 Eo (.slice ao h.ks.length cap) h i 0 0 w1 HB.out.2.2.2.2 hl (true) (lr (KF h.ks) i) (fun _=>0) 0 (-1) (cM h.tu) hQ fS lN
  (fun wx=>jU i 0 0 wx) (fun _ _ _ wx=>gl (KF h.ks) h.kd h.ho h.tu i 0 0 wx) (fun ok _ _ _ wx=>r9 (KF h.ks) h.kd h.ho h.tu i 0 0 wx (js ok).1 (js ok).2)
 rw[Dx]at c;obtain⟨r,HE⟩:∃r,Hid (r=h.clear i):=⟨_,rfl⟩
 rw[<-HE.out]at c⊢;clear HE hr hl;obtain⟨z,t⟩:=r;unfold Ans HV wiA at c;dsimp only at c;unfold hdA at hw1;unfold HV;conv in hdA (.slice ao h.ks.length cap) h=>unfold hdA
 have hs:=HB.out.2.2.2.1;go_enter Tryz.func237,Tryz.ntmps237;go_upto_region 1 with fail
 rw[<-hw1];clear hw1;go_wp2_with (first|(refine ah GJ rfl _ rfl w.heap.size rfl (hdA (.slice ao h.ks.length cap) h) rfl HB.out.1 ?_)|(go_at_call 256;refine c.mono ?_;rintro e w2 ⟨u,rfl,o2,b2⟩;have HB2:Hid (Bx w w2 (.slice ao h.ks.length cap) h):=HB.out.next b2;have O2:Hid (Own w2 w1.heap.size u z.ks):=o2;have ho1:=aB o2.reads;clear b2 o2)|(refine ae GJ rfl _ _ rfl (w.heap.size+1) (hdA u z) #[.slice none 0 0,.int .i64 0,.int .i64 0,.int .i64 0] rfl rfl rfl rfl (dB _ ho1) HB2.out.2.1 ?_;intro we se ge))
 refine bodyPost_ret (bI GJ rfl _ _ (w.heap.size+1) _ _ rfl rfl rfl se) rfl ?_;exact⟨u,rfl,(O2.out.keptLt ge Ff).mono Ff,HB2.out.2.2.1.grown ge HB2.out.2.2.1.size (fun x e=>by cases e;omega)⟩
theorem rM (v:Value) (h:Hd) (i key k:Int) (w:World) (hr:ag w v h.ks) (hl:h.ks.length<=1099511627776):
  Calls Tryz.prog 238 #[HV v h,.int .i64 i,.int .i64 key,.int .i64 k] w (Ans w (h.preempt i key k)):=by
 obtain⟨ao,cap,rfl⟩:=aa hr;obtain⟨w1,hw1⟩:=Fe ((w.alloc (.cells (hdA (.slice ao h.ks.length cap) h) 37)).alloc (.cells #[.slice none 0 0,.int .i64 0,.int .i64 0,.int .i64 0] 37))
 have HB:Hid (Bx w w1 (.slice ao h.ks.length cap) h):=by rw[hw1];exact Bx.start hr
 have c:=gD 4 282 283 284 Ep (.slice ao h.ks.length cap) h i key k w1 HB.out.2.2.2.2 hl (inI key 1 9999&&kiI k) (l6 (KF h.ks) i key) (fX (KF h.ks) i.toNat key 4) (if gG (KF h.ks) h.kd h.ho i key then k else h.kd) (if gG (KF h.ks) h.kd h.ho i key then(if bY k then-1 else i)else h.ho) (cM h.tu) iv iT ki
  (fun wx=>uk i key k wx) (fun _ _ _ wx=>wI (KF h.ks) h.kd h.ho h.tu i key k wx) (fun ok hi _ _ wx=>ot (KF h.ks) h.kd h.ho h.tu i key k wx (js ok).1 (js ok).2 (nA hi).1 (nA hi).2)
 rw[Aj]at c;obtain⟨r,HE⟩:∃r,Hid (r=h.preempt i key k):=⟨_,rfl⟩
 rw[<-HE.out]at c⊢;clear HE hr hl;obtain⟨z,t⟩:=r;unfold Ans HV wiA at c;dsimp only at c;unfold hdA at hw1;unfold HV;conv in hdA (.slice ao h.ks.length cap) h=>unfold hdA
 have hs:=HB.out.2.2.2.1;go_enter Tryz.func238,Tryz.ntmps238;go_upto_region 1 with fail
 rw[<-hw1];clear hw1;go_wp2_with (first|(refine ah GJ rfl _ rfl w.heap.size rfl (hdA (.slice ao h.ks.length cap) h) rfl HB.out.1 ?_)|(go_at_call 256;refine c.mono ?_;rintro e w2 ⟨u,rfl,o2,b2⟩;have HB2:Hid (Bx w w2 (.slice ao h.ks.length cap) h):=HB.out.next b2;have O2:Hid (Own w2 w1.heap.size u z.ks):=o2;have ho1:=aB o2.reads;clear b2 o2)|(refine ae GJ rfl _ _ rfl (w.heap.size+1) (hdA u z) #[.slice none 0 0,.int .i64 0,.int .i64 0,.int .i64 0] rfl rfl rfl rfl (dB _ ho1) HB2.out.2.1 ?_;intro we se ge))
 refine bodyPost_ret (bI GJ rfl _ _ (w.heap.size+1) _ _ rfl rfl rfl se) rfl ?_;exact⟨u,rfl,(O2.out.keptLt ge Ff).mono Ff,HB2.out.2.2.1.grown ge HB2.out.2.2.1.size (fun x e=>by cases e;omega)⟩
def Hd.after (h:Hd) (i:Int) (c:Cm):Hd×Int:=if c.o=6 then h.register i c.a else if c.o=7 then h.reserve i c.k else if c.o=8 then h.release i else if c.o=9 then h.clear i else h.preempt i c.a c.k
structure Hx (w wx:World) (q:Value) (h:Hd) (c:Cm):Prop where
 hd:StB wx w.heap.size 37 (hdA q h)
 cm:StB wx (w.heap.size+1) 66 (cmA c)
 rs:StB wx (w.heap.size+1+1) 37 #[.slice none 0 0,.int .i64 0,.int .i64 0,.int .i64 0]
 bl:iO w wx
 sz:w.heap.size+3<=wx.heap.size
theorem Hx.start (w:World) (q:Value) (h:Hd) (c:Cm):Hx w (((w.alloc (.cells (hdA q h) 37)).alloc (.cells (cmA c) 66)).alloc (.cells #[.slice none 0 0,.int .i64 0,.int .i64 0,.int .i64 0] 37)) q h c:=by
 have a2:=StB.new (w.alloc (.cells (hdA q h) 37)) 66 (cmA c);have a3:=StB.new ((w.alloc (.cells (hdA q h) 37)).alloc (.cells (cmA c) 66)) 37 #[.slice none 0 0,.int .i64 0,.int .i64 0,.int .i64 0];simp only[World.size_alloc]at a2 a3;exact⟨((StB.new w _ _).alloc _).alloc _,a2.alloc _,a3,(Fc.alloc Fg _).alloc (by simp;omega) _,by simp⟩
theorem Hx.next {w wx wy:World} {q:Value} {h:Hd} {c:Cm} (d:Hx w wx q h c) (b:iO wx wy):Hx w wy q h c:=
 ⟨d.hd.below b,d.cm.below b,d.rs.below b,d.bl.trans (b.mono d.bl.size),Nat.le_trans d.sz b.size⟩
theorem li (q:Value) (h:Hd) (i:Int) (c:Cm) (w:World) (hq:ag w q h.ks) (hl:h.ks.length<=1099511627776) (e6:c.o=6):
  Calls Tryz.prog 198 #[HV q h,.int .i64 i,CV c] w (Ans w (h.register i c.a)):=by
 have E6:Hid (c.o=6):=e6;clear e6;obtain⟨w1,hw1⟩:=Fe (((w.alloc (.cells (hdA q h) 37)).alloc (.cells (cmA c) 66)).alloc (.cells #[.slice none 0 0,.int .i64 0,.int .i64 0,.int .i64 0] 37))
 have HX:Hid (Hx w w1 q h c):=by rw[hw1];exact Hx.start w q h c
 have c1:=py q h i c.a w1 (hq.below HX.out.bl (Nat.le_refl _)) hl;obtain⟨r,hr⟩:=Fe (h.register i c.a)
 rw[<-hr]at c1⊢;obtain⟨qo,qc,rfl⟩:=aa hq;clear hr hq hl;unfold Ans HV at c1;unfold Ans HV CV;conv in hdA (.slice qo h.ks.length qc) _=>unfold hdA
 unfold cmA;unfold hdA cmA at hw1;have k0:w1.cell? ⟨w.heap.size+1,0,none⟩=some (.int .i64 c.o):=HX.out.cm.cell 0 rfl;have k2:w1.cell? ⟨w.heap.size+1,2,none⟩=some (.int .i64 c.a):=HX.out.cm.cell 2 rfl;have k4:w1.cell? ⟨w.heap.size+1,4,none⟩=some (.int .i64 c.k):=HX.out.cm.cell 4 rfl;go_enter Tryz.func198,Tryz.ntmps198;go_upto_region 1 with fail
 rw[<-hw1];clear hw1;have e6:=E6.out;go_wp2_with (refine ah GJ rfl _ rfl w.heap.size rfl _ rfl HX.out.hd ?_)
 refine c1.mono ?_;rintro e w2 ⟨u,rfl,o2,b2⟩;have H2:Hid (Hx w w2 (.slice qo h.ks.length qc) h c):=HX.out.next b2;have O2:Hid (Own w2 (w.heap.size+3) u r.1.ks):=o2.mono HX.out.sz;obtain⟨uo,uc,rfl⟩:=aa o2.reads;clear o2 b2 c1 HX k0 k2 k4;go_wp2_with (refine ae GJ rfl _ _ rfl (w.heap.size+1+1) (hdA (.slice uo r.1.ks.length uc) r.1) #[.slice none 0 0,.int .i64 0,.int .i64 0,.int .i64 0] rfl rfl rfl rfl (dB _ rfl) H2.out.rs ?_;intro we se ge)
 refine bodyPost_ret (bI GJ rfl _ _ (w.heap.size+1+1) _ _ rfl rfl rfl se) rfl ?_;exact⟨_,rfl,(O2.out.keptLt ge Ff).mono Ff,H2.out.bl.grown ge H2.out.bl.size (fun x e=>by cases e;omega)⟩
theorem lU (q:Value) (h:Hd) (i:Int) (c:Cm) (w:World) (hq:ag w q h.ks) (hl:h.ks.length<=1099511627776) (n6:c.o≠6) (e7:c.o=7):
  Calls Tryz.prog 198 #[HV q h,.int .i64 i,CV c] w (Ans w (h.reserve i c.k)):=by
 have N6:Hid (c.o≠6):=n6;clear n6;have E7:Hid (c.o=7):=e7;clear e7;obtain⟨w1,hw1⟩:=Fe (((w.alloc (.cells (hdA q h) 37)).alloc (.cells (cmA c) 66)).alloc (.cells #[.slice none 0 0,.int .i64 0,.int .i64 0,.int .i64 0] 37))
 have HX:Hid (Hx w w1 q h c):=by rw[hw1];exact Hx.start w q h c
 have c1:=rK q h i c.k w1 (hq.below HX.out.bl (Nat.le_refl _)) hl;obtain⟨r,hr⟩:=Fe (h.reserve i c.k)
 rw[<-hr]at c1⊢;obtain⟨qo,qc,rfl⟩:=aa hq;clear hr hq hl;unfold Ans HV at c1;unfold Ans HV CV;conv in hdA (.slice qo h.ks.length qc) _=>unfold hdA
 unfold cmA;unfold hdA cmA at hw1;have k0:w1.cell? ⟨w.heap.size+1,0,none⟩=some (.int .i64 c.o):=HX.out.cm.cell 0 rfl;have k2:w1.cell? ⟨w.heap.size+1,2,none⟩=some (.int .i64 c.a):=HX.out.cm.cell 2 rfl;have k4:w1.cell? ⟨w.heap.size+1,4,none⟩=some (.int .i64 c.k):=HX.out.cm.cell 4 rfl;go_enter Tryz.func198,Tryz.ntmps198;go_upto_region 1 with fail
 rw[<-hw1];clear hw1;have n6:=N6.out;have e7:=E7.out;go_wp2_with (refine ah GJ rfl _ rfl w.heap.size rfl _ rfl HX.out.hd ?_)
 refine c1.mono ?_;rintro e w2 ⟨u,rfl,o2,b2⟩;have H2:Hid (Hx w w2 (.slice qo h.ks.length qc) h c):=HX.out.next b2;have O2:Hid (Own w2 (w.heap.size+3) u r.1.ks):=o2.mono HX.out.sz;obtain⟨uo,uc,rfl⟩:=aa o2.reads;clear o2 b2 c1 HX k0 k2 k4;go_wp2_with (refine ae GJ rfl _ _ rfl (w.heap.size+1+1) (hdA (.slice uo r.1.ks.length uc) r.1) #[.slice none 0 0,.int .i64 0,.int .i64 0,.int .i64 0] rfl rfl rfl rfl (dB _ rfl) H2.out.rs ?_;intro we se ge)
 refine bodyPost_ret (bI GJ rfl _ _ (w.heap.size+1+1) _ _ rfl rfl rfl se) rfl ?_;exact⟨_,rfl,(O2.out.keptLt ge Ff).mono Ff,H2.out.bl.grown ge H2.out.bl.size (fun x e=>by cases e;omega)⟩
theorem lV (q:Value) (h:Hd) (i:Int) (c:Cm) (w:World) (hq:ag w q h.ks) (hl:h.ks.length<=1099511627776) (n6:c.o≠6) (n7:c.o≠7) (e8:c.o=8):
  Calls Tryz.prog 198 #[HV q h,.int .i64 i,CV c] w (Ans w (h.release i)):=by
 have N6:Hid (c.o≠6):=n6;clear n6;have N7:Hid (c.o≠7):=n7;clear n7;have E8:Hid (c.o=8):=e8;clear e8;obtain⟨w1,hw1⟩:=Fe (((w.alloc (.cells (hdA q h) 37)).alloc (.cells (cmA c) 66)).alloc (.cells #[.slice none 0 0,.int .i64 0,.int .i64 0,.int .i64 0] 37))
 have HX:Hid (Hx w w1 q h c):=by rw[hw1];exact Hx.start w q h c
 have c1:=rL q h i w1 (hq.below HX.out.bl (Nat.le_refl _)) hl;obtain⟨r,hr⟩:=Fe (h.release i)
 rw[<-hr]at c1⊢;obtain⟨qo,qc,rfl⟩:=aa hq;clear hr hq hl;unfold Ans HV at c1;unfold Ans HV CV;conv in hdA (.slice qo h.ks.length qc) _=>unfold hdA
 unfold cmA;unfold hdA cmA at hw1;have k0:w1.cell? ⟨w.heap.size+1,0,none⟩=some (.int .i64 c.o):=HX.out.cm.cell 0 rfl;have k2:w1.cell? ⟨w.heap.size+1,2,none⟩=some (.int .i64 c.a):=HX.out.cm.cell 2 rfl;have k4:w1.cell? ⟨w.heap.size+1,4,none⟩=some (.int .i64 c.k):=HX.out.cm.cell 4 rfl;go_enter Tryz.func198,Tryz.ntmps198;go_upto_region 1 with fail
 rw[<-hw1];clear hw1;have n6:=N6.out;have n7:=N7.out;have e8:=E8.out;go_wp2_with (refine ah GJ rfl _ rfl w.heap.size rfl _ rfl HX.out.hd ?_)
 refine c1.mono ?_;rintro e w2 ⟨u,rfl,o2,b2⟩;have H2:Hid (Hx w w2 (.slice qo h.ks.length qc) h c):=HX.out.next b2;have O2:Hid (Own w2 (w.heap.size+3) u r.1.ks):=o2.mono HX.out.sz;obtain⟨uo,uc,rfl⟩:=aa o2.reads;clear o2 b2 c1 HX k0 k2 k4;go_wp2_with (refine ae GJ rfl _ _ rfl (w.heap.size+1+1) (hdA (.slice uo r.1.ks.length uc) r.1) #[.slice none 0 0,.int .i64 0,.int .i64 0,.int .i64 0] rfl rfl rfl rfl (dB _ rfl) H2.out.rs ?_;intro we se ge)
 refine bodyPost_ret (bI GJ rfl _ _ (w.heap.size+1+1) _ _ rfl rfl rfl se) rfl ?_;exact⟨_,rfl,(O2.out.keptLt ge Ff).mono Ff,H2.out.bl.grown ge H2.out.bl.size (fun x e=>by cases e;omega)⟩
theorem oy (q:Value) (h:Hd) (i:Int) (c:Cm) (w:World) (hq:ag w q h.ks) (hl:h.ks.length<=1099511627776) (n6:c.o≠6) (n7:c.o≠7) (n8:c.o≠8) (e9:c.o=9):
  Calls Tryz.prog 198 #[HV q h,.int .i64 i,CV c] w (Ans w (h.clear i)):=by
 have N6:Hid (c.o≠6):=n6;clear n6;have N7:Hid (c.o≠7):=n7;clear n7;have N8:Hid (c.o≠8):=n8;clear n8;have E9:Hid (c.o=9):=e9;clear e9;obtain⟨w1,hw1⟩:=Fe (((w.alloc (.cells (hdA q h) 37)).alloc (.cells (cmA c) 66)).alloc (.cells #[.slice none 0 0,.int .i64 0,.int .i64 0,.int .i64 0] 37))
 have HX:Hid (Hx w w1 q h c):=by rw[hw1];exact Hx.start w q h c
 have c1:=vH q h i w1 (hq.below HX.out.bl (Nat.le_refl _)) hl;obtain⟨r,hr⟩:=Fe (h.clear i)
 rw[<-hr]at c1⊢;obtain⟨qo,qc,rfl⟩:=aa hq;clear hr hq hl;unfold Ans HV at c1;unfold Ans HV CV;conv in hdA (.slice qo h.ks.length qc) _=>unfold hdA
 unfold cmA;unfold hdA cmA at hw1;have k0:w1.cell? ⟨w.heap.size+1,0,none⟩=some (.int .i64 c.o):=HX.out.cm.cell 0 rfl;have k2:w1.cell? ⟨w.heap.size+1,2,none⟩=some (.int .i64 c.a):=HX.out.cm.cell 2 rfl;have k4:w1.cell? ⟨w.heap.size+1,4,none⟩=some (.int .i64 c.k):=HX.out.cm.cell 4 rfl;go_enter Tryz.func198,Tryz.ntmps198;go_upto_region 1 with fail
 rw[<-hw1];clear hw1;have n6:=N6.out;have n7:=N7.out;have n8:=N8.out;have e9:=E9.out;go_wp2_with (refine ah GJ rfl _ rfl w.heap.size rfl _ rfl HX.out.hd ?_)
 refine c1.mono ?_;rintro e w2 ⟨u,rfl,o2,b2⟩;have H2:Hid (Hx w w2 (.slice qo h.ks.length qc) h c):=HX.out.next b2;have O2:Hid (Own w2 (w.heap.size+3) u r.1.ks):=o2.mono HX.out.sz;obtain⟨uo,uc,rfl⟩:=aa o2.reads;clear o2 b2 c1 HX k0 k2 k4;go_wp2_with (refine ae GJ rfl _ _ rfl (w.heap.size+1+1) (hdA (.slice uo r.1.ks.length uc) r.1) #[.slice none 0 0,.int .i64 0,.int .i64 0,.int .i64 0] rfl rfl rfl rfl (dB _ rfl) H2.out.rs ?_;intro we se ge)
 refine bodyPost_ret (bI GJ rfl _ _ (w.heap.size+1+1) _ _ rfl rfl rfl se) rfl ?_;exact⟨_,rfl,(O2.out.keptLt ge Ff).mono Ff,H2.out.bl.grown ge H2.out.bl.size (fun x e=>by cases e;omega)⟩
theorem lW (q:Value) (h:Hd) (i:Int) (c:Cm) (w:World) (hq:ag w q h.ks) (hl:h.ks.length<=1099511627776) (n6:c.o≠6) (n7:c.o≠7) (n8:c.o≠8) (n9:c.o≠9):
  Calls Tryz.prog 198 #[HV q h,.int .i64 i,CV c] w (Ans w (h.preempt i c.a c.k)):=by
 have N6:Hid (c.o≠6):=n6;clear n6;have N7:Hid (c.o≠7):=n7;clear n7;have N8:Hid (c.o≠8):=n8;clear n8;have N9:Hid (c.o≠9):=n9;clear n9;obtain⟨w1,hw1⟩:=Fe (((w.alloc (.cells (hdA q h) 37)).alloc (.cells (cmA c) 66)).alloc (.cells #[.slice none 0 0,.int .i64 0,.int .i64 0,.int .i64 0] 37))
 have HX:Hid (Hx w w1 q h c):=by rw[hw1];exact Hx.start w q h c
 have c1:=rM q h i c.a c.k w1 (hq.below HX.out.bl (Nat.le_refl _)) hl;obtain⟨r,hr⟩:=Fe (h.preempt i c.a c.k)
 rw[<-hr]at c1⊢;obtain⟨qo,qc,rfl⟩:=aa hq;clear hr hq hl;unfold Ans HV at c1;unfold Ans HV CV;conv in hdA (.slice qo h.ks.length qc) _=>unfold hdA
 unfold cmA;unfold hdA cmA at hw1;have k0:w1.cell? ⟨w.heap.size+1,0,none⟩=some (.int .i64 c.o):=HX.out.cm.cell 0 rfl;have k2:w1.cell? ⟨w.heap.size+1,2,none⟩=some (.int .i64 c.a):=HX.out.cm.cell 2 rfl;have k4:w1.cell? ⟨w.heap.size+1,4,none⟩=some (.int .i64 c.k):=HX.out.cm.cell 4 rfl;go_enter Tryz.func198,Tryz.ntmps198;go_upto_region 1 with fail
 rw[<-hw1];clear hw1;have n6:=N6.out;have n7:=N7.out;have n8:=N8.out;have n9:=N9.out;go_wp2_with (refine ah GJ rfl _ rfl w.heap.size rfl _ rfl HX.out.hd ?_)
 refine c1.mono ?_;rintro e w2 ⟨u,rfl,o2,b2⟩;have H2:Hid (Hx w w2 (.slice qo h.ks.length qc) h c):=HX.out.next b2;have O2:Hid (Own w2 (w.heap.size+3) u r.1.ks):=o2.mono HX.out.sz;obtain⟨uo,uc,rfl⟩:=aa o2.reads;clear o2 b2 c1 HX k0 k2 k4;go_wp2_with (refine ae GJ rfl _ _ rfl (w.heap.size+1+1) (hdA (.slice uo r.1.ks.length uc) r.1) #[.slice none 0 0,.int .i64 0,.int .i64 0,.int .i64 0] rfl rfl rfl rfl (dB _ rfl) H2.out.rs ?_;intro we se ge)
 refine bodyPost_ret (bI GJ rfl _ _ (w.heap.size+1+1) _ _ rfl rfl rfl se) rfl ?_;exact⟨_,rfl,(O2.out.keptLt ge Ff).mono Ff,H2.out.bl.grown ge H2.out.bl.size (fun x e=>by cases e;omega)⟩
theorem oA (q:Value) (h:Hd) (i:Int) (c:Cm) (w:World) (hq:ag w q h.ks) (hl:h.ks.length<=1099511627776):
  Calls Tryz.prog 198 #[HV q h,.int .i64 i,CV c] w (Ans w (h.after i c)):=by
 unfold Hd.after;by_cases e6:c.o=6
 ·rw[if_pos e6];exact li q h i c w hq hl e6
 rw[if_neg e6];by_cases e7:c.o=7
 ·rw[if_pos e7];exact lU q h i c w hq hl e6 e7
 rw[if_neg e7];by_cases e8:c.o=8
 ·rw[if_pos e8];exact lV q h i c w hq hl e6 e7 e8
 rw[if_neg e8];by_cases e9:c.o=9
 ·rw[if_pos e9];exact oy q h i c w hq hl e6 e7 e8 e9
 rw[if_neg e9];exact lW q h i c w hq hl e6 e7 e8 e9
end Go.Proofs.YthldeiojlllkdaaGreatDoor
