/- The model's commands that read and those that write: ag, Writes. -/
import Derived.Test.YthldeiojlllkdaaGreatDoorSVol2
set_option maxRecDepth 20000
set_option maxHeartbeats 8000000
namespace Go.Proofs.YthldeiojlllkdaaGreatDoor
open Go.ChangeShapes Go.WideShapes Go.ChangeAt Go.RowKit
section
open Go.ChangeShapes Go.WideShapes Go.ChangeAt Go.RowKit
end
theorem fL {xs ys:List Int} {c:Cm} (h5:c.o≠5) (h:cX ys c=true):bC xs ys c=(xs,ys,⟨1,[]⟩):=by simp[bC,h5,h]
theorem BG (u v:Value) (xs ys:List Int) (c:Cm) (w:World) (h:ag w u xs) (h':ag w v ys) (hb:au xs ys=true) (hc:c.ok=true) (h5:c.o<=5):
  Calls Tryz.prog 100 #[.agg #[u,v],CV c] w fun e w'=>∃a b,e=.returned (.tuple #[.agg #[a,b],AV (bC xs ys c).2.2])/\aV w' w.heap.size a b (bC xs ys c).1 (bC xs ys c).2.1/\iO w w':=by
 obtain⟨ho,hp0⟩:=Cm.ok_vol hc h5;obtain⟨o,p,x,y,k0⟩:=c;dsimp only at ho hp0;by_cases e5:o=5
 ·subst e5
  have e:bC xs ys ⟨5,p,x,y,k0⟩=(ys,ys,⟨0,[]⟩):=by simp[bC]
  rw[e];exact ve u v xs ys p x y k0 w h h' hb
 ·by_cases hf:(ys.length:Int)<=p
  ·rw[fL (by exact e5) (by simp[cX,hf])]
   exact xH u v xs ys o p x y k0 w h h' hb (by simpa using e5) hf
  ·obtain⟨j,rfl⟩:∃j:Nat,p=(j:Int):=⟨p.toNat,by omega⟩
   have hj:(j:Int)<(ys.length:Int):=by omega
   have hjt:((j:Int)).toNat=j:=by omega
   rcases ho with rfl|rfl|rfl|rfl|rfl
   ·have e:bC xs ys ⟨1,j,x,y,k0⟩=(xs,ys,⟨0,ce (ys.getD j 0)⟩):=by
     have:cX ys ⟨1,j,x,y,k0⟩=false:=by simp[cX];omega
     simp[bC,this,atI]
    rw[e];exact vh u v xs ys j x y k0 w h h' hb hj
   ·cases hv:bJ x with
    |false=>
     rw[fL Fg (by simp[cX,hv])];exact sA u v xs ys j x y k0 w h h' hb hj hv
    |true=>
     have e:bC xs ys ⟨2,j,x,y,k0⟩=(xs,ys.set j x,⟨0,[]⟩):=by
      have:cX ys ⟨2,j,x,y,k0⟩=false:=by simp[cX,hv];omega
      simp[bC,this]
     rw[e];exact sC u v xs ys j x y k0 w h h' hb hj hv
   ·cases hv:bJ y with
    |false=>
     rw[fL Fg (by simp[cX,hv])];exact sB u v xs ys j x y k0 w h h' hb hj hv
    |true=>
     have hr:cX ys ⟨3,j,x,y,k0⟩=false:=by simp[cX,hv];omega
     by_cases he:ys.getD j 0=x
     ·have e:bC xs ys ⟨3,j,x,y,k0⟩=(xs,ys.set j y,⟨0,[]⟩):=by
       unfold bC atI;dsimp only;rw[if_neg Fh,hr,hjt,he];simp
      rw[e];exact vg u v xs ys j x y k0 w h h' hb hj hv he
     ·have e:bC xs ys ⟨3,j,x,y,k0⟩=(xs,ys,⟨2,ce (ys.getD j 0)⟩):=by
       unfold bC atI;dsimp only;rw[if_neg Fh,hr,hjt,if_neg he];simp
      rw[e];exact pR u v xs ys j x y k0 w h h' hb hj hv he
   ·have e:bC xs ys ⟨4,j,x,y,k0⟩=(xs,ys.set j 0,⟨0,[]⟩):=by
     have:cX ys ⟨4,j,x,y,k0⟩=false:=by simp[cX];omega
     simp[bC,this]
    rw[e];exact sD u v xs ys j x y k0 w h h' hb hj
   ·exact absurd rfl e5
theorem xE (u v q:Value) (xs ys:List Int) (h:Hd) (i:Int) (c:Cm) (w:World) (hu:ag w u xs) (hv:ag w v ys) (hq:ag w q h.ks) (hb:au xs ys=true) (ok:h.ok=true) (i0:0<=i) (i1:i<4) (hc:c.ok=true) (h5:c.o<=5) (hm:h.may i (decide (c.o≠1))=true):
  Calls Tryz.prog 58 #[SRV u v q h,.int .i64 i,CV c] w fun e w'=>∃a b k,e=.returned (.tuple #[SRV a b k h,AV (bC xs ys c).2.2])/\aZ w' w.heap.size a b k (bC xs ys c).1 (bC xs ys c).2.1 (h).ks/\iO w w':=by
 have nx:xs.length<=8/\ys.length<=8:=by
  obtain⟨k1,k2, -⟩:=fR hb;exact⟨(bE k1).2,(bE k2).2⟩
 have hl:=(Hd.ok_all ok).1;obtain⟨w1,hw1⟩:=Fe ((((w.alloc (.cells (srA u v q h) 96)).alloc (.cells #[.int .i64 c.o,.int .i64 c.p,.int .i64 c.a,.int .i64 c.b,.int .i64 c.k] 66)).alloc (.cells #[.slice none 0 0,.slice none 0 0,.slice none 0 0,.int .i64 0,.int .i64 0,.int .i64 0] 96)).alloc (.cells #[.int .i64 0,.string ⟨#[]⟩] 44))
 have HV:Hid (Ds w w1 u v q h c):=by rw[hw1];exact Ds.start w u v q h c
 have c1:=jn u v q xs ys h w1 (hu.below HV.out.bl (Nat.le_refl _)) (hv.below HV.out.bl (Nat.le_refl _)) (hq.below HV.out.bl (Nat.le_refl _)) Ff Ff Ff;have HX:Hid (ag w u xs/\ag w v ys/\ag w q h.ks/\au xs ys=true/\h.ok=true/\h.ks.length=4):=⟨hu,hv,hq,hb,ok,hl⟩
 obtain⟨uo,uc,rfl⟩:=aa hu;obtain⟨vo,vc,rfl⟩:=aa hv;obtain⟨qo,qc,rfl⟩:=aa hq;clear hu hv hq hb ok hl nx;unfold srA at hw1;unfold SRV at c1;unfold SRV CV cmA;conv in srA (.slice uo xs.length uc) (.slice vo ys.length vc) (.slice qo h.ks.length qc) _=>unfold srA
 go_enter Tryz.func58,Tryz.ntmps58;go_upto_region 1 with fail
 rw[<-hw1];clear hw1;go_wp2_with (refine ah GP rfl _ rfl w.heap.size rfl _ rfl HV.out.st ?_)
 refine c1.mono ?_;rintro e w2 ⟨a,b,k,rfl,o2,b2⟩;obtain⟨ao,ac,rfl⟩:=o2.1.1.reads.form;obtain⟨bo,bc,rfl⟩:=o2.1.2.1.reads.form;obtain⟨ko,kc,rfl⟩:=o2.2.1.reads.form;have H2:Hid (Ds w w2 (.slice uo xs.length uc) (.slice vo ys.length vc) (.slice qo h.ks.length qc) h c/\aZ w2 (w.heap.size+4) (.slice ao xs.length ac) (.slice bo ys.length bc) (.slice ko h.ks.length kc) xs ys h.ks):=⟨HV.out.next b2,o2.mono HV.out.sz⟩
 clear c1 o2 b2 HV;obtain⟨w3,hw3⟩:=Fe (w2.alloc (.cells #[.slice ao xs.length ac,.slice bo ys.length bc,.slice ko h.ks.length kc,.int .i64 h.kd,.int .i64 h.ho,.int .i64 h.tu] 96))
 have H3:Hid (Ds w w3 (.slice uo xs.length uc) (.slice vo ys.length vc) (.slice qo h.ks.length qc) h c/\aZ w3 (w.heap.size+4) (.slice ao xs.length ac) (.slice bo ys.length bc) (.slice ko h.ks.length kc) xs ys h.ks/\StB w3 w2.heap.size 96 (srA (.slice ao xs.length ac) (.slice bo ys.length bc) (.slice ko h.ks.length kc) h)/\w.heap.size+4<=w2.heap.size):=by
  have b3:iO w2 w3:=by rw[hw3];exact Fc
  exact⟨H2.out.1.next b3,H2.out.2.below b3,by rw[hw3];exact StB.new _ _ _,H2.out.1.sz⟩
 have NE:Hid ((Value.slice ao xs.length ac).ownBlock≠some w2.heap.size/\(Value.slice bo ys.length bc).ownBlock≠some w2.heap.size/\(Value.slice ko h.ks.length kc).ownBlock≠some w2.heap.size):=H2.out.2.ne (Nat.le_refl _);conv in srA _ _ (.slice ko _ _) _=>unfold srA
 go_upto_region 2 with fail
 rw[<-hw3];clear hw3 H2;obtain⟨g,hg⟩:=Fe w2.heap.size
 rw[<-hg]at H3 NE⊢;clear hg;have m0:w3.cell? ⟨w.heap.size+1,0,none⟩=some (.int .i64 c.o):=H3.out.1.cm.cell 0 rfl;have hc0:w3.cell? ⟨w.heap.size,2,none⟩=some (.slice qo h.ks.length qc):=H3.out.1.st.cell 2 rfl;have hc1:w3.cell? ⟨w.heap.size,3,none⟩=some (.int .i64 h.kd):=H3.out.1.st.cell 3 rfl;have hc2:w3.cell? ⟨w.heap.size,4,none⟩=some (.int .i64 h.ho):=H3.out.1.st.cell 4 rfl;have hc3:w3.cell? ⟨w.heap.size,5,none⟩=some (.int .i64 h.tu):=H3.out.1.st.cell 5 rfl;have c2:=qJ (.slice qo h.ks.length qc) h i (decide (c.o≠1)) w3 (HX.out.2.2.1.below H3.out.1.bl (Nat.le_refl _)) i0 (by have:=HX.out.2.2.2.2.2;omega);rw[hm]at c2;unfold HV hdA at c2;obtain⟨bo1,hbo1⟩:=Fe (decide (c.o≠1))
 rw[<-hbo1]at c2;have hneq:(c.o !=1)=bo1:=by rw[hbo1];by_cases e:c.o=1<;>simp[e]
 clear hbo1 hm i0 i1;go_wp2_with fail
 refine c2.mono ?_;rintro e w4 ⟨rfl,b4⟩;have H4:Hid (Ds w w4 (.slice uo xs.length uc) (.slice vo ys.length vc) (.slice qo h.ks.length qc) h c/\aZ w4 (w.heap.size+4) (.slice ao xs.length ac) (.slice bo ys.length bc) (.slice ko h.ks.length kc) xs ys h.ks/\StB w4 g 96 (srA (.slice ao xs.length ac) (.slice bo ys.length bc) (.slice ko h.ks.length kc) h)/\w.heap.size+4<=g):=⟨H3.out.1.next b4,H3.out.2.1.below b4,H3.out.2.2.1.below b4,H3.out.2.2.2⟩
 clear H3 b4 c2 m0 hc0 hc1 hc2 hc3 hneq;have m0:w4.cell? ⟨w.heap.size+1,0,none⟩=some (.int .i64 c.o):=H4.out.1.cm.cell 0 rfl;have m1:w4.cell? ⟨w.heap.size+1,1,none⟩=some (.int .i64 c.p):=H4.out.1.cm.cell 1 rfl;have m2:w4.cell? ⟨w.heap.size+1,2,none⟩=some (.int .i64 c.a):=H4.out.1.cm.cell 2 rfl;have m3:w4.cell? ⟨w.heap.size+1,3,none⟩=some (.int .i64 c.b):=H4.out.1.cm.cell 3 rfl;have m4:w4.cell? ⟨w.heap.size+1,4,none⟩=some (.int .i64 c.k):=H4.out.1.cm.cell 4 rfl;have d0:w4.cell? ⟨w.heap.size,0,none⟩=some (.slice uo xs.length uc):=H4.out.1.st.cell 0 rfl;have d1:w4.cell? ⟨w.heap.size,1,none⟩=some (.slice vo ys.length vc):=H4.out.1.st.cell 1 rfl;have c3:=BG (.slice uo xs.length uc) (.slice vo ys.length vc) xs ys c w4 (HX.out.1.below H4.out.1.bl (Nat.le_refl _)) (HX.out.2.1.below H4.out.1.bl (Nat.le_refl _)) HX.out.2.2.2.1 hc h5;obtain⟨zs,e1⟩:=Fe ((bC xs ys c).1)
 obtain⟨zt,e2⟩:=Fe ((bC xs ys c).2.1)
 obtain⟨an,e3⟩:=Fe ((bC xs ys c).2.2)
 rw[<-e1,<-e2,<-e3]at c3;have HE:Hid (zs=(bC xs ys c).1/\zt=(bC xs ys c).2.1/\an=(bC xs ys c).2.2):=⟨e1,e2,e3⟩
 unfold CV cmA at c3;clear e1 e2 e3 hc;go_wp2_with fail
 refine c3.mono ?_;rintro e w5 ⟨x1,x2,rfl,o5,b5⟩;obtain⟨xo,xc,rfl⟩:=o5.1.reads.form;obtain⟨yo,yc,rfl⟩:=o5.2.1.reads.form;have hap:Hid (apart (.slice xo zs.length xc) (.slice ko h.ks.length kc)/\apart (.slice yo zt.length yc) (.slice ko h.ks.length kc)):=by
  have q1:=dt H4.out.2.1.2.1 o5.1 (Nat.le_refl _);have q2:=dt H4.out.2.1.2.1 o5.2.1 (Nat.le_refl _);exact⟨⟨q1.2,q1.1⟩,⟨q2.2,q2.1⟩⟩
 have H5:Hid (Ds w w5 (.slice uo xs.length uc) (.slice vo ys.length vc) (.slice qo h.ks.length qc) h c/\aZ w5 (w.heap.size+4) (.slice xo zs.length xc) (.slice yo zt.length yc) (.slice ko h.ks.length kc) zs zt h.ks/\StB w5 g 96 (srA (.slice ao xs.length ac) (.slice bo ys.length bc) (.slice ko h.ks.length kc) h)/\w.heap.size+4<=g/\g<w5.heap.size):=
  ⟨H4.out.1.next b5,⟨⟨o5.1.mono H4.out.1.sz,o5.2.1.mono H4.out.1.sz,o5.2.2⟩,H4.out.2.1.2.1.below b5,hap.out⟩,H4.out.2.2.1.below b5,H4.out.2.2.2,(H4.out.2.2.1.below b5).lt⟩
 have N5:Hid ((Value.slice xo zs.length xc).ownBlock≠some g/\(Value.slice yo zt.length yc).ownBlock≠some g):=by
  have hg:=H4.out.2.2.1.lt;exact⟨fun e=>by have:=(o5.1.lt _ e).1;omega,fun e=>by have:=(o5.2.1.lt _ e).1;omega⟩
 have Nk:Hid ((Value.slice ko h.ks.length kc).ownBlock≠some g):=NE.out.2.2;clear o5 b5 hap c3 m0 m1 m2 m3 m4 d0 d1 H4 NE;obtain⟨st,tx⟩:=an;unfold AV anA S at*;dsimp only at*;obtain⟨w6,hw6⟩:=Fe ((w5.alloc (.cells #[.slice xo zs.length xc,.slice yo zt.length yc] 36)).alloc (.cells #[.int .i64 st,.string ⟨tx.toArray⟩] 44))
 have b6:iO w5 w6:=by rw[hw6];exact Fc.alloc Fg _
 have H6:Hid (Ds w w6 (.slice uo xs.length uc) (.slice vo ys.length vc) (.slice qo h.ks.length qc) h c/\aZ w6 (w.heap.size+4) (.slice xo zs.length xc) (.slice yo zt.length yc) (.slice ko h.ks.length kc) zs zt h.ks/\StB w6 g 96 (srA (.slice ao xs.length ac) (.slice bo ys.length bc) (.slice ko h.ks.length kc) h)/\StB w6 w5.heap.size 36 #[.slice xo zs.length xc,.slice yo zt.length yc]/\StB w6 (w5.heap.size+1) 44 #[.int .i64 st,.string ⟨tx.toArray⟩]):=by
  have q:=StB.new (w5.alloc (.cells #[.slice xo zs.length xc,.slice yo zt.length yc] 36)) 44 #[.int .i64 st,.string ⟨tx.toArray⟩];simp only[World.size_alloc]at q;exact⟨H5.out.1.next b6,H5.out.2.1.below b6,H5.out.2.2.1.below b6,by rw[hw6];exact(StB.new _ _ _).alloc _,by rw[hw6];exact q⟩
 have hg5:Hid (w.heap.size+4<=g/\g<w5.heap.size):=H5.out.2.2.2;clear b6 H5;go_upto_region 8 with fail
 rw[<-hw6];clear hw6;obtain⟨k9,hk9⟩:=Fe w5.heap.size
 rw[<-hk9]at H6 hg5⊢;clear hk9;have n0:w6.cell? ⟨k9,0,none⟩=some (.slice xo zs.length xc):=H6.out.2.2.2.1.cell 0 rfl;have n1:w6.cell? ⟨k9,1,none⟩=some (.slice yo zt.length yc):=H6.out.2.2.2.1.cell 1 rfl;have p0:w6.cell? ⟨g,0,none⟩=some (.slice ao xs.length ac):=H6.out.2.2.1.cell 0 rfl;have p1:w6.cell? ⟨g,1,none⟩=some (.slice bo ys.length bc):=H6.out.2.2.1.cell 1 rfl;have f0:=H6.out.2.2.1.frozen 0;have f1:=H6.out.2.2.1.frozen 1;go_upto_region 9 with fail
 obtain⟨w7,hw7⟩:=Fe ((w6.setCell ⟨g,0,none⟩ (.slice xo zs.length xc)).setCell ⟨g,1,none⟩ (.slice yo zt.length yc))
 rw[<-hw7];have G7:w6.grownBy w7 (some g):=by rw[hw7];exact(ai _ _ _ _).trans (ai _ _ _ _)
 have H7:Hid (Ds w w7 (.slice uo xs.length uc) (.slice vo ys.length vc) (.slice qo h.ks.length qc) h c):=H6.out.1.grown G7 hg5.out.1;have O7:Hid (aZ w7 (w.heap.size+4) (.slice xo zs.length xc) (.slice yo zt.length yc) (.slice ko h.ks.length kc) zs zt h.ks/\True):=⟨H6.out.2.1.kept G7 N5.out.1 N5.out.2 Nk.out,trivial⟩
 have S7:Hid (StB w7 g 96 (srA (.slice xo zs.length xc) (.slice yo zt.length yc) (.slice ko h.ks.length kc) h)/\StB w7 (k9+1) 44 #[.int .i64 st,.string ⟨tx.toArray⟩]/\w.heap.size+4<=g/\w.heap.size+4<=k9+1):=⟨by rw[hw7];exact(H6.out.2.2.1.put 0 _ rfl).put 1 _ rfl,H6.out.2.2.2.2.kept G7 (by have:=hg5.out;simp;omega),hg5.out.1,by have:=hg5.out;omega⟩
 clear hw7 G7 H6 n0 n1 p0 p1 f0 f1 N5 Nk hg5;have qq0:∀w',Sd (w.heap.size+1+1) (w.heap.size+1+1+1) w7 w'->w'.cell? ⟨g,0,none⟩=some (.slice xo zs.length xc):=fun w' b=>b _ _ (by have:=S7.out.2.2.1;dsimp only;omega) (by have:=S7.out.2.2.1;dsimp only;omega) (S7.out.1.cell 0 rfl)
 have qq1:∀w',Sd (w.heap.size+1+1) (w.heap.size+1+1+1) w7 w'->w'.cell? ⟨g,1,none⟩=some (.slice yo zt.length yc):=fun w' b=>b _ _ (by have:=S7.out.2.2.1;dsimp only;omega) (by have:=S7.out.2.2.1;dsimp only;omega) (S7.out.1.cell 1 rfl)
 have qq2:∀w',Sd (w.heap.size+1+1) (w.heap.size+1+1+1) w7 w'->w'.cell? ⟨g,2,none⟩=some (.slice ko h.ks.length kc):=fun w' b=>b _ _ (by have:=S7.out.2.2.1;dsimp only;omega) (by have:=S7.out.2.2.1;dsimp only;omega) (S7.out.1.cell 2 rfl)
 have qq3:∀w',Sd (w.heap.size+1+1) (w.heap.size+1+1+1) w7 w'->w'.cell? ⟨g,3,none⟩=some (.int .i64 h.kd):=fun w' b=>b _ _ (by have:=S7.out.2.2.1;dsimp only;omega) (by have:=S7.out.2.2.1;dsimp only;omega) (S7.out.1.cell 3 rfl)
 have qq4:∀w',Sd (w.heap.size+1+1) (w.heap.size+1+1+1) w7 w'->w'.cell? ⟨g,4,none⟩=some (.int .i64 h.ho):=fun w' b=>b _ _ (by have:=S7.out.2.2.1;dsimp only;omega) (by have:=S7.out.2.2.1;dsimp only;omega) (S7.out.1.cell 4 rfl)
 have qq5:∀w',Sd (w.heap.size+1+1) (w.heap.size+1+1+1) w7 w'->w'.cell? ⟨g,5,none⟩=some (.int .i64 h.tu):=fun w' b=>b _ _ (by have:=S7.out.2.2.1;dsimp only;omega) (by have:=S7.out.2.2.1;dsimp only;omega) (S7.out.1.cell 5 rfl)
 have t0:∀w',Sd (w.heap.size+1+1) (w.heap.size+1+1+1) w7 w'->w'.cell? ⟨k9+1,0,none⟩=some (.int .i64 st):=fun w' b=>b _ _ (by have:=S7.out.2.2.2;dsimp only;omega) (by have:=S7.out.2.2.2;dsimp only;omega) (S7.out.2.1.cell 0 rfl)
 have t1:∀w',Sd (w.heap.size+1+1) (w.heap.size+1+1+1) w7 w'->w'.cell? ⟨k9+1,1,none⟩=some (.string ⟨tx.toArray⟩):=fun w' b=>b _ _ (by have:=S7.out.2.2.2;dsimp only;omega) (by have:=S7.out.2.2.2;dsimp only;omega) (S7.out.2.1.cell 1 rfl)
 have r0:w7.cell? ⟨w.heap.size+1+1,0,none⟩=some (.slice none 0 0):=(H7.out).rs.cell 0 rfl;have f0:=(H7.out).rs.frozen 0;have r1:w7.cell? ⟨w.heap.size+1+1,1,none⟩=some (.slice none 0 0):=(H7.out).rs.cell 1 rfl;have f1:=(H7.out).rs.frozen 1;have r2:w7.cell? ⟨w.heap.size+1+1,2,none⟩=some (.slice none 0 0):=(H7.out).rs.cell 2 rfl;have f2:=(H7.out).rs.frozen 2;have r3:w7.cell? ⟨w.heap.size+1+1,3,none⟩=some (.int .i64 0):=(H7.out).rs.cell 3 rfl;have f3:=(H7.out).rs.frozen 3;have r4:w7.cell? ⟨w.heap.size+1+1,4,none⟩=some (.int .i64 0):=(H7.out).rs.cell 4 rfl;have f4:=(H7.out).rs.frozen 4;have r5:w7.cell? ⟨w.heap.size+1+1,5,none⟩=some (.int .i64 0):=(H7.out).rs.cell 5 rfl;have f5:=(H7.out).rs.frozen 5;have ra0:w7.cell? ⟨w.heap.size+1+1+1,0,none⟩=some (.int .i64 0):=(H7.out).ra.cell 0 rfl;have fa0:=(H7.out).ra.frozen 0;have ra1:w7.cell? ⟨w.heap.size+1+1+1,1,none⟩=some (.string ⟨#[]⟩):=(H7.out).ra.cell 1 rfl;have fa1:=(H7.out).ra.frozen 1;have r0':w7.drew.cell? ⟨w.heap.size+1+1,0,none⟩=some (.slice none 0 0):=(H7.out.drew).rs.cell 0 rfl;have f0':=(H7.out.drew).rs.frozen 0;have r1':w7.drew.cell? ⟨w.heap.size+1+1,1,none⟩=some (.slice none 0 0):=(H7.out.drew).rs.cell 1 rfl;have f1':=(H7.out.drew).rs.frozen 1;have r2':w7.drew.cell? ⟨w.heap.size+1+1,2,none⟩=some (.slice none 0 0):=(H7.out.drew).rs.cell 2 rfl;have f2':=(H7.out.drew).rs.frozen 2;have r3':w7.drew.cell? ⟨w.heap.size+1+1,3,none⟩=some (.int .i64 0):=(H7.out.drew).rs.cell 3 rfl;have f3':=(H7.out.drew).rs.frozen 3;have r4':w7.drew.cell? ⟨w.heap.size+1+1,4,none⟩=some (.int .i64 0):=(H7.out.drew).rs.cell 4 rfl;have f4':=(H7.out.drew).rs.frozen 4;have r5':w7.drew.cell? ⟨w.heap.size+1+1,5,none⟩=some (.int .i64 0):=(H7.out.drew).rs.cell 5 rfl;have f5':=(H7.out.drew).rs.frozen 5;have ra0':w7.drew.cell? ⟨w.heap.size+1+1+1,0,none⟩=some (.int .i64 0):=(H7.out.drew).ra.cell 0 rfl;have fa0':=(H7.out.drew).ra.frozen 0;have ra1':w7.drew.cell? ⟨w.heap.size+1+1+1,1,none⟩=some (.string ⟨#[]⟩):=(H7.out.drew).ra.cell 1 rfl;have fa1':=(H7.out.drew).ra.frozen 1
 go_region_held3 (fun w'=>Sd (w.heap.size+1+1) (w.heap.size+1+1+1) w7 w') ((repeat'(first|with_reducible assumption|with_reducible exact Sd.refl _ _ _|with_reducible refine Sd.al ?_|with_reducible refine Sd.dr ?_|with_reducible refine Sd.set1 ?_|with_reducible refine Sd.set2 ?_|with_reducible refine Sd.put1 ?_ (by with_reducible assumption)|with_reducible refine Sd.put2 ?_ (by with_reducible assumption)|with_reducible refine Sd.bel ?_ (by with_reducible assumption)))) (fail)
 all_goals
  obtain⟨wz,hwz⟩:=Fe ((((pP w7 (w.heap.size+1+1) (.slice xo zs.length xc) (.slice yo zt.length yc) (.slice ko h.ks.length kc) h).setCell ⟨w.heap.size+1+1+1,0,none⟩ (.int .i64 st)).setCell ⟨w.heap.size+1+1+1,1,none⟩ (.string ⟨tx.toArray⟩)).drew)
  have T5:=jE (.slice xo zs.length xc) (.slice yo zt.length yc) (.slice ko h.ks.length kc) h H7.out.rs;have G5:=fJ w7 (w.heap.size+1+1) (.slice xo zs.length xc) (.slice yo zt.length yc) (.slice ko h.ks.length kc) h;have T6:=((H7.out.ra.kept G5 Fg).put 0 (.int .i64 st) rfl).put 1 (S tx) (ds:=anA ⟨st,tx⟩) rfl;have G6:=(ai (pP w7 (w.heap.size+1+1) (.slice xo zs.length xc) (.slice yo zt.length yc) (.slice ko h.ks.length kc) h) (w.heap.size+1+1+1) 0 (.int .i64 st)).trans (ai _ (w.heap.size+1+1+1) 1 (S tx));have HZ:Hid (StB wz (w.heap.size+1+1) 96 (srA (.slice xo zs.length xc) (.slice yo zt.length yc) (.slice ko h.ks.length kc) h)/\StB wz (w.heap.size+1+1+1) 44 (anA ⟨st,tx⟩)/\aZ wz w.heap.size (.slice xo zs.length xc) (.slice yo zt.length yc) (.slice ko h.ks.length kc) zs zt h.ks/\iO w wz):=by
   obtain⟨of,bf⟩:=H7.out.fin O7.out.1 (Nat.le_refl _) G5 G6;have k5:=T5.kept G6 Fg;obtain⟨wq,hwq⟩:=Fe (((pP w7 (w.heap.size+1+1) (.slice xo zs.length xc) (.slice yo zt.length yc) (.slice ko h.ks.length kc) h).setCell ⟨w.heap.size+1+1+1,0,none⟩ (.int .i64 st)).setCell ⟨w.heap.size+1+1+1,1,none⟩ (S tx))
   rw[<-hwq]at of bf k5 T6;have hz:wz=wq.drew:=by rw[hwz,hwq];rfl
   rw[hz];exact⟨k5.dr,T6.dr,of.below ((Below.refl _ _).drew),bf.drew⟩
  unfold pP at hwz;rw[<-hwz];clear hwz T5 G5 T6 G6;go_wp2;refine bodyPost_ret (fK rfl _ _ (w.heap.size+1+1) (w.heap.size+1+1+1) _ _ rfl rfl rfl rfl HZ.out.1 HZ.out.2.1) rfl ?_;rw[<-HE.out.1,<-HE.out.2.1,<-HE.out.2.2];exact⟨_,_,_,rfl,HZ.out.2.2⟩
theorem pq {w wx:World} (h:iO w wx):w.heap.size<=wx.heap.size:=h.size
theorem aV.bel {w w':World} {base:Nat} {u v:Value} {xs ys:List Int} (h:aV w base u v xs ys) (b:iO w w'):aV w' base u v xs ys:=⟨h.1.below b,h.2.1.below b,h.2.2⟩
theorem aV.mono' {w:World} {base base':Nat} {u v:Value} {xs ys:List Int} (h:aV w base u v xs ys) (b:base'<=base):aV w base' u v xs ys:=⟨h.1.mono b,h.2.1.mono b,h.2.2⟩
theorem aV.putBy {w w':World} {base g:Nat} {u v:Value} {xs ys:List Int} {t:TypeId} {cs:Array Value} (h:aV w base u v xs ys) (h':StB w g t cs) (hne:t≠2) (b:w.grownBy w' (some g)):aV w' base u v xs ys:=⟨h.1.putBy h' hne b,h.2.1.putBy h' hne b,h.2.2⟩
theorem xF (u v q:Value) (s:Sr) (i:Int) (c:Cm) (w:World) (hu:ag w u s.xs) (hv:ag w v s.ys) (hq:ag w q s.h.ks) (hb:au s.xs s.ys=true) (ok:s.h.ok=true) (i0:0<=i) (i1:i<4) (hc:c.ok=true):
  Calls Tryz.prog 58 #[SRV u v q s.h,.int .i64 i,CV c] w fun e w'=>∃a b k,e=.returned (.tuple #[SRV a b k (s.doing i c).1.h,AV (s.doing i c).2])/\aZ w' w.heap.size a b k (s.doing i c).1.xs (s.doing i c).1.ys (s.doing i c).1.h.ks/\iO w w':=by
 obtain⟨xs,ys,h⟩:=s;dsimp only at*;by_cases h5:5<c.o
 ·have e:Sr.doing ⟨xs,ys,h⟩ i c=(⟨xs,ys,(h.act i c).1⟩,(h.act i c).2):=by simp[Sr.doing,h5]
  rw[e];exact xD u v q xs ys h i c w hu hv hq hb ok i0 i1 hc h5
 ·cases hm:h.may i (decide (c.o≠1))with
  |true=>
   have e:Sr.doing ⟨xs,ys,h⟩ i c=(⟨(bC xs ys c).1,(bC xs ys c).2.1,h⟩,(bC xs ys c).2.2):=by
    unfold Sr.doing;rw[if_neg h5];dsimp only;rw[hm,if_pos rfl]
   rw[e];exact xE u v q xs ys h i c w hu hv hq hb ok i0 i1 hc Ff hm
  |false=>
   have e:Sr.doing ⟨xs,ys,h⟩ i c=(⟨xs,ys,h⟩,⟨3,[]⟩):=by
    unfold Sr.doing;rw[if_neg h5];dsimp only;rw[hm,if_neg Fh]
   rw[e];exact zY u v q xs ys h i c w hu hv hq hb ok i0 i1 Ff hm
theorem Hs.put19 {w w':World} {g off h:Nat} {t s:TypeId} {cs ds:Array Value} {a b k q z:Value} {n:Nd} (d:Hs w g off t cs a b k q z n) (r:StB w h s ds) (G:w.grownBy w' (some h)) (hg:g≠h:=by assumption) (ty:s≠2:=by decide):Hs w' g off t cs a b k q z n:=
 ⟨⟨d.nb.st.kept G (fun e=>hg (Option.some.inj e)),d.nb.sz,d.nb.el⟩,⟨d.ow.oa.putBy r ty G,d.ow.ob.putBy r ty G,d.ow.ok.putBy r ty G,d.ow.oq.putBy r ty G,d.ow.oz.putBy r ty G,d.ow.ap⟩,d.ty⟩
theorem BD (g off:Nat) (t:TypeId) (cs:Array Value) (a b k q z:Value) (n:Nd) (i:Int) (bs:Bs) (w:World) (d:Hs w g off t cs a b k q z n) (R:NdR n) (hb:bs.length<=1048576):
  Calls Tryz.prog 18 #[.pointer (some ⟨g,off,none⟩),.int .i64 i,S bs] w fun e w'=>e=.returned (AV (n.ask i bs).2)/\∃cs' a' b' k' q' z',Hs w' g off t cs' a' b' k' q' z' (n.ask i bs).1/\Hop w w' g off cs cs' (dE a b k q z) (dE a' b' k' q' z'):=by
 have C1:Hid (∀wx,Calls Tryz.prog 55 #[.int .i64 i] wx fun e w'=>e=.returned (.bool (inI i 0 3))/\w'=wx):=fun wx=>uO i wx
 have C2:Hid (∀wx,Calls Tryz.prog 56 #[S bs] wx fun e w'=>e=.returned (.tuple #[CV (ax bs),.int .i64 (aO bs)])/\iO wx w'):=fun wx=>xk bs wx hb
 have C3:Hid (∀wx,Calls Tryz.prog 57 #[.int .i64 (aO bs)] wx fun e w'=>e=.returned (S (ce (aO bs)))/\iO wx w'):=fun wx=>ir (aO bs) wx (by rcases gZ bs with h|h|h|h<;>omega) (by rcases gZ bs with h|h|h|h<;>omega)
 have HE:Hid (n.ask i bs=if !n.up|| !inI i 0 3 then(n,⟨7,[]⟩)else if aO bs≠0 then(n,⟨4,ce (aO bs)⟩)else if n.r.s=2 then(n,⟨5,[]⟩)else if n.r.s=3 then(n,⟨6,[]⟩)else
  ({n with xs:=((Sr.mk n.xs n.ys n.h).doing i (ax bs)).1.xs,ys:=((Sr.mk n.xs n.ys n.h).doing i (ax bs)).1.ys,h:=((Sr.mk n.xs n.ys n.h).doing i (ax bs)).1.h,c:=if decide (((Sr.mk n.xs n.ys n.h).doing i (ax bs)).2.st=0)&&(ax bs).chg then n.c.mark (ax bs).p else n.c},((Sr.mk n.xs n.ys n.h).doing i (ax bs)).2)):=rfl
 obtain⟨x,hx⟩:=Fe (n.ask i bs)
 rw[<-hx]at HE⊢;clear hx;obtain⟨w1,hw1⟩:=Fe (w.alloc (.cells (anA ⟨0,[]⟩) 44))
 have b1:iO w w1:=by rw[hw1];exact Fc
 have hgw:g≠w.heap.size:=fun e=>by have:=d.nb.st.lt;omega
 have HR:Hid (StB w1 w.heap.size 44 (anA ⟨0,[]⟩)/\iO w w1/\Hs w1 g off t cs a b k q z n):=⟨by rw[hw1];exact StB.new _ _ _,b1,d.below b1⟩
 have HD:Hid (NdR n):=R;clear d b1 R hb;unfold anA S at hw1;unfold CV cmA S at C2;unfold S at C3⊢;go_enter Tryz.func18,Tryz.ntmps18;go_upto_region 1 with fail
 rw[<-hw1];clear hw1;have p1:w1.cell? ⟨g,off+1,none⟩=some (.bool n.up):=HR.out.2.2.nb.cell 1 Fh rfl;cases hu:n.up with
 |false=>
  have HY:Hid (x=(n,⟨7,[]⟩)):=by rw[Hid,HE.out,hu];rfl
  rw[hu]at p1;clear HE hu C1 C2 C3;go_upto_region 2 with fail
  clear p1;go_wp2_with (refine ae GC rfl _ _ rfl w.heap.size (anA ⟨7,[]⟩) (anA ⟨0,[]⟩) rfl rfl rfl rfl (aC _) HR.out.1 ?_;intro w19 s19 g19)
  refine bodyPost_ret (aj GC rfl _ _ w.heap.size _ rfl rfl s19) rfl ?_;rw[HY.out];exact⟨rfl,cs,a,b,k,q,z,HR.out.2.2.put19 HR.out.1 g19,Hop.lists (HR.out.2.1.grown g19 HR.out.2.1.size (fun k e=>by cases e;omega)) (fun _ h=>.inl h)⟩
 |true=>
  rw[hu]at p1;have HU:Hid (n.up=true):=hu;clear hu;go_wp2_with fail
  refine Fd (C1.out w1) ?_;clear C1 p1;cases hi:inI i 0 3 with
  |false=>
   have HY:Hid (x=(n,⟨7,[]⟩)):=by rw[Hid,HE.out,HU.out,hi];rfl
   clear HE C2 C3 hi;go_wp2_with (refine ae GC rfl _ _ rfl w.heap.size (anA ⟨7,[]⟩) (anA ⟨0,[]⟩) rfl rfl rfl rfl (aC _) HR.out.1 ?_;intro w19 s19 g19)
   refine bodyPost_ret (aj GC rfl _ _ w.heap.size _ rfl rfl s19) rfl ?_;rw[HY.out];exact⟨rfl,cs,a,b,k,q,z,HR.out.2.2.put19 HR.out.1 g19,Hop.lists (HR.out.2.1.grown g19 HR.out.2.1.size (fun k e=>by cases e;omega)) (fun _ h=>.inl h)⟩
  |true=>
   replace HE:Hid (x=if aO bs≠0 then(n,⟨4,ce (aO bs)⟩)else if n.r.s=2 then(n,⟨5,[]⟩)else if n.r.s=3 then(n,⟨6,[]⟩)else({n with xs:=((Sr.mk n.xs n.ys n.h).doing i (ax bs)).1.xs,ys:=((Sr.mk n.xs n.ys n.h).doing i (ax bs)).1.ys,h:=((Sr.mk n.xs n.ys n.h).doing i (ax bs)).1.h,c:=if decide (((Sr.mk n.xs n.ys n.h).doing i (ax bs)).2.st=0)&&(ax bs).chg then n.c.mark (ax bs).p else n.c},((Sr.mk n.xs n.ys n.h).doing i (ax bs)).2)):=by rw[Hid,HE.out,HU.out,hi];rfl
   have HI:Hid (inI i 0 3=true):=hi;clear hi;go_wp2_with fail
   refine(C2.out w1).mono ?_;rintro e w2 ⟨rfl,b2⟩;obtain⟨w3,hw3⟩:=Fe (w2.alloc (.cells (cmA (ax bs)) 66))
   have b3:iO w2 w3:=by rw[hw3];exact Fc
   have V:Hid (StB w3 w2.heap.size 66 (cmA (ax bs))/\w.heap.size<w2.heap.size/\g<w2.heap.size):=⟨by rw[hw3];exact StB.new _ _ _,(HR.out.1.below b2).lt,(HR.out.2.2.below b2).nb.st.lt⟩
   replace HR:Hid (StB w3 w.heap.size 44 (anA ⟨0,[]⟩)/\iO w w3/\Hs w3 g off t cs a b k q z n):=⟨(HR.out.1.below b2).below b3,(HR.out.2.1.trans (b2.mono HR.out.2.1.size)).trans (b3.mono (HR.out.2.1.trans (b2.mono HR.out.2.1.size)).size),(HR.out.2.2.below b2).below b3⟩
   unfold cmA at hw3;go_upto_region 4 with fail
   rw[<-hw3];clear hw3 b2 b3 C2;obtain⟨g7,hg7⟩:=Fe w2.heap.size
   rw[<-hg7]at V⊢;clear hg7;obtain⟨cd,hcd⟩:=Fe (aO bs)
   have HC:Hid (cd=aO bs):=hcd;rw[<-hcd]at HE C3⊢;clear hcd;obtain⟨tx,htx⟩:=Fe (ce cd)
   rw[<-htx]at HE C3;clear htx;by_cases hc0:cd=0
   case neg=>
    have HY:Hid (x=(n,⟨4,tx⟩)):=by rw[Hid,HE.out,if_pos hc0]
    clear HE;go_upto_region 5 with fail
    clear hc0;go_wp2_with fail
    refine(C3.out w3).mono ?_;rintro e w4 ⟨rfl,b4⟩;replace HR:Hid (StB w4 w.heap.size 44 (anA ⟨0,[]⟩)/\iO w w4/\Hs w4 g off t cs a b k q z n):=⟨HR.out.1.below b4,HR.out.2.1.trans (b4.mono HR.out.2.1.size),HR.out.2.2.below b4⟩
    clear b4 C3;go_wp2_with (refine ae GC rfl _ _ rfl w.heap.size (anA ⟨4,tx⟩) (anA ⟨0,[]⟩) rfl rfl rfl rfl (aC _) HR.out.1 ?_;intro w19 s19 g19)
    refine bodyPost_ret (aj GC rfl _ _ w.heap.size _ rfl rfl s19) rfl ?_;rw[HY.out];exact⟨rfl,cs,a,b,k,q,z,HR.out.2.2.put19 HR.out.1 g19,Hop.lists (HR.out.2.1.grown g19 HR.out.2.1.size (fun k e=>by cases e;omega)) (fun _ h=>.inl h)⟩
   case pos=>
    replace HE:Hid (x=if n.r.s=2 then(n,⟨5,[]⟩)else if n.r.s=3 then(n,⟨6,[]⟩)else({n with xs:=((Sr.mk n.xs n.ys n.h).doing i (ax bs)).1.xs,ys:=((Sr.mk n.xs n.ys n.h).doing i (ax bs)).1.ys,h:=((Sr.mk n.xs n.ys n.h).doing i (ax bs)).1.h,c:=if decide (((Sr.mk n.xs n.ys n.h).doing i (ax bs)).2.st=0)&&(ax bs).chg then n.c.mark (ax bs).p else n.c},((Sr.mk n.xs n.ys n.h).doing i (ax bs)).2)):=by rw[Hid,HE.out,if_neg (by simp[hc0])]
    clear C3;have p10:w3.cell? ⟨g,off+10,none⟩=some (.int .i64 n.r.s):=HR.out.2.2.nb.cell 10 Fh rfl;by_cases h2:n.r.s=2
    ·have HY:Hid (x=(n,⟨5,[]⟩)):=by rw[Hid,HE.out,if_pos h2]
     rw[h2]at p10;clear HE;go_upto_region 7 with fail
     clear hc0 h2 p10;go_wp2_with (refine ae GC rfl _ _ rfl w.heap.size (anA ⟨5,[]⟩) (anA ⟨0,[]⟩) rfl rfl rfl rfl (aC _) HR.out.1 ?_;intro w19 s19 g19)
     refine bodyPost_ret (aj GC rfl _ _ w.heap.size _ rfl rfl s19) rfl ?_;rw[HY.out];exact⟨rfl,cs,a,b,k,q,z,HR.out.2.2.put19 HR.out.1 g19,Hop.lists (HR.out.2.1.grown g19 HR.out.2.1.size (fun k e=>by cases e;omega)) (fun _ h=>.inl h)⟩
    by_cases h3:n.r.s=3
    ·have HY:Hid (x=(n,⟨6,[]⟩)):=by rw[Hid,HE.out,if_neg h2,if_pos h3]
     rw[h3]at p10;clear HE;go_upto_region 9 with fail
     clear hc0 h2 h3 p10;go_wp2_with (refine ae GC rfl _ _ rfl w.heap.size (anA ⟨6,[]⟩) (anA ⟨0,[]⟩) rfl rfl rfl rfl (aC _) HR.out.1 ?_;intro w19 s19 g19)
     refine bodyPost_ret (aj GC rfl _ _ w.heap.size _ rfl rfl s19) rfl ?_;rw[HY.out];exact⟨rfl,cs,a,b,k,q,z,HR.out.2.2.put19 HR.out.1 g19,Hop.lists (HR.out.2.1.grown g19 HR.out.2.1.size (fun k e=>by cases e;omega)) (fun _ h=>.inl h)⟩
    have HY:Hid (x=({n with xs:=((Sr.mk n.xs n.ys n.h).doing i (ax bs)).1.xs,ys:=((Sr.mk n.xs n.ys n.h).doing i (ax bs)).1.ys,h:=((Sr.mk n.xs n.ys n.h).doing i (ax bs)).1.h,c:=if decide (((Sr.mk n.xs n.ys n.h).doing i (ax bs)).2.st=0)&&(ax bs).chg then n.c.mark (ax bs).p else n.c},((Sr.mk n.xs n.ys n.h).doing i (ax bs)).2)):=by rw[Hid,HE.out,if_neg h2,if_neg h3]
    clear HE;have hci:(ax bs).ok=true:=(jX (HC.out.symm.trans hc0)).1;have hi4:0<=i/\i<4:=by have:=(aE _ _ _).1 HI.out;omega
    have CD:Hid (∀wx u v p,ag wx u n.xs->ag wx v n.ys->ag wx p n.h.ks->Calls Tryz.prog 58 #[SRV u v p n.h,.int .i64 i,CV (ax bs)] wx fun e w'=>∃a b k,e=.returned (.tuple #[SRV a b k ((Sr.mk n.xs n.ys n.h).doing i (ax bs)).1.h,AV ((Sr.mk n.xs n.ys n.h).doing i (ax bs)).2])/\aZ w' wx.heap.size a b k ((Sr.mk n.xs n.ys n.h).doing i (ax bs)).1.xs ((Sr.mk n.xs n.ys n.h).doing i (ax bs)).1.ys ((Sr.mk n.xs n.ys n.h).doing i (ax bs)).1.h.ks/\iO wx w'):=fun wx u v p r1 r2 r3=>xF u v p ⟨n.xs,n.ys,n.h⟩ i (ax bs) wx r1 r2 r3 HD.out.dk HD.out.h hi4.1 hi4.2 hci
    have CG:Hid (∀wx,Calls Tryz.prog 59 #[CV (ax bs)] wx fun e w'=>e=.returned (.bool (ax bs).chg)/\iO wx w'):=fun wx=>Ar (ax bs) wx
    clear hci hi4;obtain⟨c,hc⟩:=Fe (ax bs)
    rw[<-hc]at HY CD CG V;clear hc;obtain⟨d,hd⟩:=Fe ((Sr.mk n.xs n.ys n.h).doing i c)
    rw[<-hd]at HY CD;clear hd;obtain⟨s,an⟩:=d;dsimp only at HY CD;obtain⟨ao,ac,rfl⟩:=aa HR.out.2.2.ow.oa.reads;obtain⟨bo,bc,rfl⟩:=aa HR.out.2.2.ow.ob.reads;obtain⟨ko,kc,rfl⟩:=aa HR.out.2.2.ow.ok.reads;obtain⟨qo,qc,rfl⟩:=aa HR.out.2.2.ow.oq.reads;obtain⟨zo,zc,rfl⟩:=aa HR.out.2.2.ow.oz.reads;unfold SRV AV CV cmA at CD;unfold CV cmA at CG;go_upto_region 10 with fail
    clear hc0 h2 h3 p10;obtain⟨C,hCd⟩:=Fe (fun x=>iO w3 x)
    have HQ:Hid (∀x,C x->iO w3 x):=by rw[hCd];exact fun _ h=>h
    have HN:Hid (∀x y,C x->dQ x y->C y):=by rw[hCd];exact fun _ _ h b=>h.trans (b.mono h.size)
    have H0:Hid (C w3.drew):=by rw[hCd];exact(Below.refl _ _).drew
    have hne:Nonempty (Kin C):=⟨⟨_,H0.out⟩⟩
    clear hCd;have m2:∀q:Kin C,q.x.cell? ⟨g,off+2,none⟩=some (.slice ao n.xs.length ac):=fun q=>aJ (HR.out.2.2.nb.cell 2 Fh rfl) (HQ.out _ q.h)
    have m3:∀q:Kin C,q.x.cell? ⟨g,off+3,none⟩=some (.slice bo n.ys.length bc):=fun q=>aJ (HR.out.2.2.nb.cell 3 Fh rfl) (HQ.out _ q.h)
    have m4:∀q:Kin C,q.x.cell? ⟨g,off+4,none⟩=some (.slice ko n.h.ks.length kc):=fun q=>aJ (HR.out.2.2.nb.cell 4 Fh rfl) (HQ.out _ q.h)
    have m5:∀q:Kin C,q.x.cell? ⟨g,off+5,none⟩=some (.int .i64 n.h.kd):=fun q=>aJ (HR.out.2.2.nb.cell 5 Fh rfl) (HQ.out _ q.h)
    have m6:∀q:Kin C,q.x.cell? ⟨g,off+6,none⟩=some (.int .i64 n.h.ho):=fun q=>aJ (HR.out.2.2.nb.cell 6 Fh rfl) (HQ.out _ q.h)
    have m7:∀q:Kin C,q.x.cell? ⟨g,off+7,none⟩=some (.int .i64 n.h.tu):=fun q=>aJ (HR.out.2.2.nb.cell 7 Fh rfl) (HQ.out _ q.h)
    refine eY (C:=C) (E:=iN fun d=>if d=61 then some (tf w3.heap.size s an)else if d=9 then some (alG w3.heap.size 96 zeR)else if d=10 then some (alG w3.heap.size 44 (anA ⟨0,[]⟩))else none) (R:=dQ) HN.out (dY (by intro d s hs u x y hx hl;split at hs;(cases hs;exact nQ hx hl);split at hs;(cases hs;exact jq hx hl);split at hs;(cases hs;exact jq hx hl);cases hs)) 14 _ _ (dZ _ _) Fi Fi Fi Fi Fg Fg rfl rfl rfl rfl rfl rfl (fun _=>rfl) (fun a v=>execOp_put (ops:=#[]) _ (by intro cs b h;cases h) a _ v (by intro d hd;cases hd;decide)) H0.out ?_;iterate 8 (refine eP rfl (fun K hK=>?_);go_simp;refine hK _ ?_;clear hK K)
    refine AD rfl rfl 96 #[(0,.tmp 53),(1,.tmp 57)] rfl #[.slice ao n.xs.length ac,.slice bo n.ys.length bc,.slice ko n.h.ks.length kc,.int .i64 n.h.kd,.int .i64 n.h.ho,.int .i64 n.h.tu] ?_ ?_
    ·simp[Act.eval]
     exact tg _ _ _ _ _ _
    iterate 1 (refine eP rfl (fun K hK=>?_);go_simp;refine hK _ ?_;clear hK K)
    refine dz nP rfl Fj _ rfl g7 rfl (cmA c) rfl (fun y=>V.out.1.below (HQ.out _ y.h)) ?_;refine fp (tf w3.heap.size s an) rfl Fj (fun wq hB=>?_) (fun uq hu=>?_)
    ·go_simp
     refine⟨rfl,?_⟩;have O:=(HR.out.2.2.below (HQ.out _ hB.1)).ow;exact xX (HQ.out _ hB.1).size (CD.out _ _ _ _ O.oa.reads O.ob.reads O.ok.reads)
    obtain⟨a1,a2,b1,b2,k1,k2,rfl⟩:=hu;iterate 3 (refine eP rfl (fun K hK=>?_);go_simp;refine hK _ ?_;clear hK K)
    refine fp (alG w3.heap.size 96 zeR) rfl Fj (fun wq hB=>?_) (fun uq hu=>?_)
    ·go_simp
     exact rI (HQ.out _ hB.1).size
    obtain⟨g8,rfl⟩:=hu;refine fp (alG w3.heap.size 44 (anA ⟨0,[]⟩)) rfl Fj (fun wq hB=>?_) (fun uq hu=>?_)
    ·go_simp
     exact rI (HQ.out _ hB.1).size
    obtain⟨g9,rfl⟩:=hu;refine i8 (fun w4 hz=>?_);have bz:=HQ.out _ hz.1;have q9:=hz.2 _ (List.mem_cons_self ..) g9 rfl;have q8:=hz.2 _ (List.mem_cons_of_mem _ (List.mem_cons_self ..)) g8 rfl;have qd:=hz.2 _ (List.mem_cons_of_mem _ (List.mem_cons_of_mem _ (List.mem_cons_self ..))) _ _ _ _ _ _ _ rfl;refine gC GP _ _ rfl g8 (srA (.slice a1 s.xs.length a2) (.slice b1 s.ys.length b2) (.slice k1 s.h.ks.length k2) s.h) zeR rfl rfl rfl rfl (ee s.h rfl rfl rfl) q8.1 ?_;intro w5 s5 g5;refine⟨trivial,?_⟩;refine fH GC rfl rfl _ _ rfl g9 (anA an) (anA ⟨0,[]⟩) rfl rfl rfl rfl (aC _) (q9.1.keptT q8.1 g5 Fh) ?_;intro w6 s6 g6;have hlt:w.heap.size<w3.heap.size:=HR.out.1.lt;have hgl:g<w3.heap.size:=HR.out.2.2.nb.st.lt;have h7l:g7<w3.heap.size:=V.out.1.lt;have G5:w4.grownBy w5 (some g8):=g5;have B6:iO w3 w6:=(bz.grown g5 bz.size (fun k e=>by cases e;exact q8.2)).grown g6 (Nat.le_trans bz.size g5.size) (fun k e=>by cases e;exact q9.2);have V6:Hid (StB w6 g8 96 (srA (.slice a1 s.xs.length a2) (.slice b1 s.ys.length b2) (.slice k1 s.h.ks.length k2) s.h)/\StB w6 g9 44 (anA an)/\StB w6 g7 66 (cmA c)/\g8≠g/\g9≠g/\g7≠g/\g8≠w.heap.size/\g9≠w.heap.size/\w.heap.size≠g):=⟨s5.keptT (q9.1.keptT q8.1 g5 Fh) g6 Fh,s6,V.out.1.below B6,by have:=q8.2;omega,by have:=q9.2;omega,by have:=V.out.2.2;omega,by have:=q8.2;omega,by have:=q9.2;omega,by have h5:=HR.out.1;have h6:=HR.out.2.2.nb;intro e;rw[e]at h5;unfold StB at h5;have h8:=h6.st;unfold StB at h8;rw[h5]at h8;simp only[Option.some.injEq,Obj.cells.injEq]at h8;have h9:=h6.sz;rw[<-h8.1]at h9;have h10:(anA ⟨0,[]⟩).size=2:=rfl;omega⟩
    have O6:Hid (aZ w6 w3.heap.size (.slice a1 s.xs.length a2) (.slice b1 s.ys.length b2) (.slice k1 s.h.ks.length k2) s.xs s.ys s.h.ks):=(qd.putT q8.1 Fh g5).putT (q9.1.keptT q8.1 g5 Fh) Fh g6;have HR6:Hid (StB w6 w.heap.size 44 (anA ⟨0,[]⟩)/\iO w w6/\NdB w6 g off t cs (.slice ao n.xs.length ac) (.slice bo n.ys.length bc) (.slice ko n.h.ks.length kc) (.slice qo n.c.ts.length qc) (.slice zo n.s.ts.length zc) n/\t≠2/\cG w6 0 (.slice a1 s.xs.length a2) (.slice b1 s.ys.length b2) (.slice k1 s.h.ks.length k2) (.slice qo n.c.ts.length qc) (.slice zo n.s.ts.length zc) {n with xs:=s.xs,ys:=s.ys,h:=s.h}/\Hop w w6 g off cs cs (dE (.slice ao n.xs.length ac) (.slice bo n.ys.length bc) (.slice ko n.h.ks.length kc) (.slice qo n.c.ts.length qc) (.slice zo n.s.ts.length zc)) (dE (.slice a1 s.xs.length a2) (.slice b1 s.ys.length b2) (.slice k1 s.h.ks.length k2) (.slice qo n.c.ts.length qc) (.slice zo n.s.ts.length zc))):=⟨HR.out.1.below B6,HR.out.2.1.trans (B6.mono HR.out.2.1.size),(HR.out.2.2.below B6).nb,HR.out.2.2.ty,HR.out.2.2.ow.did B6 O6.out,Hop.lists (HR.out.2.1.trans (B6.mono HR.out.2.1.size)) (fun x hx=>by rcases AH (a:=.slice ao n.xs.length ac) (b:=.slice bo n.ys.length bc) (k:=.slice ko n.h.ks.length kc) O6.out x hx with h|h;exact .inl h;exact .inr Ff)⟩
    clear s5 s6 g5 g6 qd q8 q9 bz hz hlt hgl h7l HQ HN H0 hne CD HR V B6 G5 O6 m2 m3 m4 m5 m6 m7;obtain⟨w7,hw7⟩:=Fe w6
    have v0:w6.cell? ⟨g8,0,none⟩=some (.slice a1 s.xs.length a2):=V6.out.1.cell 0 rfl;have v1:w6.cell? ⟨g8,1,none⟩=some (.slice b1 s.ys.length b2):=V6.out.1.cell 1 rfl;have v2:w6.cell? ⟨g8,2,none⟩=some (.slice k1 s.h.ks.length k2):=V6.out.1.cell 2 rfl;have v3:w6.cell? ⟨g8,3,none⟩=some (.int .i64 s.h.kd):=V6.out.1.cell 3 rfl;have v4:w6.cell? ⟨g8,4,none⟩=some (.int .i64 s.h.ho):=V6.out.1.cell 4 rfl;have v5:w6.cell? ⟨g8,5,none⟩=some (.int .i64 s.h.tu):=V6.out.1.cell 5 rfl;have p2:w6.cell? ⟨g,off+2,none⟩=some (.slice ao n.xs.length ac):=HR6.out.2.2.1.cell 2 Fh rfl;have p3:w6.cell? ⟨g,off+3,none⟩=some (.slice bo n.ys.length bc):=HR6.out.2.2.1.cell 3 Fh rfl;have p4:w6.cell? ⟨g,off+4,none⟩=some (.slice ko n.h.ks.length kc):=HR6.out.2.2.1.cell 4 Fh rfl;have p5:w6.cell? ⟨g,off+5,none⟩=some (.int .i64 n.h.kd):=HR6.out.2.2.1.cell 5 Fh rfl;have p6:w6.cell? ⟨g,off+6,none⟩=some (.int .i64 n.h.ho):=HR6.out.2.2.1.cell 6 Fh rfl;have p7:w6.cell? ⟨g,off+7,none⟩=some (.int .i64 n.h.tu):=HR6.out.2.2.1.cell 7 Fh rfl;have f2:=HR6.out.2.2.1.frozen 2;have f3:=HR6.out.2.2.1.frozen 3;have f4:=HR6.out.2.2.1.frozen 4;have f5:=HR6.out.2.2.1.frozen 5;have f6:=HR6.out.2.2.1.frozen 6;have f7:=HR6.out.2.2.1.frozen 7;have n1:¬g8=g:=V6.out.2.2.2.1;have n2:¬g=g8:=fun e=>n1 e.symm
    obtain⟨cs7,H7,P7⟩:=Hs.puts (a':=.slice a1 s.xs.length a2) (b':=.slice b1 s.ys.length b2) (k':=.slice k1 s.h.ks.length k2) (q':=.slice qo n.c.ts.length qc) (z':=.slice zo n.s.ts.length zc) (n':={n with xs:=s.xs,ys:=s.ys,h:=s.h}) HR6.out.2.2.1 HR6.out.2.2.2.1 [(2,.slice a1 s.xs.length a2),(3,.slice b1 s.ys.length b2),(4,.slice k1 s.h.ks.length k2),(5,.int .i64 s.h.kd),(6,.int .i64 s.h.ho),(7,.int .i64 s.h.tu)] Fg rfl HR6.out.2.2.2.2.1;obtain⟨w8,hw8⟩:=Fe ((((((w6.setCell ⟨g,off+2,none⟩ (.slice a1 s.xs.length a2)).setCell ⟨g,off+3,none⟩ (.slice b1 s.ys.length b2)).setCell ⟨g,off+4,none⟩ (.slice k1 s.h.ks.length k2)).setCell ⟨g,off+5,none⟩ (.int .i64 s.h.kd)).setCell ⟨g,off+6,none⟩ (.int .i64 s.h.ho)).setCell ⟨g,off+7,none⟩ (.int .i64 s.h.tu))
    have T8:aw w6 w8 [g]:=by
     rw[hw8];exact((((((aw.of_grown (ai w6 g (off+2) _)).sub Fg).then ((aw.of_grown (ai _ g (off+3) _)).sub Fg)).then ((aw.of_grown (ai _ g (off+4) _)).sub Fg)).then ((aw.of_grown (ai _ g (off+5) _)).sub Fg)).then ((aw.of_grown (ai _ g (off+6) _)).sub Fg)).then ((aw.of_grown (ai _ g (off+7) _)).sub Fg)
    have H8:Hid (StB w8 w.heap.size 44 (anA ⟨0,[]⟩)/\StB w8 g9 44 (anA an)/\StB w8 g7 66 (cmA c)/\Hs w8 g off t cs7 (.slice a1 s.xs.length a2) (.slice b1 s.ys.length b2) (.slice k1 s.h.ks.length k2) (.slice qo n.c.ts.length qc) (.slice zo n.s.ts.length zc) {n with xs:=s.xs,ys:=s.ys,h:=s.h}/\Hop w w8 g off cs cs7 (dE (.slice ao n.xs.length ac) (.slice bo n.ys.length bc) (.slice ko n.h.ks.length kc) (.slice qo n.c.ts.length qc) (.slice zo n.s.ts.length zc)) (dE (.slice a1 s.xs.length a2) (.slice b1 s.ys.length b2) (.slice k1 s.h.ks.length k2) (.slice qo n.c.ts.length qc) (.slice zo n.s.ts.length zc))/\g9≠g/\g≠w.heap.size/\g9≠w.heap.size):=⟨HR6.out.1.turned T8 (by simpa using V6.out.2.2.2.2.2.2.2.2),V6.out.2.1.turned T8 (by simpa using V6.out.2.2.2.2.1),V6.out.2.2.1.turned T8 (by simpa using V6.out.2.2.2.2.2.1),by rw[hw8];exact H7,by rw[hw8];exact HR6.out.2.2.2.2.2.trans (P7 _),V6.out.2.2.2.2.1,fun e=>V6.out.2.2.2.2.2.2.2.2 e.symm,V6.out.2.2.2.2.2.2.2.1⟩
    clear T8 H7 P7 hw7 w7;go_upto_region 13 with fail
    rw[<-hw8];clear hw8 v0 v1 v2 v3 v4 v5 p2 p3 p4 p5 p6 p7 f2 f3 f4 f5 f6 f7 n1 n2 V6 HR6;have y0:w8.cell? ⟨g9,0,none⟩=some (.int .i64 an.st):=H8.out.2.1.cell 0 rfl;have y1:w8.cell? ⟨g9,1,none⟩=some (S an.tx):=H8.out.2.1.cell 1 rfl;unfold S at y1;by_cases hst:an.st=0
    case neg=>
     have HZ:Hid (x=({n with xs:=s.xs,ys:=s.ys,h:=s.h},an)):=by show x=_;rw[HY.out,if_neg (by simp[hst])]
     clear HY;go_upto_region 15 with fail
     clear hst y0 y1;have y0:w8.cell? ⟨g9,0,none⟩=some (.int .i64 an.st):=H8.out.2.1.cell 0 rfl;go_wp2_with (first|(refine ah GC rfl _ rfl g9 rfl (anA an) rfl H8.out.2.1 ?_)|(refine ae GC rfl _ _ rfl w.heap.size (anA an) (anA ⟨0,[]⟩) rfl rfl rfl rfl (aC _) H8.out.1 ?_;intro w19 s19 g19))
     refine bodyPost_ret (aj GC rfl _ _ w.heap.size _ rfl rfl s19) rfl ?_;rw[HZ.out];exact⟨rfl,cs7,_,_,_,_,_,H8.out.2.2.2.1.put19 H8.out.1 g19 H8.out.2.2.2.2.2.2.1,H8.out.2.2.2.2.1.putNew g19 (Nat.le_refl _)⟩
    case pos=>
     rw[hst]at y0;go_wp2_with (first|(refine ah nP rfl _ rfl g7 rfl (cmA c) rfl H8.out.2.2.1 ?_)|(refine aD nP rfl _ rfl g7 rfl (cmA c) rfl H8.out.2.2.1 ?_))
     refine(CG.out w8).mono ?_;rintro e w9 ⟨rfl,b9⟩;replace H8:Hid (StB w9 w.heap.size 44 (anA ⟨0,[]⟩)/\StB w9 g9 44 (anA an)/\StB w9 g7 66 (cmA c)/\Hs w9 g off t cs7 (.slice a1 s.xs.length a2) (.slice b1 s.ys.length b2) (.slice k1 s.h.ks.length k2) (.slice qo n.c.ts.length qc) (.slice zo n.s.ts.length zc) {n with xs:=s.xs,ys:=s.ys,h:=s.h}/\Hop w w9 g off cs cs7 (dE (.slice ao n.xs.length ac) (.slice bo n.ys.length bc) (.slice ko n.h.ks.length kc) (.slice qo n.c.ts.length qc) (.slice zo n.s.ts.length zc)) (dE (.slice a1 s.xs.length a2) (.slice b1 s.ys.length b2) (.slice k1 s.h.ks.length k2) (.slice qo n.c.ts.length qc) (.slice zo n.s.ts.length zc))/\g9≠g/\g≠w.heap.size/\g9≠w.heap.size):=⟨H8.out.1.below b9,H8.out.2.1.below b9,H8.out.2.2.1.below b9,H8.out.2.2.2.1.below b9,H8.out.2.2.2.2.1.below b9,H8.out.2.2.2.2.2⟩
     clear b9 y0 y1 CG;cases hch:c.chg with
     |false=>
      have HZ:Hid (x=({n with xs:=s.xs,ys:=s.ys,h:=s.h},an)):=by show x=_;rw[HY.out,if_neg (by simp[hch])]
      clear HY;go_upto_region 15 with fail
      clear hst hch;have y0:w9.cell? ⟨g9,0,none⟩=some (.int .i64 an.st):=H8.out.2.1.cell 0 rfl;go_wp2_with (first|(refine ah GC rfl _ rfl g9 rfl (anA an) rfl H8.out.2.1 ?_)|(refine ae GC rfl _ _ rfl w.heap.size (anA an) (anA ⟨0,[]⟩) rfl rfl rfl rfl (aC _) H8.out.1 ?_;intro w19 s19 g19))
      refine bodyPost_ret (aj GC rfl _ _ w.heap.size _ rfl rfl s19) rfl ?_;rw[HZ.out];exact⟨rfl,cs7,_,_,_,_,_,H8.out.2.2.2.1.put19 H8.out.1 g19 H8.out.2.2.2.2.2.2.1,H8.out.2.2.2.2.1.putNew g19 (Nat.le_refl _)⟩
     |true=>
      have HZ:Hid (x=({n with xs:=s.xs,ys:=s.ys,h:=s.h,c:=n.c.mark c.p},an)):=by show x=_;rw[HY.out,if_pos (by simp[hch,hst])]
      clear HY hst hch;have c1:w9.cell? ⟨g7,1,none⟩=some (.int .i64 c.p):=H8.out.2.2.1.cell 1 rfl;have CM:Hid (∀wx,CpB wx g (off+13) t cs7 (.slice qo n.c.ts.length qc) n.c->Calls Tryz.prog 60 #[.pointer (some ⟨g,off+13,none⟩),.int .i64 c.p] wx fun e w'=>e=.returned (.tuple #[])/\CpB w' g (off+13) t (fj cs7 (off+13) (n.c.mark c.p).di (n.c.mark c.p).wa) (.slice qo n.c.ts.length qc) (n.c.mark c.p)/\aw wx w' (g::(Value.slice qo n.c.ts.length qc).ownBlock.toList)):=fun wx h=>yD g (off+13) t cs7 _ n.c c.p wx h
      have c1d:w9.drew.cell? ⟨g7,1,none⟩=some (.int .i64 c.p):=c1;go_upto_region 14 with fail
      go_region_with (go_at_call 60;refine(CM.out _ (H8.out.2.2.2.1.cop.below (Below.refl _ _).drew)).mono ?_;rintro e w10 ⟨rfl,k10,t10⟩)
      all_goals
       have D10:=(H8.out.2.2.2.1.below (Below.refl _ _).drew).cp k10 t10;have e17:(n.c.mark c.p).ts.length=n.c.ts.length:=by unfold Cp.mark;split<;>rfl
       have H10:Hid (StB w10 w.heap.size 44 (anA ⟨0,[]⟩)/\StB w10 g9 44 (anA an)/\True/\Hs w10 g off t (fj cs7 (off+13) (n.c.mark c.p).di (n.c.mark c.p).wa) (.slice a1 s.xs.length a2) (.slice b1 s.ys.length b2) (.slice k1 s.h.ks.length k2) (.slice qo n.c.ts.length qc) (.slice zo n.s.ts.length zc) {n with xs:=s.xs,ys:=s.ys,h:=s.h,c:=n.c.mark c.p}/\Hop w w10 g off cs (fj cs7 (off+13) (n.c.mark c.p).di (n.c.mark c.p).wa) (dE (.slice ao n.xs.length ac) (.slice bo n.ys.length bc) (.slice ko n.h.ks.length kc) (.slice qo n.c.ts.length qc) (.slice zo n.s.ts.length zc)) (dE (.slice a1 s.xs.length a2) (.slice b1 s.ys.length b2) (.slice k1 s.h.ks.length k2) (.slice qo n.c.ts.length qc) (.slice zo n.s.ts.length zc))/\g9≠g/\g≠w.heap.size/\g9≠w.heap.size):=⟨((H8.out.1.below (Below.refl _ _).drew).turnedO H8.out.2.2.2.1.ow.oq t10 (fun e=>H8.out.2.2.2.2.2.2.1 e.symm) Fh),((H8.out.2.1.below (Below.refl _ _).drew).turnedO H8.out.2.2.2.1.ow.oq t10 H8.out.2.2.2.2.2.1 Fh),trivial,D10.1,(H8.out.2.2.2.2.1.below (Below.refl _ _).drew).trans D10.2,H8.out.2.2.2.2.2⟩
       clear H8 c1 c1d CM k10 t10 D10 e17;have y0:w10.cell? ⟨g9,0,none⟩=some (.int .i64 an.st):=H10.out.2.1.cell 0 rfl;go_wp2_with (first|(refine ah GC rfl _ rfl g9 rfl (anA an) rfl H10.out.2.1 ?_)|(refine ae GC rfl _ _ rfl w.heap.size (anA an) (anA ⟨0,[]⟩) rfl rfl rfl rfl (aC _) H10.out.1 ?_;intro w19 s19 g19))
       refine bodyPost_ret (aj GC rfl _ _ w.heap.size _ rfl rfl s19) rfl ?_;rw[HZ.out];exact⟨rfl,_,_,_,_,_,_,H10.out.2.2.2.1.put19 H10.out.1 g19 H10.out.2.2.2.2.2.2.1,H10.out.2.2.2.2.1.putNew g19 (Nat.le_refl _)⟩
end Go.Proofs.YthldeiojlllkdaaGreatDoor
