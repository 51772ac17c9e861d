import Derived.Test.YtpdggofaobmnlaaGreatDoorCmOk
import Derived.Test.YtpdggofaobmnlaaGreatDoorM8
import Derived.Test.YtpdggofaobmnlaaGreatDoorSVol2
import Derived.Test.YtpdggofaobmnlaaGreatDoorSDisk3
import Derived.Test.YtpdggofaobmnlaaGreatDoorSStore4
/- The model's commands that read and those that write: Reads, Writes. -/
set_option maxRecDepth 20000
set_option maxHeartbeats 2000000
namespace Go.Proofs.YtpdggofaobmnlaaGreatDoor
open Go.ChangeShapes Go.WideShapes Go.ChangeAt Go.RowKit
end Go.Proofs.YtpdggofaobmnlaaGreatDoor
namespace Go.Proofs.YtpdggofaobmnlaaGreatDoor
open Go.ChangeShapes Go.WideShapes Go.ChangeAt Go.RowKit
theorem drew_cell {w:World} {a:Addr} {v:Value} (h:w.cell? a=some v):w.drew.cell? a=some v:=h
theorem didI_range {xs ys:List Int} {c:Cm} (h5:c.o≠5) (h:rangeI ys c=true):didI xs ys c=(xs,ys,⟨1,[]⟩):=by simp[didI,h5,h]
theorem sdid_any (u v:Value) (xs ys:List Int) (c:Cm) (w:World) (h:Reads w u xs) (h':Reads w v ys) (hb:bothOk xs ys=true) (hc:c.ok=true) (h5:c.o≤5):
  Calls Tryz.prog 89 #[.agg #[u,v],CV c] w fun e w'=>∃a b,e=.returned (.tuple #[.agg #[a,b],AV (didI xs ys c).2.2])∧OwnD w' w.heap.size a b (didI xs ys c).1 (didI xs ys c).2.1∧Below w.heap.size w w':=by
 obtain⟨ho,hp0⟩:=Cm.ok_vol hc h5
 obtain⟨o,p,x,y,k0⟩:=c
 dsimp only at ho hp0
 by_cases e5:o=5
 ·subst e5
  have e:didI xs ys ⟨5,p,x,y,k0⟩=(ys,ys,⟨0,[]⟩):=by simp[didI]
  rw[e]
  exact s11sync_any u v xs ys p x y k0 w h h' hb
 ·by_cases hf:(ys.length:Int)≤p
  ·rw[didI_range (by exact e5) (by simp[rangeI,hf])]
   exact s11far_any u v xs ys o p x y k0 w h h' hb (by simpa using e5) hf
  ·obtain⟨j,rfl⟩:∃j:Nat,p=(j:Int):=⟨p.toNat,by omega⟩
   have hj:(j:Int)<(ys.length:Int):=by omega
   have hjt:((j:Int)).toNat=j:=by omega
   rcases ho with rfl|rfl|rfl|rfl|rfl
   ·have e:didI xs ys ⟨1,j,x,y,k0⟩=(xs,ys,⟨0,decI (ys.getD j 0)⟩):=by
     have:rangeI ys ⟨1,j,x,y,k0⟩=false:=by simp[rangeI];omega
     simp[didI,this,atI]
    rw[e]
    exact s11read_any u v xs ys j x y k0 w h h' hb hj
   ·cases hv:valOk x with
    |false=>
     rw[didI_range (by simp) (by simp[rangeI,hv])]
     exact s11wide2_any u v xs ys j x y k0 w h h' hb hj hv
    |true=>
     have e:didI xs ys ⟨2,j,x,y,k0⟩=(xs,ys.set j x,⟨0,[]⟩):=by
      have:rangeI ys ⟨2,j,x,y,k0⟩=false:=by simp[rangeI,hv];omega
      simp[didI,this]
     rw[e]
     exact s11write_any u v xs ys j x y k0 w h h' hb hj hv
   ·cases hv:valOk y with
    |false=>
     rw[didI_range (by simp) (by simp[rangeI,hv])]
     exact s11wide3_any u v xs ys j x y k0 w h h' hb hj hv
    |true=>
     have hr:rangeI ys ⟨3,j,x,y,k0⟩=false:=by simp[rangeI,hv];omega
     by_cases he:ys.getD j 0=x
     ·have e:didI xs ys ⟨3,j,x,y,k0⟩=(xs,ys.set j y,⟨0,[]⟩):=by
       unfold didI atI
       dsimp only
       rw[if_neg (by decide),hr,hjt,he]
       simp
      rw[e]
      exact s11swap_any u v xs ys j x y k0 w h h' hb hj hv he
     ·have e:didI xs ys ⟨3,j,x,y,k0⟩=(xs,ys,⟨2,decI (ys.getD j 0)⟩):=by
       unfold didI atI
       dsimp only
       rw[if_neg (by decide),hr,hjt,if_neg he]
       simp
      rw[e]
      exact s11unlike_any u v xs ys j x y k0 w h h' hb hj hv he
   ·have e:didI xs ys ⟨4,j,x,y,k0⟩=(xs,ys.set j 0,⟨0,[]⟩):=by
     have:rangeI ys ⟨4,j,x,y,k0⟩=false:=by simp[rangeI];omega
     simp[didI,this]
    rw[e]
    exact s11unmap_any u v xs ys j x y k0 w h h' hb hj
   ·exact absurd rfl e5
theorem eqAnswer_self (x:An) (w:World):
  Calls Tryz.prog 24 #[AV x,AV x] w fun e w'=>e=.returned (.bool true)∧Below w.heap.size w w':=by
 obtain⟨st,tx⟩:=x
 have hb:Hid (Below w.heap.size w ((w.alloc (.cells (anA ⟨st,tx⟩) 36)).alloc (.cells (anA ⟨st,tx⟩) 36))):=((Below.refl _ _).alloc (Nat.le_refl _) _).alloc (by simp) _
 have e1:(st !=st)=false:=by simp
 have e2:(tx==tx)=true:=by simp
 unfold AV anA S at*
 dsimp only at*
 go_enter Tryz.func24,Tryz.ntmps24
 go_wp2
 go_ret
 exact⟨rfl,hb.out⟩
end Go.Proofs.YtpdggofaobmnlaaGreatDoor
namespace Go.Proofs.YtpdggofaobmnlaaGreatDoor
open Go.ChangeShapes Go.WideShapes Go.ChangeAt Go.RowKit
theorem s12did_yes (u v q:Value) (xs ys:List Int) (h:Hd) (i:Int) (c:Cm) (w:World) (hu:Reads w u xs) (hv:Reads w v ys) (hq:Reads w q h.ks) (hb:bothOk xs ys=true) (ok:h.ok=true) (i0:0≤i) (i1:i<4) (hc:c.ok=true) (h5:c.o≤5) (hm:h.may i (decide (c.o≠1))=true):
  Calls Tryz.prog 40 #[SRV u v q h,.int .i64 i,CV c] w fun e w'=>∃a b k,e=.returned (.tuple #[SRV a b k h,AV (didI xs ys c).2.2])∧OwnR w' w.heap.size a b k (didI xs ys c).1 (didI xs ys c).2.1 (h).ks∧Below w.heap.size w w':=by
 have nx:xs.length≤8∧ys.length≤8:=by
  obtain⟨k1,k2, -⟩:=bothOk_yes' hb
  exact⟨(blocksOk_len k1).2,(blocksOk_len k2).2⟩
 have hl:=(Hd.ok_all ok).1
 obtain⟨w1,hw1⟩:∃w1,w1=(((w.alloc (.cells (srA u v q h) 30)).alloc (.cells #[.int .i64 c.o,.int .i64 c.p,.int .i64 c.a,.int .i64 c.b,.int .i64 c.k] 32)).alloc (.cells #[.slice none 0 0,.slice none 0 0,.slice none 0 0,.int .i64 0,.int .i64 0,.int .i64 0] 30)).alloc (.cells #[.int .i64 0,.string ⟨#[]⟩] 36):=⟨_,rfl⟩
 have HV:Hid (Ds w w1 u v q h c):=by rw[hw1];exact Ds.start w u v q h c
 have c1:=s12copy_any u v q xs ys h w1 (hu.below HV.out.bl (Nat.le_refl _)) (hv.below HV.out.bl (Nat.le_refl _)) (hq.below HV.out.bl (Nat.le_refl _)) (by omega) (by omega) (by omega)
 have HX:Hid (Reads w u xs∧Reads w v ys∧Reads w q h.ks∧bothOk xs ys=true∧h.ok=true∧h.ks.length=4):=⟨hu,hv,hq,hb,ok,hl⟩
 obtain⟨uo,uc,rfl⟩:=reads_form hu
 obtain⟨vo,vc,rfl⟩:=reads_form hv
 obtain⟨qo,qc,rfl⟩:=reads_form hq
 clear hu hv hq hb ok hl nx
 unfold srA at hw1
 unfold SRV at c1
 unfold SRV CV cmA
 conv in srA (.slice uo xs.length uc) (.slice vo ys.length vc) (.slice qo h.ks.length qc) _=>unfold srA
 go_enter Tryz.func40,Tryz.ntmps40
 go_upto_region 1 with fail
 rw[←hw1]
 clear hw1
 go_wp2_with (refine wpList_getS Tryz.isR rfl _ rfl w.heap.size rfl _ rfl HV.out.st ?_)
 refine c1.mono ?_
 rintro e w2 ⟨a,b,k,rfl,o2,b2⟩
 obtain⟨ao,ac,rfl⟩:=o2.1.1.reads.form
 obtain⟨bo,bc,rfl⟩:=o2.1.2.1.reads.form
 obtain⟨ko,kc,rfl⟩:=o2.2.1.reads.form
 have H2:Hid (Ds w w2 (.slice uo xs.length uc) (.slice vo ys.length vc) (.slice qo h.ks.length qc) h c∧OwnR w2 (w.heap.size+4) (.slice ao xs.length ac) (.slice bo ys.length bc) (.slice ko h.ks.length kc) xs ys h.ks):=⟨HV.out.next b2,o2.mono HV.out.sz⟩
 clear c1 o2 b2 HV
 obtain⟨w3,hw3⟩:∃w3,w3=w2.alloc (.cells #[.slice ao xs.length ac,.slice bo ys.length bc,.slice ko h.ks.length kc,.int .i64 h.kd,.int .i64 h.ho,.int .i64 h.tu] 30):=⟨_,rfl⟩
 have H3:Hid (Ds w w3 (.slice uo xs.length uc) (.slice vo ys.length vc) (.slice qo h.ks.length qc) h c∧OwnR w3 (w.heap.size+4) (.slice ao xs.length ac) (.slice bo ys.length bc) (.slice ko h.ks.length kc) xs ys h.ks∧StB w3 w2.heap.size 30 (srA (.slice ao xs.length ac) (.slice bo ys.length bc) (.slice ko h.ks.length kc) h)∧w.heap.size+4≤w2.heap.size):=by
  have b3:Below w2.heap.size w2 w3:=by rw[hw3];exact(Below.refl _ _).alloc (Nat.le_refl _) _
  exact⟨H2.out.1.next b3,H2.out.2.below b3,by rw[hw3];exact StB.new _ _ _,H2.out.1.sz⟩
 have NE:Hid ((Value.slice ao xs.length ac).ownBlock≠some w2.heap.size∧(Value.slice bo ys.length bc).ownBlock≠some w2.heap.size∧(Value.slice ko h.ks.length kc).ownBlock≠some w2.heap.size):=H2.out.2.ne (Nat.le_refl _)
 conv in srA _ _ (.slice ko _ _) _=>unfold srA
 go_upto_region 2 with fail
 rw[←hw3]
 clear hw3 H2
 obtain⟨g,hg⟩:∃g,g=w2.heap.size:=⟨_,rfl⟩
 rw[←hg]at H3 NE⊢
 clear hg
 have m0:w3.cell? ⟨w.heap.size+1,0,none⟩=some (.int .i64 c.o):=H3.out.1.cm.cell 0 rfl
 have hc0:w3.cell? ⟨w.heap.size,2,none⟩=some (.slice qo h.ks.length qc):=H3.out.1.st.cell 2 rfl
 have hc1:w3.cell? ⟨w.heap.size,3,none⟩=some (.int .i64 h.kd):=H3.out.1.st.cell 3 rfl
 have hc2:w3.cell? ⟨w.heap.size,4,none⟩=some (.int .i64 h.ho):=H3.out.1.st.cell 4 rfl
 have hc3:w3.cell? ⟨w.heap.size,5,none⟩=some (.int .i64 h.tu):=H3.out.1.st.cell 5 rfl
 have c2:=s8may_any (.slice qo h.ks.length qc) h i (decide (c.o≠1)) w3 (HX.out.2.2.1.below H3.out.1.bl (Nat.le_refl _)) i0 (by have:=HX.out.2.2.2.2.2;omega)
 rw[hm]at c2
 unfold HV hdA at c2
 obtain⟨bo1,hbo1⟩:∃bo1,bo1=decide (c.o≠1):=⟨_,rfl⟩
 rw[←hbo1]at c2
 have hneq:(c.o !=1)=bo1:=by rw[hbo1];by_cases e:c.o=1<;>simp[e]
 clear hbo1 hm i0 i1
 go_wp2_with fail
 refine c2.mono ?_
 rintro e w4 ⟨rfl,b4⟩
 have H4:Hid (Ds w w4 (.slice uo xs.length uc) (.slice vo ys.length vc) (.slice qo h.ks.length qc) h c∧OwnR w4 (w.heap.size+4) (.slice ao xs.length ac) (.slice bo ys.length bc) (.slice ko h.ks.length kc) xs ys h.ks∧StB w4 g 30 (srA (.slice ao xs.length ac) (.slice bo ys.length bc) (.slice ko h.ks.length kc) h)∧w.heap.size+4≤g):=⟨H3.out.1.next b4,H3.out.2.1.below b4,H3.out.2.2.1.below b4,H3.out.2.2.2⟩
 clear H3 b4 c2 m0 hc0 hc1 hc2 hc3 hneq
 have m0:w4.cell? ⟨w.heap.size+1,0,none⟩=some (.int .i64 c.o):=H4.out.1.cm.cell 0 rfl
 have m1:w4.cell? ⟨w.heap.size+1,1,none⟩=some (.int .i64 c.p):=H4.out.1.cm.cell 1 rfl
 have m2:w4.cell? ⟨w.heap.size+1,2,none⟩=some (.int .i64 c.a):=H4.out.1.cm.cell 2 rfl
 have m3:w4.cell? ⟨w.heap.size+1,3,none⟩=some (.int .i64 c.b):=H4.out.1.cm.cell 3 rfl
 have m4:w4.cell? ⟨w.heap.size+1,4,none⟩=some (.int .i64 c.k):=H4.out.1.cm.cell 4 rfl
 have d0:w4.cell? ⟨w.heap.size,0,none⟩=some (.slice uo xs.length uc):=H4.out.1.st.cell 0 rfl
 have d1:w4.cell? ⟨w.heap.size,1,none⟩=some (.slice vo ys.length vc):=H4.out.1.st.cell 1 rfl
 have c3:=sdid_any (.slice uo xs.length uc) (.slice vo ys.length vc) xs ys c w4 (HX.out.1.below H4.out.1.bl (Nat.le_refl _)) (HX.out.2.1.below H4.out.1.bl (Nat.le_refl _)) HX.out.2.2.2.1 hc h5
 obtain⟨zs,e1⟩:∃zs,zs=(didI xs ys c).1:=⟨_,rfl⟩
 obtain⟨zt,e2⟩:∃zt,zt=(didI xs ys c).2.1:=⟨_,rfl⟩
 obtain⟨an,e3⟩:∃an,an=(didI xs ys c).2.2:=⟨_,rfl⟩
 rw[←e1,←e2,←e3]at c3
 have HE:Hid (zs=(didI xs ys c).1∧zt=(didI xs ys c).2.1∧an=(didI xs ys c).2.2):=⟨e1,e2,e3⟩
 unfold CV cmA at c3
 clear e1 e2 e3 hc
 go_wp2_with fail
 refine c3.mono ?_
 rintro e w5 ⟨x1,x2,rfl,o5,b5⟩
 obtain⟨xo,xc,rfl⟩:=o5.1.reads.form
 obtain⟨yo,yc,rfl⟩:=o5.2.1.reads.form
 have hap:Hid (apart (.slice xo zs.length xc) (.slice ko h.ks.length kc)∧apart (.slice yo zt.length yc) (.slice ko h.ks.length kc)):=by
  have q1:=apart_of H4.out.2.1.2.1 o5.1 (Nat.le_refl _)
  have q2:=apart_of H4.out.2.1.2.1 o5.2.1 (Nat.le_refl _)
  exact⟨⟨q1.2,q1.1⟩,⟨q2.2,q2.1⟩⟩
 have H5:Hid (Ds w w5 (.slice uo xs.length uc) (.slice vo ys.length vc) (.slice qo h.ks.length qc) h c∧OwnR w5 (w.heap.size+4) (.slice xo zs.length xc) (.slice yo zt.length yc) (.slice ko h.ks.length kc) zs zt h.ks∧StB w5 g 30 (srA (.slice ao xs.length ac) (.slice bo ys.length bc) (.slice ko h.ks.length kc) h)∧w.heap.size+4≤g∧g<w5.heap.size):=
  ⟨H4.out.1.next b5,⟨⟨o5.1.mono H4.out.1.sz,o5.2.1.mono H4.out.1.sz,o5.2.2⟩,H4.out.2.1.2.1.below b5,hap.out⟩,H4.out.2.2.1.below b5,H4.out.2.2.2,(H4.out.2.2.1.below b5).lt⟩
 have N5:Hid ((Value.slice xo zs.length xc).ownBlock≠some g∧(Value.slice yo zt.length yc).ownBlock≠some g):=by
  have hg:=H4.out.2.2.1.lt
  exact⟨fun e=>by have:=(o5.1.lt _ e).1;omega,fun e=>by have:=(o5.2.1.lt _ e).1;omega⟩
 have Nk:Hid ((Value.slice ko h.ks.length kc).ownBlock≠some g):=NE.out.2.2
 clear o5 b5 hap c3 m0 m1 m2 m3 m4 d0 d1 H4 NE
 obtain⟨st,tx⟩:=an
 unfold AV anA S at*
 dsimp only at*
 obtain⟨w6,hw6⟩:∃w6,w6=(w5.alloc (.cells #[.slice xo zs.length xc,.slice yo zt.length yc] 26)).alloc (.cells #[.int .i64 st,.string ⟨tx.toArray⟩] 36):=⟨_,rfl⟩
 have b6:Below w5.heap.size w5 w6:=by rw[hw6];exact((Below.refl _ _).alloc (Nat.le_refl _) _).alloc (by simp) _
 have H6:Hid (Ds w w6 (.slice uo xs.length uc) (.slice vo ys.length vc) (.slice qo h.ks.length qc) h c∧OwnR w6 (w.heap.size+4) (.slice xo zs.length xc) (.slice yo zt.length yc) (.slice ko h.ks.length kc) zs zt h.ks∧StB w6 g 30 (srA (.slice ao xs.length ac) (.slice bo ys.length bc) (.slice ko h.ks.length kc) h)∧StB w6 w5.heap.size 26 #[.slice xo zs.length xc,.slice yo zt.length yc]∧StB w6 (w5.heap.size+1) 36 #[.int .i64 st,.string ⟨tx.toArray⟩]):=by
  have q:=StB.new (w5.alloc (.cells #[.slice xo zs.length xc,.slice yo zt.length yc] 26)) 36 #[.int .i64 st,.string ⟨tx.toArray⟩]
  simp only[World.size_alloc]at q
  exact⟨H5.out.1.next b6,H5.out.2.1.below b6,H5.out.2.2.1.below b6,by rw[hw6];exact(StB.new _ _ _).alloc _,by rw[hw6];exact q⟩
 have hg5:Hid (w.heap.size+4≤g∧g<w5.heap.size):=H5.out.2.2.2
 clear b6 H5
 go_upto_region 8 with fail
 rw[←hw6]
 clear hw6
 obtain⟨k9,hk9⟩:∃k9,k9=w5.heap.size:=⟨_,rfl⟩
 rw[←hk9]at H6 hg5⊢
 clear hk9
 have n0:w6.cell? ⟨k9,0,none⟩=some (.slice xo zs.length xc):=H6.out.2.2.2.1.cell 0 rfl
 have n1:w6.cell? ⟨k9,1,none⟩=some (.slice yo zt.length yc):=H6.out.2.2.2.1.cell 1 rfl
 have p0:w6.cell? ⟨g,0,none⟩=some (.slice ao xs.length ac):=H6.out.2.2.1.cell 0 rfl
 have p1:w6.cell? ⟨g,1,none⟩=some (.slice bo ys.length bc):=H6.out.2.2.1.cell 1 rfl
 have f0:=H6.out.2.2.1.frozen 0
 have f1:=H6.out.2.2.1.frozen 1
 go_upto_region 9 with fail
 obtain⟨w7,hw7⟩:∃w7,w7=(w6.setCell ⟨g,0,none⟩ (.slice xo zs.length xc)).setCell ⟨g,1,none⟩ (.slice yo zt.length yc):=⟨_,rfl⟩
 rw[←hw7]
 have G7:w6.grownBy w7 (some g):=by rw[hw7];exact(grownSet _ _ _ _).trans (grownSet _ _ _ _)
 have H7:Hid (Ds w w7 (.slice uo xs.length uc) (.slice vo ys.length vc) (.slice qo h.ks.length qc) h c):=H6.out.1.grown G7 hg5.out.1
 have O7:Hid (OwnR w7 (w.heap.size+4) (.slice xo zs.length xc) (.slice yo zt.length yc) (.slice ko h.ks.length kc) zs zt h.ks∧True):=⟨H6.out.2.1.kept G7 N5.out.1 N5.out.2 Nk.out,trivial⟩
 have S7:Hid (StB w7 g 30 (srA (.slice xo zs.length xc) (.slice yo zt.length yc) (.slice ko h.ks.length kc) h)∧StB w7 (k9+1) 36 #[.int .i64 st,.string ⟨tx.toArray⟩]∧w.heap.size+4≤g∧w.heap.size+4≤k9+1):=⟨by rw[hw7];exact(H6.out.2.2.1.put 0 _ rfl).put 1 _ rfl,H6.out.2.2.2.2.kept G7 (by have:=hg5.out;simp;omega),hg5.out.1,by have:=hg5.out;omega⟩
 clear hw7 G7 H6 n0 n1 p0 p1 f0 f1 N5 Nk hg5
 have qq0:∀w',Sd (w.heap.size+1+1) (w.heap.size+1+1+1) w7 w'→w'.cell? ⟨g,0,none⟩=some (.slice xo zs.length xc):=fun w' b=>b _ _ (by have:=S7.out.2.2.1;dsimp only;omega) (by have:=S7.out.2.2.1;dsimp only;omega) (S7.out.1.cell 0 rfl)
 have qq1:∀w',Sd (w.heap.size+1+1) (w.heap.size+1+1+1) w7 w'→w'.cell? ⟨g,1,none⟩=some (.slice yo zt.length yc):=fun w' b=>b _ _ (by have:=S7.out.2.2.1;dsimp only;omega) (by have:=S7.out.2.2.1;dsimp only;omega) (S7.out.1.cell 1 rfl)
 have qq2:∀w',Sd (w.heap.size+1+1) (w.heap.size+1+1+1) w7 w'→w'.cell? ⟨g,2,none⟩=some (.slice ko h.ks.length kc):=fun w' b=>b _ _ (by have:=S7.out.2.2.1;dsimp only;omega) (by have:=S7.out.2.2.1;dsimp only;omega) (S7.out.1.cell 2 rfl)
 have qq3:∀w',Sd (w.heap.size+1+1) (w.heap.size+1+1+1) w7 w'→w'.cell? ⟨g,3,none⟩=some (.int .i64 h.kd):=fun w' b=>b _ _ (by have:=S7.out.2.2.1;dsimp only;omega) (by have:=S7.out.2.2.1;dsimp only;omega) (S7.out.1.cell 3 rfl)
 have qq4:∀w',Sd (w.heap.size+1+1) (w.heap.size+1+1+1) w7 w'→w'.cell? ⟨g,4,none⟩=some (.int .i64 h.ho):=fun w' b=>b _ _ (by have:=S7.out.2.2.1;dsimp only;omega) (by have:=S7.out.2.2.1;dsimp only;omega) (S7.out.1.cell 4 rfl)
 have qq5:∀w',Sd (w.heap.size+1+1) (w.heap.size+1+1+1) w7 w'→w'.cell? ⟨g,5,none⟩=some (.int .i64 h.tu):=fun w' b=>b _ _ (by have:=S7.out.2.2.1;dsimp only;omega) (by have:=S7.out.2.2.1;dsimp only;omega) (S7.out.1.cell 5 rfl)
 have t0:∀w',Sd (w.heap.size+1+1) (w.heap.size+1+1+1) w7 w'→w'.cell? ⟨k9+1,0,none⟩=some (.int .i64 st):=fun w' b=>b _ _ (by have:=S7.out.2.2.2;dsimp only;omega) (by have:=S7.out.2.2.2;dsimp only;omega) (S7.out.2.1.cell 0 rfl)
 have t1:∀w',Sd (w.heap.size+1+1) (w.heap.size+1+1+1) w7 w'→w'.cell? ⟨k9+1,1,none⟩=some (.string ⟨tx.toArray⟩):=fun w' b=>b _ _ (by have:=S7.out.2.2.2;dsimp only;omega) (by have:=S7.out.2.2.2;dsimp only;omega) (S7.out.2.1.cell 1 rfl)
 have r0:w7.cell? ⟨w.heap.size+1+1,0,none⟩=some (.slice none 0 0):=(H7.out).rs.cell 0 rfl
 have f0:=(H7.out).rs.frozen 0
 have r1:w7.cell? ⟨w.heap.size+1+1,1,none⟩=some (.slice none 0 0):=(H7.out).rs.cell 1 rfl
 have f1:=(H7.out).rs.frozen 1
 have r2:w7.cell? ⟨w.heap.size+1+1,2,none⟩=some (.slice none 0 0):=(H7.out).rs.cell 2 rfl
 have f2:=(H7.out).rs.frozen 2
 have r3:w7.cell? ⟨w.heap.size+1+1,3,none⟩=some (.int .i64 0):=(H7.out).rs.cell 3 rfl
 have f3:=(H7.out).rs.frozen 3
 have r4:w7.cell? ⟨w.heap.size+1+1,4,none⟩=some (.int .i64 0):=(H7.out).rs.cell 4 rfl
 have f4:=(H7.out).rs.frozen 4
 have r5:w7.cell? ⟨w.heap.size+1+1,5,none⟩=some (.int .i64 0):=(H7.out).rs.cell 5 rfl
 have f5:=(H7.out).rs.frozen 5
 have ra0:w7.cell? ⟨w.heap.size+1+1+1,0,none⟩=some (.int .i64 0):=(H7.out).ra.cell 0 rfl
 have fa0:=(H7.out).ra.frozen 0
 have ra1:w7.cell? ⟨w.heap.size+1+1+1,1,none⟩=some (.string ⟨#[]⟩):=(H7.out).ra.cell 1 rfl
 have fa1:=(H7.out).ra.frozen 1
 have r0':w7.drew.cell? ⟨w.heap.size+1+1,0,none⟩=some (.slice none 0 0):=(H7.out.drew).rs.cell 0 rfl
 have f0':=(H7.out.drew).rs.frozen 0
 have r1':w7.drew.cell? ⟨w.heap.size+1+1,1,none⟩=some (.slice none 0 0):=(H7.out.drew).rs.cell 1 rfl
 have f1':=(H7.out.drew).rs.frozen 1
 have r2':w7.drew.cell? ⟨w.heap.size+1+1,2,none⟩=some (.slice none 0 0):=(H7.out.drew).rs.cell 2 rfl
 have f2':=(H7.out.drew).rs.frozen 2
 have r3':w7.drew.cell? ⟨w.heap.size+1+1,3,none⟩=some (.int .i64 0):=(H7.out.drew).rs.cell 3 rfl
 have f3':=(H7.out.drew).rs.frozen 3
 have r4':w7.drew.cell? ⟨w.heap.size+1+1,4,none⟩=some (.int .i64 0):=(H7.out.drew).rs.cell 4 rfl
 have f4':=(H7.out.drew).rs.frozen 4
 have r5':w7.drew.cell? ⟨w.heap.size+1+1,5,none⟩=some (.int .i64 0):=(H7.out.drew).rs.cell 5 rfl
 have f5':=(H7.out.drew).rs.frozen 5
 have ra0':w7.drew.cell? ⟨w.heap.size+1+1+1,0,none⟩=some (.int .i64 0):=(H7.out.drew).ra.cell 0 rfl
 have fa0':=(H7.out.drew).ra.frozen 0
 have ra1':w7.drew.cell? ⟨w.heap.size+1+1+1,1,none⟩=some (.string ⟨#[]⟩):=(H7.out.drew).ra.cell 1 rfl
 have fa1':=(H7.out.drew).ra.frozen 1
 go_region_held3 (fun w'=>Sd (w.heap.size+1+1) (w.heap.size+1+1+1) w7 w') ((repeat'(first|with_reducible assumption|with_reducible exact Sd.refl _ _ _|with_reducible refine Sd.al ?_|with_reducible refine Sd.dr ?_|with_reducible refine Sd.set1 ?_|with_reducible refine Sd.set2 ?_|with_reducible refine Sd.put1 ?_ (by with_reducible assumption)|with_reducible refine Sd.put2 ?_ (by with_reducible assumption)|with_reducible refine Sd.bel ?_ (by with_reducible assumption)))) (fail)
 all_goals
  obtain⟨wz,hwz⟩:∃wz,wz=(((put6 w7 (w.heap.size+1+1) (.slice xo zs.length xc) (.slice yo zt.length yc) (.slice ko h.ks.length kc) h).setCell ⟨w.heap.size+1+1+1,0,none⟩ (.int .i64 st)).setCell ⟨w.heap.size+1+1+1,1,none⟩ (.string ⟨tx.toArray⟩)).drew:=⟨_,rfl⟩
  have T5:=put6_st (.slice xo zs.length xc) (.slice yo zt.length yc) (.slice ko h.ks.length kc) h H7.out.rs
  have G5:=put6_grown w7 (w.heap.size+1+1) (.slice xo zs.length xc) (.slice yo zt.length yc) (.slice ko h.ks.length kc) h
  have T6:=((H7.out.ra.kept G5 (by simp)).put 0 (.int .i64 st) rfl).put 1 (S tx) (ds:=anA ⟨st,tx⟩) rfl
  have G6:=(grownSet (put6 w7 (w.heap.size+1+1) (.slice xo zs.length xc) (.slice yo zt.length yc) (.slice ko h.ks.length kc) h) (w.heap.size+1+1+1) 0 (.int .i64 st)).trans (grownSet _ (w.heap.size+1+1+1) 1 (S tx))
  have HZ:Hid (StB wz (w.heap.size+1+1) 30 (srA (.slice xo zs.length xc) (.slice yo zt.length yc) (.slice ko h.ks.length kc) h)∧StB wz (w.heap.size+1+1+1) 36 (anA ⟨st,tx⟩)∧OwnR wz w.heap.size (.slice xo zs.length xc) (.slice yo zt.length yc) (.slice ko h.ks.length kc) zs zt h.ks∧Below w.heap.size w wz):=by
   obtain⟨of,bf⟩:=H7.out.fin O7.out.1 (Nat.le_refl _) G5 G6
   have k5:=T5.kept G6 (by simp)
   obtain⟨wq,hwq⟩:∃wq,wq=((put6 w7 (w.heap.size+1+1) (.slice xo zs.length xc) (.slice yo zt.length yc) (.slice ko h.ks.length kc) h).setCell ⟨w.heap.size+1+1+1,0,none⟩ (.int .i64 st)).setCell ⟨w.heap.size+1+1+1,1,none⟩ (S tx):=⟨_,rfl⟩
   rw[←hwq]at of bf k5 T6
   have hz:wz=wq.drew:=by rw[hwz,hwq];rfl
   rw[hz]
   exact⟨k5.dr,T6.dr,of.below ((Below.refl _ _).drew),bf.drew⟩
  unfold put6 at hwz
  rw[←hwz]
  clear hwz T5 G5 T6 G6
  go_wp2
  refine bodyPost_ret (results_RA rfl _ _ (w.heap.size+1+1) (w.heap.size+1+1+1) _ _ rfl rfl rfl rfl HZ.out.1 HZ.out.2.1) rfl ?_
  rw[←HE.out.1,←HE.out.2.1,←HE.out.2.2]
  exact⟨_,_,_,rfl,HZ.out.2.2⟩
end Go.Proofs.YtpdggofaobmnlaaGreatDoor
