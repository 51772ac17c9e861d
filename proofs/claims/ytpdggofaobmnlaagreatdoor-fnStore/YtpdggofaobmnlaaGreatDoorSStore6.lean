import Derived.Test.YtpdggofaobmnlaaGreatDoorM19
import Derived.Test.YtpdggofaobmnlaaGreatDoorM9
/- The model's store, on: DidStore. -/
set_option maxRecDepth 20000
set_option maxHeartbeats 4000000
namespace Go.Proofs.YtpdggofaobmnlaaGreatDoor
open Go.ChangeShapes Go.WideShapes Go.ChangeAt Go.RowKit
theorem s12did_any (u v q:Value) (s:Sr) (i:Int) (c:Cm) (w:World) (hu:Reads w u s.xs) (hv:Reads w v s.ys) (hq:Reads w q s.h.ks) (hb:bothOk s.xs s.ys=true) (ok:s.h.ok=true) (i0:0≤i) (i1:i<4) (hc:c.ok=true):
  Calls Tryz.prog 40 #[SRV u v q s.h,.int .i64 i,CV c] w fun e w'=>∃a b k,e=.returned (.tuple #[SRV a b k (s.doing i c).1.h,AV (s.doing i c).2])∧OwnR w' w.heap.size a b k (s.doing i c).1.xs (s.doing i c).1.ys (s.doing i c).1.h.ks∧Below w.heap.size w w':=by
 obtain⟨xs,ys,h⟩:=s
 dsimp only at*
 by_cases h5:5<c.o
 ·have e:Sr.doing ⟨xs,ys,h⟩ i c=(⟨xs,ys,(h.act i c).1⟩,(h.act i c).2):=by simp[Sr.doing,h5]
  rw[e]
  exact s12did_act u v q xs ys h i c w hu hv hq hb ok i0 i1 hc h5
 ·cases hm:h.may i (decide (c.o≠1))with
  |true=>
   have e:Sr.doing ⟨xs,ys,h⟩ i c=(⟨(didI xs ys c).1,(didI xs ys c).2.1,h⟩,(didI xs ys c).2.2):=by
    unfold Sr.doing
    rw[if_neg h5]
    dsimp only
    rw[hm,if_pos rfl]
   rw[e]
   exact s12did_yes u v q xs ys h i c w hu hv hq hb ok i0 i1 hc (by omega) hm
  |false=>
   have e:Sr.doing ⟨xs,ys,h⟩ i c=(⟨xs,ys,h⟩,⟨3,[]⟩):=by
    unfold Sr.doing
    rw[if_neg h5]
    dsimp only
    rw[hm,if_neg (by decide)]
   rw[e]
   exact s12did_no u v q xs ys h i c w hu hv hq hb ok i0 i1 (by omega) hm
theorem sDidStore_any (u v q:Value) (xs ys:List Int) (h:Hd) (i:Int) (c:Cm) (w:World) (hu:Reads w u xs) (hv:Reads w v ys) (hq:Reads w q h.ks) (gx:xs.length≤1099511627776) (gy:ys.length≤1099511627776) (gk:h.ks.length≤1099511627776):
  Calls Tryz.prog 10 #[SRV u v q h,.int .i64 i,CV c] w fun e w'=>∃a b k,e=.returned (.tuple #[SRV a b k (Sr.did ⟨xs,ys,h⟩ i c).1.h,AV (Sr.did ⟨xs,ys,h⟩ i c).2])∧OwnR w' w.heap.size a b k (Sr.did ⟨xs,ys,h⟩ i c).1.xs (Sr.did ⟨xs,ys,h⟩ i c).1.ys (Sr.did ⟨xs,ys,h⟩ i c).1.h.ks∧Below w.heap.size w w':=by
 obtain⟨w0,hw0⟩:∃w0,w0=(((w.alloc (.cells (srA u v q h) 30)).alloc (.cells #[.int .i64 c.o,.int .i64 c.p,.int .i64 c.a,.int .i64 c.b,.int .i64 c.k] 32)).alloc (.cells #[.slice none 0 0,.slice none 0 0,.slice none 0 0,.int .i64 0,.int .i64 0,.int .i64 0] 30)).alloc (.cells #[.int .i64 0,.string ⟨#[]⟩] 36):=⟨_,rfl⟩
 have hs0:w0.heap.size=w.heap.size+1+1+1+1:=by rw[hw0];simp
 have H0:Ds w w0 u v q h c:=by rw[hw0];exact Ds.start w u v q h c
 obtain⟨w1,hw1⟩:∃w1,w1=w0.alloc (.cells #[.int .i64 7,.string ⟨#[]⟩] 36):=⟨_,rfl⟩
 have b1:Below w0.heap.size w0 w1:=by rw[hw1];exact(Below.refl _ _).alloc (Nat.le_refl _) _
 have HV:Hid (Ds w w1 u v q h c∧StB w1 (w0.heap.size) 36 (anA ⟨7,[]⟩)∧w.heap.size+5≤w1.heap.size):=by
  refine⟨H0.next b1,?_,by rw[hw1];simp;omega⟩
  rw[hw1]
  exact StB.new _ _ _
 have HS:Hid (w.heap.size+4≤w0.heap.size):=by rw[Hid,hs0];exact Nat.le_refl _
 have c1:=sstoreok_any u v q xs ys h w1 (hu.below HV.out.1.bl (Nat.le_refl _)) (hv.below HV.out.1.bl (Nat.le_refl _)) (hq.below HV.out.1.bl (Nat.le_refl _)) gx gy gk
 have HX:Hid (Reads w u xs∧Reads w v ys∧Reads w q h.ks∧xs.length≤1099511627776∧ys.length≤1099511627776∧h.ks.length≤1099511627776):=⟨hu,hv,hq,gx,gy,gk⟩
 obtain⟨uo,uc,rfl⟩:=reads_form hu
 obtain⟨vo,vc,rfl⟩:=reads_form hv
 obtain⟨qo,qc,rfl⟩:=reads_form hq
 have HE:Hid (Sr.did ⟨xs,ys,h⟩ i c=if Sr.ok ⟨xs,ys,h⟩then(if inI i 0 3&&c.ok then Sr.doing ⟨xs,ys,h⟩ i c else(⟨xs,ys,h⟩,⟨7,[]⟩))else(Sr.zero,⟨7,[]⟩)):=rfl
 obtain⟨R,hR⟩:∃R,R=Sr.did ⟨xs,ys,h⟩ i c:=⟨_,rfl⟩
 rw[←hR]at HE⊢
 clear hR hu hv hq gx gy gk H0 b1 hs0
 unfold srA at hw0
 unfold SRV CV cmA
 conv in srA (.slice uo xs.length uc) (.slice vo ys.length vc) (.slice qo h.ks.length qc) _=>unfold srA
 unfold SRV at c1
 have go1:Hid (w1=w0.alloc (.cells #[.int .i64 7,.string ⟨#[]⟩] 36)):=hw1
 clear hw1
 cases hok:Sr.ok ⟨xs,ys,h⟩with
 |false=>
  rw[hok]at c1
  have HR:Hid (R=(Sr.zero,⟨7,[]⟩)):=by rw[Hid,HE.out,hok];rfl
  clear HE hok
  go_enter Tryz.func10,Tryz.ntmps10
  go_upto_region 1 with fail
  rw[←hw0]
  clear hw0
  go_upto_region 2 with fail
  rw[←go1.out]
  clear go1
  go_wp2_with (refine wpList_getS Tryz.isR rfl _ rfl w.heap.size rfl _ rfl HV.out.1.st ?_)
  refine c1.mono ?_
  rintro e w2 ⟨rfl,b2⟩
  have H2:Hid (Ds w w2 (.slice uo xs.length uc) (.slice vo ys.length vc) (.slice qo h.ks.length qc) h c):=HV.out.1.next b2
  have A2:Hid (StB w2 (w0.heap.size) 36 (anA ⟨7,[]⟩)):=HV.out.2.1.below b2
  clear HV c1 b2
  go_upto_region 3 with fail
  have t0:∀w',Sd (w.heap.size+1+1) (w.heap.size+1+1+1) w2 w'→w'.cell? ⟨w0.heap.size,0,none⟩=some (.int .i64 7):=fun w' b=>b _ _ (by have:=HS.out;dsimp only;omega) (by have:=HS.out;dsimp only;omega) (A2.out.cell 0 rfl)
  have t1:∀w',Sd (w.heap.size+1+1) (w.heap.size+1+1+1) w2 w'→w'.cell? ⟨w0.heap.size,1,none⟩=some (.string ⟨#[]⟩):=fun w' b=>b _ _ (by have:=HS.out;dsimp only;omega) (by have:=HS.out;dsimp only;omega) (A2.out.cell 1 rfl)
  have r0:w2.cell? ⟨w.heap.size+1+1,0,none⟩=some (.slice none 0 0):=(H2.out).rs.cell 0 rfl
  have f0:=(H2.out).rs.frozen 0
  have r1:w2.cell? ⟨w.heap.size+1+1,1,none⟩=some (.slice none 0 0):=(H2.out).rs.cell 1 rfl
  have f1:=(H2.out).rs.frozen 1
  have r2:w2.cell? ⟨w.heap.size+1+1,2,none⟩=some (.slice none 0 0):=(H2.out).rs.cell 2 rfl
  have f2:=(H2.out).rs.frozen 2
  have r3:w2.cell? ⟨w.heap.size+1+1,3,none⟩=some (.int .i64 0):=(H2.out).rs.cell 3 rfl
  have f3:=(H2.out).rs.frozen 3
  have r4:w2.cell? ⟨w.heap.size+1+1,4,none⟩=some (.int .i64 0):=(H2.out).rs.cell 4 rfl
  have f4:=(H2.out).rs.frozen 4
  have r5:w2.cell? ⟨w.heap.size+1+1,5,none⟩=some (.int .i64 0):=(H2.out).rs.cell 5 rfl
  have f5:=(H2.out).rs.frozen 5
  have ra0:w2.cell? ⟨w.heap.size+1+1+1,0,none⟩=some (.int .i64 0):=(H2.out).ra.cell 0 rfl
  have fa0:=(H2.out).ra.frozen 0
  have ra1:w2.cell? ⟨w.heap.size+1+1+1,1,none⟩=some (.string ⟨#[]⟩):=(H2.out).ra.cell 1 rfl
  have fa1:=(H2.out).ra.frozen 1
  have r0':w2.drew.cell? ⟨w.heap.size+1+1,0,none⟩=some (.slice none 0 0):=(H2.out.drew).rs.cell 0 rfl
  have f0':=(H2.out.drew).rs.frozen 0
  have r1':w2.drew.cell? ⟨w.heap.size+1+1,1,none⟩=some (.slice none 0 0):=(H2.out.drew).rs.cell 1 rfl
  have f1':=(H2.out.drew).rs.frozen 1
  have r2':w2.drew.cell? ⟨w.heap.size+1+1,2,none⟩=some (.slice none 0 0):=(H2.out.drew).rs.cell 2 rfl
  have f2':=(H2.out.drew).rs.frozen 2
  have r3':w2.drew.cell? ⟨w.heap.size+1+1,3,none⟩=some (.int .i64 0):=(H2.out.drew).rs.cell 3 rfl
  have f3':=(H2.out.drew).rs.frozen 3
  have r4':w2.drew.cell? ⟨w.heap.size+1+1,4,none⟩=some (.int .i64 0):=(H2.out.drew).rs.cell 4 rfl
  have f4':=(H2.out.drew).rs.frozen 4
  have r5':w2.drew.cell? ⟨w.heap.size+1+1,5,none⟩=some (.int .i64 0):=(H2.out.drew).rs.cell 5 rfl
  have f5':=(H2.out.drew).rs.frozen 5
  have ra0':w2.drew.cell? ⟨w.heap.size+1+1+1,0,none⟩=some (.int .i64 0):=(H2.out.drew).ra.cell 0 rfl
  have fa0':=(H2.out.drew).ra.frozen 0
  have ra1':w2.drew.cell? ⟨w.heap.size+1+1+1,1,none⟩=some (.string ⟨#[]⟩):=(H2.out.drew).ra.cell 1 rfl
  have fa1':=(H2.out.drew).ra.frozen 1
  go_region_held3 (fun w'=>Sd (w.heap.size+1+1) (w.heap.size+1+1+1) w2 w') ((repeat'(first|with_reducible assumption|with_reducible exact Sd.refl _ _ _|with_reducible refine Sd.al ?_|with_reducible refine Sd.dr ?_|with_reducible refine Sd.set1 ?_|with_reducible refine Sd.set2 ?_|with_reducible refine Sd.put1 ?_ (by with_reducible assumption)|with_reducible refine Sd.put2 ?_ (by with_reducible assumption)|with_reducible refine Sd.bel ?_ (by with_reducible assumption)))) (fail)
  all_goals
   obtain⟨wz,hwz⟩:∃wz,wz=(((put6 w2 (w.heap.size+1+1) (.slice none 0 0) (.slice none 0 0) (.slice none 0 0) Hd.zero).setCell ⟨w.heap.size+1+1+1,0,none⟩ (.int .i64 7)).setCell ⟨w.heap.size+1+1+1,1,none⟩ (.string ⟨#[]⟩)).drew:=⟨_,rfl⟩
   have T5:=put6_st (.slice none 0 0) (.slice none 0 0) (.slice none 0 0) Hd.zero H2.out.rs
   have G5:=put6_grown w2 (w.heap.size+1+1) (.slice none 0 0) (.slice none 0 0) (.slice none 0 0) Hd.zero
   have T6:=((H2.out.ra.kept G5 (by simp)).put 0 (.int .i64 7) rfl).put 1 (.string ⟨#[]⟩) (ds:=anA ⟨7,[]⟩) rfl
   have G6:=(grownSet (put6 w2 (w.heap.size+1+1) (.slice none 0 0) (.slice none 0 0) (.slice none 0 0) Hd.zero) (w.heap.size+1+1+1) 0 (.int .i64 7)).trans (grownSet _ (w.heap.size+1+1+1) 1 (.string ⟨#[]⟩))
   have HZ:Hid (StB wz (w.heap.size+1+1) 30 (srA (.slice none 0 0) (.slice none 0 0) (.slice none 0 0) Hd.zero)∧StB wz (w.heap.size+1+1+1) 36 (anA ⟨7,[]⟩)∧Below w.heap.size w wz):=by
    have bf:=(H2.out.fin (OwnR.nil w2 (w.heap.size+4)) (Nat.le_refl _) G5 G6).2
    have k5:=T5.kept G6 (by simp)
    obtain⟨wq,hwq⟩:∃wq,wq=((put6 w2 (w.heap.size+1+1) (.slice none 0 0) (.slice none 0 0) (.slice none 0 0) Hd.zero).setCell ⟨w.heap.size+1+1+1,0,none⟩ (.int .i64 7)).setCell ⟨w.heap.size+1+1+1,1,none⟩ (.string ⟨#[]⟩):=⟨_,rfl⟩
    rw[←hwq]at bf k5 T6
    have hz:wz=wq.drew:=by rw[hwz,hwq]
    rw[hz]
    exact⟨k5.dr,T6.dr,bf.drew⟩
   unfold put6 Hd.zero at hwz
   dsimp only at hwz
   rw[←hwz]
   clear hwz T5 G5 T6 G6
   go_wp2
   refine bodyPost_ret (results_RA rfl _ _ (w.heap.size+1+1) (w.heap.size+1+1+1) _ _ rfl rfl rfl rfl HZ.out.1 HZ.out.2.1) rfl ?_
   rw[HR.out]
   exact⟨_,_,_,rfl,OwnR.nil _ _,HZ.out.2.2⟩
 |true=>
  rw[hok]at c1
  have HB:Hid (bothOk xs ys=true∧h.ok=true):=by
   have e:(bothOk xs ys&&h.ok)=true:=hok
   simpa[Hid]using e
  rw[hok]at HE
  replace HE:Hid (R=if inI i 0 3&&c.ok then Sr.doing ⟨xs,ys,h⟩ i c else(⟨xs,ys,h⟩,⟨7,[]⟩)):=HE.out
  clear hok
  have cw:=fun wx=>swho_any i wx
  have cc:Hid (∀wx,Calls Tryz.prog 15 #[.agg #[.int .i64 c.o,.int .i64 c.p,.int .i64 c.a,.int .i64 c.b,.int .i64 c.k]] wx fun e w'=>e=.returned (.bool c.ok)∧Below wx.heap.size wx w'):=fun wx=>scmdok_any c wx
  have hi:inI i 0 3=true→0≤i∧i<4:=fun e=>by have:=(inI_iff _ _ _).1 e;omega
  have HI:Hid (inI i 0 3=true→0≤i∧i<4):=hi
  have hcd:c.ok=true→∀wx,Reads wx (.slice uo xs.length uc) xs→Reads wx (.slice vo ys.length vc) ys→Reads wx (.slice qo h.ks.length qc) h.ks→inI i 0 3=true→Calls Tryz.prog 40 #[SRV (.slice uo xs.length uc) (.slice vo ys.length vc) (.slice qo h.ks.length qc) h,.int .i64 i,CV c] wx fun e w'=>∃a b k,e=.returned (.tuple #[SRV a b k (Sr.doing ⟨xs,ys,h⟩ i c).1.h,AV (Sr.doing ⟨xs,ys,h⟩ i c).2])∧OwnR w' wx.heap.size a b k (Sr.doing ⟨xs,ys,h⟩ i c).1.xs (Sr.doing ⟨xs,ys,h⟩ i c).1.ys (Sr.doing ⟨xs,ys,h⟩ i c).1.h.ks∧Below wx.heap.size wx w':=fun e wx r1 r2 r3 e2=>s12did_any _ _ _ ⟨xs,ys,h⟩ i c wx r1 r2 r3 HB.out.1 HB.out.2 (hi e2).1 (hi e2).2 e
  have HCD:Hid _:=hcd
  clear hcd hi
  obtain⟨o,ho⟩:∃o,o=c.ok:=⟨_,rfl⟩
  obtain⟨bi,hbi⟩:∃bi,bi=inI i 0 3:=⟨_,rfl⟩
  rw[←ho]at cc HE HCD
  rw[←hbi]at HE HI HCD
  simp only[←hbi]at cw
  clear ho hbi
  go_enter Tryz.func10,Tryz.ntmps10
  go_upto_region 1 with fail
  rw[←hw0]
  clear hw0
  go_upto_region 2 with fail
  rw[←go1.out]
  clear go1
  go_wp2_with (refine wpList_getS Tryz.isR rfl _ rfl w.heap.size rfl _ rfl HV.out.1.st ?_)
  refine c1.mono ?_
  rintro e w2 ⟨rfl,b2⟩
  have H2:Hid (Ds w w2 (.slice uo xs.length uc) (.slice vo ys.length vc) (.slice qo h.ks.length qc) h c∧StB w2 (w0.heap.size) 36 (anA ⟨7,[]⟩)∧w.heap.size+5≤w2.heap.size):=⟨HV.out.1.next b2,HV.out.2.1.below b2,Nat.le_trans HV.out.2.2 b2.size⟩
  clear HV c1 b2
  cases bi with
  |false=>
   have HR:Hid (R=(⟨xs,ys,h⟩,⟨7,[]⟩)):=HE.out
   clear HE HI HCD
   go_wp2_with fail
   refine(cw _).mono ?_
   rintro e w' ⟨rfl,hw⟩;subst w'
   obtain⟨w4,hw4⟩:∃w4,w4=w2:=⟨_,rfl⟩
   rw[←hw4]at H2⊢
   have H4:=H2
   clear H2 hw4 cw cc
   have CC:Hid (∀wx,Below w4.heap.size w4 wx→Calls Tryz.prog 39 #[.agg #[.slice uo xs.length uc,.slice vo ys.length vc,.slice qo h.ks.length qc,.int .i64 h.kd,.int .i64 h.ho,.int .i64 h.tu]] wx fun e w'=>∃a b k,e=.returned (.agg (srA a b k h))∧OwnR w' wx.heap.size a b k xs ys h.ks∧Below wx.heap.size wx w'):=fun wx e=>s12copy_any _ _ _ xs ys h wx ((HX.out.1.below H4.out.1.bl (Nat.le_refl _)).below e (Nat.le_refl _)) ((HX.out.2.1.below H4.out.1.bl (Nat.le_refl _)).below e (Nat.le_refl _)) ((HX.out.2.2.1.below H4.out.1.bl (Nat.le_refl _)).below e (Nat.le_refl _)) HX.out.2.2.2.1 HX.out.2.2.2.2.1 HX.out.2.2.2.2.2
   have t0:∀w',Sd (w.heap.size+1+1) (w.heap.size+1+1+1) w4 w'→w'.cell? ⟨w0.heap.size,0,none⟩=some (.int .i64 7):=fun w' b=>b _ _ (by have:=HS.out;dsimp only;omega) (by have:=HS.out;dsimp only;omega) (H4.out.2.1.cell 0 rfl)
   have t1:∀w',Sd (w.heap.size+1+1) (w.heap.size+1+1+1) w4 w'→w'.cell? ⟨w0.heap.size,1,none⟩=some (.string ⟨#[]⟩):=fun w' b=>b _ _ (by have:=HS.out;dsimp only;omega) (by have:=HS.out;dsimp only;omega) (H4.out.2.1.cell 1 rfl)
   have qq0:∀w',Sd (w.heap.size+1+1) (w.heap.size+1+1+1) w4 w'→w'.cell? ⟨w.heap.size,0,none⟩=some (.slice uo xs.length uc):=fun w' b=>b _ _ (by dsimp only;omega) (by dsimp only;omega) (H4.out.1.st.cell 0 rfl)
   have qq1:∀w',Sd (w.heap.size+1+1) (w.heap.size+1+1+1) w4 w'→w'.cell? ⟨w.heap.size,1,none⟩=some (.slice vo ys.length vc):=fun w' b=>b _ _ (by dsimp only;omega) (by dsimp only;omega) (H4.out.1.st.cell 1 rfl)
   have qq2:∀w',Sd (w.heap.size+1+1) (w.heap.size+1+1+1) w4 w'→w'.cell? ⟨w.heap.size,2,none⟩=some (.slice qo h.ks.length qc):=fun w' b=>b _ _ (by dsimp only;omega) (by dsimp only;omega) (H4.out.1.st.cell 2 rfl)
   have qq3:∀w',Sd (w.heap.size+1+1) (w.heap.size+1+1+1) w4 w'→w'.cell? ⟨w.heap.size,3,none⟩=some (.int .i64 h.kd):=fun w' b=>b _ _ (by dsimp only;omega) (by dsimp only;omega) (H4.out.1.st.cell 3 rfl)
   have qq4:∀w',Sd (w.heap.size+1+1) (w.heap.size+1+1+1) w4 w'→w'.cell? ⟨w.heap.size,4,none⟩=some (.int .i64 h.ho):=fun w' b=>b _ _ (by dsimp only;omega) (by dsimp only;omega) (H4.out.1.st.cell 4 rfl)
   have qq5:∀w',Sd (w.heap.size+1+1) (w.heap.size+1+1+1) w4 w'→w'.cell? ⟨w.heap.size,5,none⟩=some (.int .i64 h.tu):=fun w' b=>b _ _ (by dsimp only;omega) (by dsimp only;omega) (H4.out.1.st.cell 5 rfl)
   go_upto_region 5 with fail
   go_region_held3 (fun w'=>Sd (w.heap.size+1+1) (w.heap.size+1+1+1) w4 w') ((repeat'(first|with_reducible assumption|with_reducible exact Sd.refl _ _ _|with_reducible refine Sd.al ?_|with_reducible refine Sd.dr ?_|with_reducible refine Sd.set1 ?_|with_reducible refine Sd.set2 ?_|with_reducible refine Sd.put1 ?_ (by with_reducible assumption)|with_reducible refine Sd.put2 ?_ (by with_reducible assumption)|with_reducible refine Sd.bel ?_ (by with_reducible assumption))))
    (first
     |(go_at_call 39;refine(CC.out _ (by repeat'(first|with_reducible assumption|with_reducible exact Below.refl _ _|with_reducible refine bel_alloc ?_|with_reducible refine bel_drew ?_|with_reducible refine bel_trans ?_ (by with_reducible assumption)))).mono ?_;rintro e w5 ⟨a,b,k,rfl,o5,b5⟩;obtain⟨ao,ac,rfl⟩:=o5.1.1.reads.form;obtain⟨bo,bc,rfl⟩:=o5.1.2.1.reads.form;obtain⟨ko,kc,rfl⟩:=o5.2.1.reads.form;have H5:Hid (Ds w w5 (.slice uo xs.length uc) (.slice vo ys.length vc) (.slice qo h.ks.length qc) h c∧OwnR w5 (w.heap.size+4) (.slice ao xs.length ac) (.slice bo ys.length bc) (.slice ko h.ks.length kc) xs ys h.ks):=⟨H4.out.1.next (by repeat'(first|with_reducible assumption|with_reducible exact Below.refl _ _|with_reducible refine bel_alloc ?_|with_reducible refine bel_drew ?_|with_reducible refine bel_trans ?_ (by with_reducible assumption))),o5.mono (Nat.le_trans H4.out.1.sz (bel_size (by repeat'(first|with_reducible assumption|with_reducible exact Below.refl _ _|with_reducible refine bel_alloc ?_|with_reducible refine bel_drew ?_|with_reducible refine bel_trans ?_ (by with_reducible assumption)))))⟩;clear o5)
     |((with_reducible show Oper.upon _ _ _ _ _ (Result.andThen (Sem.run _ (storeCells _ (srA _ _ _ _).toList) _) _));refine upon_putS (w.heap.size+1+1) 30 (srA (.slice ao xs.length ac) (.slice bo ys.length bc) (.slice ko h.ks.length kc) h) zeR rfl (srA_one h rfl rfl rfl) H5.out.1.rs ?_;intro w6 s6 g6;have ra:=H5.out.1.ra.kept g6 (by simp);have r0:w6.cell? ⟨w.heap.size+1+1+1,0,none⟩=some (.int .i64 0):=ra.cell 0 rfl;have r1:w6.cell? ⟨w.heap.size+1+1+1,1,none⟩=some (.string ⟨#[]⟩):=ra.cell 1 rfl;have f0:=ra.frozen 0;have f1:=ra.frozen 1))
   all_goals
    go_wp2
    have S7:=(ra.put 0 (.int .i64 7) rfl).put 1 (.string ⟨#[]⟩) (ds:=anA ⟨7,[]⟩) rfl
    have G7:=(grownSet w6 (w.heap.size+1+1+1) 0 (.int .i64 7)).trans (grownSet _ (w.heap.size+1+1+1) 1 (.string ⟨#[]⟩))
    refine bodyPost_ret (results_RA rfl _ _ (w.heap.size+1+1) (w.heap.size+1+1+1) _ _ rfl rfl rfl rfl (s6.kept G7 (by simp)) S7) rfl ?_
    rw[HR.out]
    exact⟨_,_,_,rfl,H5.out.1.fin H5.out.2 (Nat.le_refl _) g6 G7⟩
  |true=>
   have k0:=H2.out.1.cm.cell 0 rfl
   have k1:=H2.out.1.cm.cell 1 rfl
   have k2:=H2.out.1.cm.cell 2 rfl
   have k3:=H2.out.1.cm.cell 3 rfl
   have k4:=H2.out.1.cm.cell 4 rfl
   go_wp2_with fail
   refine(cw _).mono ?_
   rintro e w' ⟨rfl,hw⟩;subst w'
   go_wp2_with fail
   refine(cc.out _).mono ?_
   rintro e w4 ⟨rfl,b4⟩
   have H4:Hid (Ds w w4 (.slice uo xs.length uc) (.slice vo ys.length vc) (.slice qo h.ks.length qc) h c∧StB w4 (w0.heap.size) 36 (anA ⟨7,[]⟩)∧w.heap.size+5≤w4.heap.size):=⟨H2.out.1.next b4,H2.out.2.1.below b4,Nat.le_trans H2.out.2.2 b4.size⟩
   clear H2 b4 k0 k1 k2 k3 k4 cw cc
   cases o with
   |false=>
    have HR:Hid (R=(⟨xs,ys,h⟩,⟨7,[]⟩)):=HE.out
    clear HE HI HCD
    have CC:Hid (∀wx,Below w4.heap.size w4 wx→Calls Tryz.prog 39 #[.agg #[.slice uo xs.length uc,.slice vo ys.length vc,.slice qo h.ks.length qc,.int .i64 h.kd,.int .i64 h.ho,.int .i64 h.tu]] wx fun e w'=>∃a b k,e=.returned (.agg (srA a b k h))∧OwnR w' wx.heap.size a b k xs ys h.ks∧Below wx.heap.size wx w'):=fun wx e=>s12copy_any _ _ _ xs ys h wx ((HX.out.1.below H4.out.1.bl (Nat.le_refl _)).below e (Nat.le_refl _)) ((HX.out.2.1.below H4.out.1.bl (Nat.le_refl _)).below e (Nat.le_refl _)) ((HX.out.2.2.1.below H4.out.1.bl (Nat.le_refl _)).below e (Nat.le_refl _)) HX.out.2.2.2.1 HX.out.2.2.2.2.1 HX.out.2.2.2.2.2
    have t0:∀w',Sd (w.heap.size+1+1) (w.heap.size+1+1+1) w4 w'→w'.cell? ⟨w0.heap.size,0,none⟩=some (.int .i64 7):=fun w' b=>b _ _ (by have:=HS.out;dsimp only;omega) (by have:=HS.out;dsimp only;omega) (H4.out.2.1.cell 0 rfl)
    have t1:∀w',Sd (w.heap.size+1+1) (w.heap.size+1+1+1) w4 w'→w'.cell? ⟨w0.heap.size,1,none⟩=some (.string ⟨#[]⟩):=fun w' b=>b _ _ (by have:=HS.out;dsimp only;omega) (by have:=HS.out;dsimp only;omega) (H4.out.2.1.cell 1 rfl)
    have qq0:∀w',Sd (w.heap.size+1+1) (w.heap.size+1+1+1) w4 w'→w'.cell? ⟨w.heap.size,0,none⟩=some (.slice uo xs.length uc):=fun w' b=>b _ _ (by dsimp only;omega) (by dsimp only;omega) (H4.out.1.st.cell 0 rfl)
    have qq1:∀w',Sd (w.heap.size+1+1) (w.heap.size+1+1+1) w4 w'→w'.cell? ⟨w.heap.size,1,none⟩=some (.slice vo ys.length vc):=fun w' b=>b _ _ (by dsimp only;omega) (by dsimp only;omega) (H4.out.1.st.cell 1 rfl)
    have qq2:∀w',Sd (w.heap.size+1+1) (w.heap.size+1+1+1) w4 w'→w'.cell? ⟨w.heap.size,2,none⟩=some (.slice qo h.ks.length qc):=fun w' b=>b _ _ (by dsimp only;omega) (by dsimp only;omega) (H4.out.1.st.cell 2 rfl)
    have qq3:∀w',Sd (w.heap.size+1+1) (w.heap.size+1+1+1) w4 w'→w'.cell? ⟨w.heap.size,3,none⟩=some (.int .i64 h.kd):=fun w' b=>b _ _ (by dsimp only;omega) (by dsimp only;omega) (H4.out.1.st.cell 3 rfl)
    have qq4:∀w',Sd (w.heap.size+1+1) (w.heap.size+1+1+1) w4 w'→w'.cell? ⟨w.heap.size,4,none⟩=some (.int .i64 h.ho):=fun w' b=>b _ _ (by dsimp only;omega) (by dsimp only;omega) (H4.out.1.st.cell 4 rfl)
    have qq5:∀w',Sd (w.heap.size+1+1) (w.heap.size+1+1+1) w4 w'→w'.cell? ⟨w.heap.size,5,none⟩=some (.int .i64 h.tu):=fun w' b=>b _ _ (by dsimp only;omega) (by dsimp only;omega) (H4.out.1.st.cell 5 rfl)
    go_upto_region 5 with fail
    go_region_held3 (fun w'=>Sd (w.heap.size+1+1) (w.heap.size+1+1+1) w4 w') ((repeat'(first|with_reducible assumption|with_reducible exact Sd.refl _ _ _|with_reducible refine Sd.al ?_|with_reducible refine Sd.dr ?_|with_reducible refine Sd.set1 ?_|with_reducible refine Sd.set2 ?_|with_reducible refine Sd.put1 ?_ (by with_reducible assumption)|with_reducible refine Sd.put2 ?_ (by with_reducible assumption)|with_reducible refine Sd.bel ?_ (by with_reducible assumption))))
     (first
      |(go_at_call 39;refine(CC.out _ (by repeat'(first|with_reducible assumption|with_reducible exact Below.refl _ _|with_reducible refine bel_alloc ?_|with_reducible refine bel_drew ?_|with_reducible refine bel_trans ?_ (by with_reducible assumption)))).mono ?_;rintro e w5 ⟨a,b,k,rfl,o5,b5⟩;obtain⟨ao,ac,rfl⟩:=o5.1.1.reads.form;obtain⟨bo,bc,rfl⟩:=o5.1.2.1.reads.form;obtain⟨ko,kc,rfl⟩:=o5.2.1.reads.form;have H5:Hid (Ds w w5 (.slice uo xs.length uc) (.slice vo ys.length vc) (.slice qo h.ks.length qc) h c∧OwnR w5 (w.heap.size+4) (.slice ao xs.length ac) (.slice bo ys.length bc) (.slice ko h.ks.length kc) xs ys h.ks):=⟨H4.out.1.next (by repeat'(first|with_reducible assumption|with_reducible exact Below.refl _ _|with_reducible refine bel_alloc ?_|with_reducible refine bel_drew ?_|with_reducible refine bel_trans ?_ (by with_reducible assumption))),o5.mono (Nat.le_trans H4.out.1.sz (bel_size (by repeat'(first|with_reducible assumption|with_reducible exact Below.refl _ _|with_reducible refine bel_alloc ?_|with_reducible refine bel_drew ?_|with_reducible refine bel_trans ?_ (by with_reducible assumption)))))⟩;clear o5)
      |((with_reducible show Oper.upon _ _ _ _ _ (Result.andThen (Sem.run _ (storeCells _ (srA _ _ _ _).toList) _) _));refine upon_putS (w.heap.size+1+1) 30 (srA (.slice ao xs.length ac) (.slice bo ys.length bc) (.slice ko h.ks.length kc) h) zeR rfl (srA_one h rfl rfl rfl) H5.out.1.rs ?_;intro w6 s6 g6;have ra:=H5.out.1.ra.kept g6 (by simp);have r0:w6.cell? ⟨w.heap.size+1+1+1,0,none⟩=some (.int .i64 0):=ra.cell 0 rfl;have r1:w6.cell? ⟨w.heap.size+1+1+1,1,none⟩=some (.string ⟨#[]⟩):=ra.cell 1 rfl;have f0:=ra.frozen 0;have f1:=ra.frozen 1))
    all_goals
     go_wp2
     have S7:=(ra.put 0 (.int .i64 7) rfl).put 1 (.string ⟨#[]⟩) (ds:=anA ⟨7,[]⟩) rfl
     have G7:=(grownSet w6 (w.heap.size+1+1+1) 0 (.int .i64 7)).trans (grownSet _ (w.heap.size+1+1+1) 1 (.string ⟨#[]⟩))
     refine bodyPost_ret (results_RA rfl _ _ (w.heap.size+1+1) (w.heap.size+1+1+1) _ _ rfl rfl rfl rfl (s6.kept G7 (by simp)) S7) rfl ?_
     rw[HR.out]
     exact⟨_,_,_,rfl,H5.out.1.fin H5.out.2 (Nat.le_refl _) g6 G7⟩
   |true=>
    have HR:Hid (R=Sr.doing ⟨xs,ys,h⟩ i c):=HE.out
    clear HE
    have c5:=HCD.out (by first|rfl|trivial) w4 (HX.out.1.below H4.out.1.bl (Nat.le_refl _)) (HX.out.2.1.below H4.out.1.bl (Nat.le_refl _)) (HX.out.2.2.1.below H4.out.1.bl (Nat.le_refl _)) (by first|rfl|trivial)
    rw[←HR.out]at c5
    obtain⟨⟨ks,ns,hh⟩,an⟩:=R
    dsimp only at c5
    unfold SRV CV cmA AV at c5
    conv at c5 in srA (.slice uo xs.length uc) (.slice vo ys.length vc) (.slice qo h.ks.length qc) _=>unfold srA
    have k0:=H4.out.1.cm.cell 0 rfl
    have k1:=H4.out.1.cm.cell 1 rfl
    have k2:=H4.out.1.cm.cell 2 rfl
    have k3:=H4.out.1.cm.cell 3 rfl
    have k4:=H4.out.1.cm.cell 4 rfl
    have s0:=H4.out.1.st.cell 0 rfl
    have s1:=H4.out.1.st.cell 1 rfl
    have s2:=H4.out.1.st.cell 2 rfl
    have s3:=H4.out.1.st.cell 3 rfl
    have s4:=H4.out.1.st.cell 4 rfl
    have s5:=H4.out.1.st.cell 5 rfl
    clear HCD HI HR HB HX
    go_wp2_with fail
    refine c5.mono ?_
    rintro e w5 ⟨a,b,k,rfl,o5,b5⟩
    obtain⟨ao,ac,rfl⟩:=o5.1.1.reads.form
    obtain⟨bo,bc,rfl⟩:=o5.1.2.1.reads.form
    obtain⟨ko,kc,rfl⟩:=o5.2.1.reads.form
    have H5:Hid (Ds w w5 (.slice uo xs.length uc) (.slice vo ys.length vc) (.slice qo h.ks.length qc) h c∧OwnR w5 (w.heap.size+4) (.slice ao ks.length ac) (.slice bo ns.length bc) (.slice ko hh.ks.length kc) ks ns hh.ks):=⟨H4.out.1.next b5,o5.mono H4.out.1.sz⟩
    clear H4 o5 b5 c5 k0 k1 k2 k3 k4 s0 s1 s2 s3 s4 s5
    go_wp2_with (first
     |(refine wpList_putS Tryz.isR rfl _ _ rfl (w.heap.size+1+1) (srA (.slice ao ks.length ac) (.slice bo ns.length bc) (.slice ko hh.ks.length kc) hh) zeR rfl rfl rfl rfl (srA_one hh rfl rfl rfl) H5.out.1.rs ?_;intro w6 s6 g6)
     |(refine wpList_putS Tryz.isA rfl _ _ rfl (w.heap.size+1+1+1) (anA an) (anA ⟨0,[]⟩) rfl rfl rfl rfl (anA_one _) (H5.out.1.ra.kept g6 (by simp)) ?_;intro w7 s7 g7))
    refine bodyPost_ret (results_RA rfl _ _ (w.heap.size+1+1) (w.heap.size+1+1+1) _ _ rfl rfl rfl rfl (s6.kept g7 (by simp)) s7) rfl ?_
    exact⟨_,_,_,rfl,H5.out.1.fin H5.out.2 (Nat.le_refl _) g6 g7⟩
end Go.Proofs.YtpdggofaobmnlaaGreatDoor
