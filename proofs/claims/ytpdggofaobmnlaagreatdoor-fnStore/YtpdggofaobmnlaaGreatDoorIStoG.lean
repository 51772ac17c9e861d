import Derived.Test.YtpdggofaobmnlaaGreatDoorM26
import Derived.Test.YtpdggofaobmnlaaGreatDoorM27
import Derived.Test.YtpdggofaobmnlaaGreatDoorM30
import Derived.Test.YtpdggofaobmnlaaGreatDoorM33
import Derived.Test.YtpdggofaobmnlaaGreatDoorM25
import Derived.Test.YtpdggofaobmnlaaGreatDoorM17
/- The program's store by commands: holdingCommanded, blocksCommanded. -/
set_option maxRecDepth 20000
set_option maxHeartbeats 2000000
namespace Go.Proofs.YtpdggofaobmnlaaGreatDoor
open Go.ChangeShapes Go.WideShapes Go.ChangeAt Go.RowKit
structure Cx (w wx:World) (u v q:Value) (h:Hd) (c:Cm):Prop where
 st:StB wx w.heap.size 30 (srA u v q h)
 cm:StB wx (w.heap.size+1) 32 (cmA c)
 rs:StB wx (w.heap.size+1+1) 30 zeR
 bl:Below w.heap.size w wx
 sz:w.heap.size+3≤wx.heap.size
theorem Cx.start (w:World) (u v q:Value) (h:Hd) (c:Cm):Cx w (((w.alloc (.cells (srA u v q h) 30)).alloc (.cells (cmA c) 32)).alloc (.cells zeR 30)) u v q h c:=by
 have a2:=StB.new (w.alloc (.cells (srA u v q h) 30)) 32 (cmA c)
 have a3:=StB.new ((w.alloc (.cells (srA u v q h) 30)).alloc (.cells (cmA c) 32)) 30 zeR
 simp only[World.size_alloc]at a2 a3
 exact⟨((StB.new w _ _).alloc _).alloc _,a2.alloc _,a3,(((Below.refl _ _).alloc (Nat.le_refl _) _).alloc (by simp) _).alloc (by simp;omega) _,by simp⟩
theorem Cx.next {w wx wy:World} {u v q:Value} {h:Hd} {c:Cm} (d:Cx w wx u v q h c) (b:Below wx.heap.size wx wy):Cx w wy u v q h c:=
 ⟨d.st.below b,d.cm.below b,d.rs.below b,d.bl.trans (b.mono d.bl.size),Nat.le_trans d.sz b.size⟩
theorem iholdCmd_any (f:Four) (u v q:Value) (xs ys:List Int) (h:Hd) (i:Int) (c:Cm) (w:World) (hu:Reads w u xs) (hv:Reads w v ys) (hq:Reads w q h.ks) (hb:bothOk xs ys=true) (ok:h.ok=true) (S:Sen f w):
  Calls Tryz.prog 78 #[SRV u v q h,.int .i64 i,CV c] w fun e w'=>∃a b k,e=.returned (.tuple #[SRV a b k (h.after i c).1,.string ⟨#[]⟩,errV f (acSt (h.after i c).2) []])∧OwnR w' w.heap.size a b k xs ys (h.after i c).1.ks∧Below w.heap.size w w':=by
 obtain⟨w1,hw1⟩:∃w1,w1=((w.alloc (.cells (srA u v q h) 30)).alloc (.cells (cmA c) 32)).alloc (.cells zeR 30):=⟨_,rfl⟩
 have HX:Hid (Cx w w1 u v q h c):=by rw[hw1];exact Cx.start w u v q h c
 have HRD:Hid (Reads w u xs∧Reads w v ys∧Reads w q h.ks):=⟨hu,hv,hq⟩
 have HSN:Hid (Sen f w):=S
 obtain⟨n1,n8,nl⟩:=vol_len hb
 have gx:xs.length≤1099511627776:=by omega
 have gy:ys.length≤1099511627776:=by omega
 have hx1:1≤xs.length:=by omega
 have hy1:1≤ys.length:=by omega
 have hk4:=(Hd.ok_all ok).1
 have hk1:1≤h.ks.length:=by omega
 have gk:h.ks.length≤1099511627776:=by omega
 have c1:=iheldAfter_any q h i c w1 (hq.below HX.out.bl (Nat.le_refl _)) gk
 have C3:Hid (∀wx,Below w.heap.size w wx→Calls Tryz.prog 79 #[.agg #[u,v]] wx fun e w'=>∃a b,e=.returned (.agg #[a,b])∧OwnD w' wx.heap.size a b xs ys∧Below wx.heap.size wx w'):=fun wx e=>freshDisk_any u v xs ys wx (hu.below e (Nat.le_refl _)) (hv.below e (Nat.le_refl _)) hx1 hy1 gx gy
 obtain⟨r,hr⟩:∃r,r=h.after i c:=⟨_,rfl⟩
 rw[←hr]at c1⊢
 have C4':=fun wx (e:Below w.heap.size w wx)=>irefAct_any f r.2 wx (S.below e)
 obtain⟨EV,hEV⟩:∃EV,EV=errV f (acSt r.2) []:=⟨_,rfl⟩
 rw[←hEV]at C4'⊢
 have C4:Hid (∀wx,Below w.heap.size w wx→Calls Tryz.prog 115 #[.int .i64 r.2] wx fun e w'=>e=.returned EV∧w'=wx):=C4'
 obtain⟨uo,uc,rfl⟩:=reads_form hu
 obtain⟨vo,vc,rfl⟩:=reads_form hv
 obtain⟨qo,qc,rfl⟩:=reads_form hq
 clear hr hEV C4' hu hv hq hb ok S gx gy gk hx1 hy1 hk1 hk4 n1 n8 nl
 unfold Ans HV at c1
 unfold SRV CV
 conv in srA (.slice uo xs.length uc) (.slice vo ys.length vc) (.slice qo h.ks.length qc) _=>unfold srA
 unfold cmA
 unfold srA cmA zeR at hw1
 have k2:w1.cell? ⟨w.heap.size,2,none⟩=some (.slice qo h.ks.length qc):=HX.out.st.cell 2 rfl
 have k3:w1.cell? ⟨w.heap.size,3,none⟩=some (.int .i64 h.kd):=HX.out.st.cell 3 rfl
 have k4:w1.cell? ⟨w.heap.size,4,none⟩=some (.int .i64 h.ho):=HX.out.st.cell 4 rfl
 have k5:w1.cell? ⟨w.heap.size,5,none⟩=some (.int .i64 h.tu):=HX.out.st.cell 5 rfl
 have m0:w1.cell? ⟨w.heap.size+1,0,none⟩=some (.int .i64 c.o):=HX.out.cm.cell 0 rfl
 have m1:w1.cell? ⟨w.heap.size+1,1,none⟩=some (.int .i64 c.p):=HX.out.cm.cell 1 rfl
 have m2:w1.cell? ⟨w.heap.size+1,2,none⟩=some (.int .i64 c.a):=HX.out.cm.cell 2 rfl
 have m3:w1.cell? ⟨w.heap.size+1,3,none⟩=some (.int .i64 c.b):=HX.out.cm.cell 3 rfl
 have m4:w1.cell? ⟨w.heap.size+1,4,none⟩=some (.int .i64 c.k):=HX.out.cm.cell 4 rfl
 go_enter Tryz.func78,Tryz.ntmps78
 go_upto_region 1 with fail
 rw[←hw1]
 clear hw1
 go_wp2_with fail
 refine c1.mono ?_
 rintro e w2 ⟨z,rfl,o2,b2⟩
 obtain⟨zo,zc,rfl⟩:=reads_form o2.reads
 conv in hdA (.slice zo r.1.ks.length zc) _=>unfold hdA
 clear k2 k3 k4 k5 m0 m1 m2 m3 m4 c1
 obtain⟨w3,hw3⟩:∃w3,w3=w2.alloc (.cells #[.slice zo r.1.ks.length zc,.int .i64 r.1.kd,.int .i64 r.1.ho,.int .i64 r.1.tu] 28):=⟨_,rfl⟩
 have b3:Below w2.heap.size w2 w3:=by rw[hw3];exact(Below.refl _ _).alloc (Nat.le_refl _) _
 have X3:Hid (Cx w w3 (.slice uo xs.length uc) (.slice vo ys.length vc) (.slice qo h.ks.length qc) h c):=(HX.out.next b2).next b3
 have O3:Hid (Own w3 (w.heap.size+3) (.slice zo r.1.ks.length zc) r.1.ks∧StB w3 w2.heap.size 28 #[.slice zo r.1.ks.length zc,.int .i64 r.1.kd,.int .i64 r.1.ho,.int .i64 r.1.tu]∧w.heap.size+3≤w2.heap.size):=⟨(o2.mono HX.out.sz).below b3,by rw[hw3];exact StB.new _ _ _,Nat.le_trans HX.out.sz b2.size⟩
 clear o2 b2 b3 HX
 go_upto_region 2 with fail
 rw[←hw3]
 clear hw3
 obtain⟨g,hg⟩:∃g,g=w2.heap.size:=⟨_,rfl⟩
 rw[←hg]at O3⊢
 clear hg
 have C5:Hid (∀wx,Below w3.heap.size w3 wx→Below w.heap.size w wx):=fun wx e=>X3.out.bl.trans (e.mono X3.out.bl.size)
 have q0:∀w',Sp (w.heap.size+1+1) w3 w'→w'.cell? ⟨w.heap.size,0,none⟩=some (.slice uo xs.length uc):=fun w' b=>b _ _ (by dsimp only;omega) (X3.out.st.cell 0 rfl)
 have q1:∀w',Sp (w.heap.size+1+1) w3 w'→w'.cell? ⟨w.heap.size,1,none⟩=some (.slice vo ys.length vc):=fun w' b=>b _ _ (by dsimp only;omega) (X3.out.st.cell 1 rfl)
 have p0:∀w',Sp (w.heap.size+1+1) w3 w'→w'.cell? ⟨g,0,none⟩=some (.slice zo r.1.ks.length zc):=fun w' b=>b _ _ (by have:=O3.out.2.2;dsimp only;omega) (O3.out.2.1.cell 0 rfl)
 have p1:∀w',Sp (w.heap.size+1+1) w3 w'→w'.cell? ⟨g,1,none⟩=some (.int .i64 r.1.kd):=fun w' b=>b _ _ (by have:=O3.out.2.2;dsimp only;omega) (O3.out.2.1.cell 1 rfl)
 have p2:∀w',Sp (w.heap.size+1+1) w3 w'→w'.cell? ⟨g,2,none⟩=some (.int .i64 r.1.ho):=fun w' b=>b _ _ (by have:=O3.out.2.2;dsimp only;omega) (O3.out.2.1.cell 2 rfl)
 have p3:∀w',Sp (w.heap.size+1+1) w3 w'→w'.cell? ⟨g,3,none⟩=some (.int .i64 r.1.tu):=fun w' b=>b _ _ (by have:=O3.out.2.2;dsimp only;omega) (O3.out.2.1.cell 3 rfl)
 go_region_held3 (fun w'=>Sp (w.heap.size+1+1) w3 w') ((repeat'(first|with_reducible assumption|with_reducible exact Sp.refl _ _|with_reducible refine Sp.al ?_|with_reducible refine Sp.dr ?_|with_reducible refine Sp.set ?_|with_reducible refine Sp.put ?_ (by with_reducible assumption)|with_reducible refine Sp.bel ?_ (by with_reducible assumption))))
  (first
   |(go_at_call 79;refine(C3.out _ (C5.out _ (by repeat'(first|with_reducible assumption|with_reducible exact Below.refl _ _|with_reducible refine bel_alloc ?_|with_reducible refine bel_drew ?_|with_reducible refine bel_trans ?_ (by with_reducible assumption))))).mono ?_;rintro e w4 ⟨a,b,rfl,o4,b4⟩;obtain⟨ao,ac,rfl⟩:=o4.1.reads.form;obtain⟨bo,bc,rfl⟩:=o4.2.1.reads.form;have B4:Hid (Below w3.heap.size w3 w4):=(show Below w3.heap.size w3 w4 from(by repeat'(first|with_reducible assumption|with_reducible exact Below.refl _ _|with_reducible refine bel_alloc ?_|with_reducible refine bel_drew ?_|with_reducible refine bel_trans ?_ (by with_reducible assumption))));have X4:Hid (Cx w w4 (.slice uo xs.length uc) (.slice vo ys.length vc) (.slice qo h.ks.length qc) h c):=X3.out.next B4.out;have ap:Hid (apart (.slice ao xs.length ac) (.slice zo r.1.ks.length zc)∧apart (.slice bo ys.length bc) (.slice zo r.1.ks.length zc)):=(have q1:=apart_of O3.out.1 o4.1 (bl_size (by repeat'(first|with_reducible assumption|with_reducible exact Below.refl _ _|with_reducible refine bel_alloc ?_|with_reducible refine bel_drew ?_|with_reducible refine bel_trans ?_ (by with_reducible assumption))));have q2:=apart_of O3.out.1 o4.2.1 (bl_size (by repeat'(first|with_reducible assumption|with_reducible exact Below.refl _ _|with_reducible refine bel_alloc ?_|with_reducible refine bel_drew ?_|with_reducible refine bel_trans ?_ (by with_reducible assumption))));⟨⟨q1.2,q1.1⟩,⟨q2.2,q2.1⟩⟩);have O4:Hid (OwnR w4 (w.heap.size+3) (.slice ao xs.length ac) (.slice bo ys.length bc) (.slice zo r.1.ks.length zc) xs ys r.1.ks):=⟨⟨o4.1.mono (Nat.le_trans X3.out.sz (bl_size (by repeat'(first|with_reducible assumption|with_reducible exact Below.refl _ _|with_reducible refine bel_alloc ?_|with_reducible refine bel_drew ?_|with_reducible refine bel_trans ?_ (by with_reducible assumption))))),o4.2.1.mono (Nat.le_trans X3.out.sz (bl_size (by repeat'(first|with_reducible assumption|with_reducible exact Below.refl _ _|with_reducible refine bel_alloc ?_|with_reducible refine bel_drew ?_|with_reducible refine bel_trans ?_ (by with_reducible assumption))))),o4.2.2⟩,O3.out.1.below B4.out,ap.out⟩;have R4:=X4.out.rs;have r0:w4.cell? ⟨w.heap.size+1+1,0,none⟩=some (.slice none 0 0):=R4.cell 0 rfl;have f0:=R4.frozen 0;have r1:w4.cell? ⟨w.heap.size+1+1,1,none⟩=some (.slice none 0 0):=R4.cell 1 rfl;have f1:=R4.frozen 1;have r2:w4.cell? ⟨w.heap.size+1+1,2,none⟩=some (.slice none 0 0):=R4.cell 2 rfl;have f2:=R4.frozen 2;have r3:w4.cell? ⟨w.heap.size+1+1,3,none⟩=some (.int .i64 0):=R4.cell 3 rfl;have f3:=R4.frozen 3;have r4:w4.cell? ⟨w.heap.size+1+1,4,none⟩=some (.int .i64 0):=R4.cell 4 rfl;have f4:=R4.frozen 4;have r5:w4.cell? ⟨w.heap.size+1+1,5,none⟩=some (.int .i64 0):=R4.cell 5 rfl;have f5:=R4.frozen 5;clear o4 ap)
   |(go_at_call 115;refine(C4.out _ (C5.out _ (by repeat'(first|with_reducible assumption|with_reducible exact Below.refl _ _|with_reducible refine bel_alloc ?_|with_reducible refine bel_drew ?_|with_reducible refine bel_trans ?_ (by with_reducible assumption))))).mono ?_;rintro e w5 ⟨rfl,hw5⟩;subst w5))
 all_goals
  go_wp2
  have R4:StB w4 (w.heap.size+1+1) 30 zeR:=X4.out.rs
  have G6:=put6_grown w4 (w.heap.size+1+1) (.slice ao xs.length ac) (.slice bo ys.length bc) (.slice zo r.1.ks.length zc) r.1
  refine bodyPost_ret (results_S3 Tryz.isR rfl _ _ (w.heap.size+1+1) (srA (.slice ao xs.length ac) (.slice bo ys.length bc) (.slice zo r.1.ks.length zc) r.1) _ _ rfl rfl rfl rfl (put6_st (.slice ao xs.length ac) (.slice bo ys.length bc) (.slice zo r.1.ks.length zc) r.1 R4)) rfl ?_
  exact⟨_,_,_,rfl,(O4.out.keptLt G6 (by omega)).mono (by omega),X4.out.bl.grown G6 X4.out.bl.size (fun k e=>by cases e;omega)⟩
theorem iblkNo_any (f:Four) (u v q:Value) (xs ys:List Int) (h:Hd) (i:Int) (c:Cm) (w:World) (hu:Reads w u xs) (hv:Reads w v ys) (hq:Reads w q h.ks) (hb:bothOk xs ys=true) (ok:h.ok=true) (S:Sen f w) (hm:h.May i c.wr=false):
  Calls Tryz.prog 75 #[SRV u v q h,.int .i64 i,CV c] w fun e w'=>e=.returned (.tuple #[.agg zeR,.string ⟨#[]⟩,rfV f 3 []])∧Below w.heap.size w w':=by
 obtain⟨w1,hw1⟩:∃w1,w1=((w.alloc (.cells (srA u v q h) 30)).alloc (.cells (cmA c) 32)).alloc (.cells zeR 30):=⟨_,rfl⟩
 have HX:Hid (Cx w w1 u v q h c):=by rw[hw1];exact Cx.start w u v q h c
 have HRD:Hid (Reads w u xs∧Reads w v ys∧Reads w q h.ks):=⟨hu,hv,hq⟩
 have HSN:Hid (Sen f w):=S
 obtain⟨n1,n8,nl⟩:=vol_len hb
 have gx:xs.length≤1099511627776:=by omega
 have gy:ys.length≤1099511627776:=by omega
 have hx1:1≤xs.length:=by omega
 have hy1:1≤ys.length:=by omega
 have hk4:=(Hd.ok_all ok).1
 have hk1:1≤h.ks.length:=by omega
 have gk:h.ks.length≤1099511627776:=by omega
 obtain⟨uo,uc,rfl⟩:=reads_form hu
 obtain⟨vo,vc,rfl⟩:=reads_form hv
 obtain⟨qo,qc,rfl⟩:=reads_form hq
 have CW:Hid (∀wx,Calls Tryz.prog 74 #[.agg #[.int .i64 c.o,.int .i64 c.p,.int .i64 c.a,.int .i64 c.b,.int .i64 c.k]] wx fun e w'=>e=.returned (.bool c.wr)∧Below wx.heap.size wx w'):=fun wx=>iwrites_any c wx
 have CM:Hid (∀wx,Below w1.heap.size w1 wx→Calls Tryz.prog 109 #[.agg #[.slice qo h.ks.length qc,.int .i64 h.kd,.int .i64 h.ho,.int .i64 h.tu],.int .i64 i,.bool c.wr] wx fun e w'=>e=.returned (.bool false)∧Below wx.heap.size wx w'):=fun wx e=>by
  have:=iMay_any (.slice qo h.ks.length qc) h i c.wr wx (HRD.out.2.2.below (HX.out.bl.trans (e.mono HX.out.bl.size)) (Nat.le_refl _)) gk
  rw[hm]at this
  exact this
 have HW:Hid (w1=((w.alloc (.cells #[.slice uo xs.length uc,.slice vo ys.length vc,.slice qo h.ks.length qc,.int .i64 h.kd,.int .i64 h.ho,.int .i64 h.tu] 30)).alloc (.cells #[.int .i64 c.o,.int .i64 c.p,.int .i64 c.a,.int .i64 c.b,.int .i64 c.k] 32)).alloc (.cells #[.slice none 0 0,.slice none 0 0,.slice none 0 0,.int .i64 0,.int .i64 0,.int .i64 0] 30)):=hw1
 clear hw1 hu hv hq hb ok S gx gy gk hx1 hy1 hk1 hk4 n1 n8 nl hm
 unfold SRV CV
 conv in srA (.slice uo xs.length uc) (.slice vo ys.length vc) (.slice qo h.ks.length qc) _=>unfold srA
 unfold cmA
 rw[show rfV f 3 []=.iface 99 (.agg #[.iface 247 (.pointer (some f.c)),.string ⟨#[]⟩])from rfl]
 go_enter Tryz.func75,Tryz.ntmps75
 go_upto_region 1 with fail
 rw[←HW.out]
 clear HW
 obtain⟨p,hp⟩:∃p,p=fun x=>Below w1.heap.size w1 x:=⟨_,rfl⟩
 have HQ:Hid (∀x,p x→Below w1.heap.size w1 x):=by rw[hp];exact fun _ h=>h
 have HN:Hid (∀x w',p x→Below x.heap.size x w'→p w'):=by rw[hp];exact fun _ _ h b=>h.trans (b.mono h.size)
 have H0:Hid (p w1.drew):=by rw[hp];exact(Below.refl _ _).drew
 have hne:Nonempty (Kin p):=⟨⟨_,H0.out⟩⟩
 have m2:∀q:Kin p,q.x.cell? ⟨w.heap.size,2,none⟩=some (.slice qo h.ks.length qc):=fun q=>later_cell (HX.out.st.cell 2 rfl) (HQ.out _ q.h)
 have m3:∀q:Kin p,q.x.cell? ⟨w.heap.size,3,none⟩=some (.int .i64 h.kd):=fun q=>later_cell (HX.out.st.cell 3 rfl) (HQ.out _ q.h)
 have m4:∀q:Kin p,q.x.cell? ⟨w.heap.size,4,none⟩=some (.int .i64 h.ho):=fun q=>later_cell (HX.out.st.cell 4 rfl) (HQ.out _ q.h)
 have m5:∀q:Kin p,q.x.cell? ⟨w.heap.size,5,none⟩=some (.int .i64 h.tu):=fun q=>later_cell (HX.out.st.cell 5 rfl) (HQ.out _ q.h)
 have l0:∀q:Kin p,q.x.cell? ⟨w.heap.size+1,0,none⟩=some (.int .i64 c.o):=fun q=>later_cell (HX.out.cm.cell 0 rfl) (HQ.out _ q.h)
 have l1:∀q:Kin p,q.x.cell? ⟨w.heap.size+1,1,none⟩=some (.int .i64 c.p):=fun q=>later_cell (HX.out.cm.cell 1 rfl) (HQ.out _ q.h)
 have l2:∀q:Kin p,q.x.cell? ⟨w.heap.size+1,2,none⟩=some (.int .i64 c.a):=fun q=>later_cell (HX.out.cm.cell 2 rfl) (HQ.out _ q.h)
 have l3:∀q:Kin p,q.x.cell? ⟨w.heap.size+1,3,none⟩=some (.int .i64 c.b):=fun q=>later_cell (HX.out.cm.cell 3 rfl) (HQ.out _ q.h)
 have l4:∀q:Kin p,q.x.cell? ⟨w.heap.size+1,4,none⟩=some (.int .i64 c.k):=fun q=>later_cell (HX.out.cm.cell 4 rfl) (HQ.out _ q.h)
 clear hp
 refine wp_region_kin p (by kernel_rfl) (by kernel_rfl) H0.out ?_
 repeat(quiet_step (first
  |(go_at_call 74;exact Kin.call (CW.out _) HN.out)
  |(go_at_call 109;exact Kin.call (CM.out _ (HQ.out _ (Kin.h _))) HN.out)))
 refine wpQuiet_nil ?_
 intro wk hk'
 have BK:Hid (Below w1.heap.size w1 wk):=by{obtain⟨q,rfl⟩:=hk';exact HQ.out _ q.h}
 clear hk' HQ HN H0 hne m2 m3 m4 m5 l0 l1 l2 l3 l4
 obtain⟨w2,hw2⟩:∃w2,w2=wk:=⟨_,rfl⟩
 rw[←hw2]at BK⊢
 clear hw2
 have X2:Hid (Cx w w2 (.slice uo xs.length uc) (.slice vo ys.length vc) (.slice qo h.ks.length qc) h c):=HX.out.next BK.out
 have kc:=(HSN.out.below X2.out.bl).c
 clear BK
 go_wp2_with (first
  |(go_at_call 72;refine(irefusedFor_any _ _ _).mono ?_;rintro e w' ⟨rfl,hw'⟩;subst w')
  |(refine wpList_putS Tryz.isR rfl _ _ rfl (w.heap.size+1+1) zeR zeR rfl rfl rfl rfl (srA_one Hd.zero rfl rfl rfl) X2.out.rs ?_;intro w5 s5 g5))
 refine bodyPost_ret (results_S3 Tryz.isR rfl _ _ (w.heap.size+1+1) _ _ _ rfl rfl rfl rfl s5) rfl ?_
 exact⟨rfl,X2.out.bl.grown g5 X2.out.bl.size (fun k e=>by cases e;omega)⟩
theorem iblkYes_any (f:Four) (u v q:Value) (xs ys:List Int) (h:Hd) (i:Int) (c:Cm) (w:World) (hu:Reads w u xs) (hv:Reads w v ys) (hq:Reads w q h.ks) (hb:bothOk xs ys=true) (ok:h.ok=true) (S:Sen f w) (ht:Tab w) (hm:h.May i c.wr=true) (hs:(didD xs ys c).2.2.st=0∨((didD xs ys c).2.2.st=1∧(didD xs ys c).2.2.tx=[])∨(didD xs ys c).2.2.st=2∨((didD xs ys c).2.2.st=7∧(didD xs ys c).2.2.tx=[])):
  Calls Tryz.prog 75 #[SRV u v q h,.int .i64 i,CV c] w fun e w'=>∃a b k,e=.returned (.tuple #[SRV a b k h,.string ⟨(didD xs ys c).2.2.tx.toArray⟩,errV f (didD xs ys c).2.2.st (didD xs ys c).2.2.tx])∧OwnR w' w.heap.size a b k (didD xs ys c).1 (didD xs ys c).2.1 h.ks∧Below w.heap.size w w':=by
 obtain⟨w1,hw1⟩:∃w1,w1=((w.alloc (.cells (srA u v q h) 30)).alloc (.cells (cmA c) 32)).alloc (.cells zeR 30):=⟨_,rfl⟩
 have HX:Hid (Cx w w1 u v q h c):=by rw[hw1];exact Cx.start w u v q h c
 have HRD:Hid (Reads w u xs∧Reads w v ys∧Reads w q h.ks):=⟨hu,hv,hq⟩
 have HSN:Hid (Sen f w):=S
 obtain⟨n1,n8,nl⟩:=vol_len hb
 have gx:xs.length≤1099511627776:=by omega
 have gy:ys.length≤1099511627776:=by omega
 have hx1:1≤xs.length:=by omega
 have hy1:1≤ys.length:=by omega
 have hk4:=(Hd.ok_all ok).1
 have hk1:1≤h.ks.length:=by omega
 have gk:h.ks.length≤1099511627776:=by omega
 have CD':=fun wx (e:Below w.heap.size w wx)=>iDidDisk_any u v xs ys c wx (hu.below e (Nat.le_refl _)) (hv.below e (Nat.le_refl _)) gx gy (ht.below e)
 have CH:Hid (∀wx,Below w.heap.size w wx→Calls Tryz.prog 80 #[HV q h] wx fun e w'=>∃u,e=.returned (HV u h)∧Own w' wx.heap.size u h.ks∧Below wx.heap.size wx w'):=fun wx e=>ifreshH_any q h wx (hq.below e (Nat.le_refl _)) hk1 gk
 have CR':=fun wx (e:Below w.heap.size w wx)=>irefDisk_any f (didD xs ys c).2.2 wx (S.below e) hs
 obtain⟨D,hD⟩:∃D,D=didD xs ys c:=⟨_,rfl⟩
 rw[←hD]at CD' CR'⊢
 obtain⟨EV,hEV⟩:∃EV,EV=errV f D.2.2.st D.2.2.tx:=⟨_,rfl⟩
 rw[←hEV]at CR'⊢
 obtain⟨dx,dy,an⟩:=D
 dsimp only at CD' CR'⊢
 clear hEV hD hs
 have CD:Hid (∀wx,Below w.heap.size w wx→Calls Tryz.prog 110 #[.agg #[u,v],.agg #[.int .i64 c.o,.int .i64 c.p,.int .i64 c.a,.int .i64 c.b,.int .i64 c.k]] wx fun e w'=>∃a b,e=.returned (.tuple #[.agg #[a,b],.agg #[.int .i64 an.st,.string ⟨an.tx.toArray⟩]])∧OwnD w' wx.heap.size a b dx dy∧Below wx.heap.size wx w'):=CD'
 have CR:Hid (∀wx,Below w.heap.size w wx→Calls Tryz.prog 111 #[.agg #[.int .i64 an.st,.string ⟨an.tx.toArray⟩]] wx fun e w'=>e=.returned EV∧Below wx.heap.size wx w'):=CR'
 clear CD' CR'
 obtain⟨uo,uc,rfl⟩:=reads_form hu
 obtain⟨vo,vc,rfl⟩:=reads_form hv
 obtain⟨qo,qc,rfl⟩:=reads_form hq
 have CW:Hid (∀wx,Calls Tryz.prog 74 #[.agg #[.int .i64 c.o,.int .i64 c.p,.int .i64 c.a,.int .i64 c.b,.int .i64 c.k]] wx fun e w'=>e=.returned (.bool c.wr)∧Below wx.heap.size wx w'):=fun wx=>iwrites_any c wx
 have CM:Hid (∀wx,Below w1.heap.size w1 wx→Calls Tryz.prog 109 #[.agg #[.slice qo h.ks.length qc,.int .i64 h.kd,.int .i64 h.ho,.int .i64 h.tu],.int .i64 i,.bool c.wr] wx fun e w'=>e=.returned (.bool true)∧Below wx.heap.size wx w'):=fun wx e=>by
  have:=iMay_any (.slice qo h.ks.length qc) h i c.wr wx (HRD.out.2.2.below (HX.out.bl.trans (e.mono HX.out.bl.size)) (Nat.le_refl _)) gk
  rw[hm]at this
  exact this
 unfold HV hdA at CH
 have HW:Hid (w1=((w.alloc (.cells #[.slice uo xs.length uc,.slice vo ys.length vc,.slice qo h.ks.length qc,.int .i64 h.kd,.int .i64 h.ho,.int .i64 h.tu] 30)).alloc (.cells #[.int .i64 c.o,.int .i64 c.p,.int .i64 c.a,.int .i64 c.b,.int .i64 c.k] 32)).alloc (.cells #[.slice none 0 0,.slice none 0 0,.slice none 0 0,.int .i64 0,.int .i64 0,.int .i64 0] 30)):=hw1
 clear hw1 hu hv hq hb ok S gx gy gk hx1 hy1 hk1 hk4 n1 n8 nl hm ht
 unfold SRV CV
 conv in srA (.slice uo xs.length uc) (.slice vo ys.length vc) (.slice qo h.ks.length qc) _=>unfold srA
 unfold cmA
 go_enter Tryz.func75,Tryz.ntmps75
 go_upto_region 1 with fail
 rw[←HW.out]
 clear HW
 obtain⟨p,hp⟩:∃p,p=fun x=>Below w1.heap.size w1 x:=⟨_,rfl⟩
 have HQ:Hid (∀x,p x→Below w1.heap.size w1 x):=by rw[hp];exact fun _ h=>h
 have HN:Hid (∀x w',p x→Below x.heap.size x w'→p w'):=by rw[hp];exact fun _ _ h b=>h.trans (b.mono h.size)
 have H0:Hid (p w1.drew):=by rw[hp];exact(Below.refl _ _).drew
 have hne:Nonempty (Kin p):=⟨⟨_,H0.out⟩⟩
 have m2:∀q:Kin p,q.x.cell? ⟨w.heap.size,2,none⟩=some (.slice qo h.ks.length qc):=fun q=>later_cell (HX.out.st.cell 2 rfl) (HQ.out _ q.h)
 have m3:∀q:Kin p,q.x.cell? ⟨w.heap.size,3,none⟩=some (.int .i64 h.kd):=fun q=>later_cell (HX.out.st.cell 3 rfl) (HQ.out _ q.h)
 have m4:∀q:Kin p,q.x.cell? ⟨w.heap.size,4,none⟩=some (.int .i64 h.ho):=fun q=>later_cell (HX.out.st.cell 4 rfl) (HQ.out _ q.h)
 have m5:∀q:Kin p,q.x.cell? ⟨w.heap.size,5,none⟩=some (.int .i64 h.tu):=fun q=>later_cell (HX.out.st.cell 5 rfl) (HQ.out _ q.h)
 have l0:∀q:Kin p,q.x.cell? ⟨w.heap.size+1,0,none⟩=some (.int .i64 c.o):=fun q=>later_cell (HX.out.cm.cell 0 rfl) (HQ.out _ q.h)
 have l1:∀q:Kin p,q.x.cell? ⟨w.heap.size+1,1,none⟩=some (.int .i64 c.p):=fun q=>later_cell (HX.out.cm.cell 1 rfl) (HQ.out _ q.h)
 have l2:∀q:Kin p,q.x.cell? ⟨w.heap.size+1,2,none⟩=some (.int .i64 c.a):=fun q=>later_cell (HX.out.cm.cell 2 rfl) (HQ.out _ q.h)
 have l3:∀q:Kin p,q.x.cell? ⟨w.heap.size+1,3,none⟩=some (.int .i64 c.b):=fun q=>later_cell (HX.out.cm.cell 3 rfl) (HQ.out _ q.h)
 have l4:∀q:Kin p,q.x.cell? ⟨w.heap.size+1,4,none⟩=some (.int .i64 c.k):=fun q=>later_cell (HX.out.cm.cell 4 rfl) (HQ.out _ q.h)
 clear hp
 refine wp_region_kin p (by kernel_rfl) (by kernel_rfl) H0.out ?_
 repeat(quiet_step (first
  |(go_at_call 74;exact Kin.call (CW.out _) HN.out)
  |(go_at_call 109;exact Kin.call (CM.out _ (HQ.out _ (Kin.h _))) HN.out)))
 refine wpQuiet_nil ?_
 intro wk hk'
 have BK:Hid (Below w1.heap.size w1 wk):=by{obtain⟨q,rfl⟩:=hk';exact HQ.out _ q.h}
 clear hk' HQ HN H0 hne m2 m3 m4 m5 l0 l1 l2 l3 l4
 obtain⟨w2,hw2⟩:∃w2,w2=wk:=⟨_,rfl⟩
 rw[←hw2]at BK⊢
 clear hw2
 have X2:Hid (Cx w w2 (.slice uo xs.length uc) (.slice vo ys.length vc) (.slice qo h.ks.length qc) h c):=HX.out.next BK.out
 have k0:w2.cell? ⟨w.heap.size,0,none⟩=some (.slice uo xs.length uc):=X2.out.st.cell 0 rfl
 have k1:w2.cell? ⟨w.heap.size,1,none⟩=some (.slice vo ys.length vc):=X2.out.st.cell 1 rfl
 have m0:w2.cell? ⟨w.heap.size+1,0,none⟩=some (.int .i64 c.o):=X2.out.cm.cell 0 rfl
 have m1:w2.cell? ⟨w.heap.size+1,1,none⟩=some (.int .i64 c.p):=X2.out.cm.cell 1 rfl
 have m2:w2.cell? ⟨w.heap.size+1,2,none⟩=some (.int .i64 c.a):=X2.out.cm.cell 2 rfl
 have m3:w2.cell? ⟨w.heap.size+1,3,none⟩=some (.int .i64 c.b):=X2.out.cm.cell 3 rfl
 have m4:w2.cell? ⟨w.heap.size+1,4,none⟩=some (.int .i64 c.k):=X2.out.cm.cell 4 rfl
 clear BK CW CM HX
 go_wp2_with fail
 refine(CD.out _ X2.out.bl).mono ?_
 rintro e w3 ⟨a,b,rfl,o3,b3⟩
 obtain⟨ao,ac,rfl⟩:=o3.1.reads.form
 obtain⟨bo,bc,rfl⟩:=o3.2.1.reads.form
 clear k0 k1 m0 m1 m2 m3 m4 CD
 obtain⟨w5,hw5⟩:∃w5,w5=(w3.alloc (.cells #[.slice ao dx.length ac,.slice bo dy.length bc] 26)).alloc (.cells #[.int .i64 an.st,.string ⟨an.tx.toArray⟩] 36):=⟨_,rfl⟩
 have b5:Below w3.heap.size w3 w5:=by rw[hw5];exact((Below.refl _ _).alloc (Nat.le_refl _) _).alloc (by simp) _
 have X3:Hid (Cx w w5 (.slice uo xs.length uc) (.slice vo ys.length vc) (.slice qo h.ks.length qc) h c):=(X2.out.next b3).next b5
 have O3:Hid (OwnD w5 (w.heap.size+3) (.slice ao dx.length ac) (.slice bo dy.length bc) dx dy∧StB w5 w3.heap.size 26 #[.slice ao dx.length ac,.slice bo dy.length bc]∧StB w5 (w3.heap.size+1) 36 #[.int .i64 an.st,.string ⟨an.tx.toArray⟩]∧w.heap.size+3≤w3.heap.size):=by
  have a2:=StB.new (w3.alloc (.cells #[.slice ao dx.length ac,.slice bo dy.length bc] 26)) 36 #[.int .i64 an.st,.string ⟨an.tx.toArray⟩]
  simp only[World.size_alloc]at a2
  exact⟨⟨(o3.1.mono X2.out.sz).below b5,(o3.2.1.mono X2.out.sz).below b5,o3.2.2⟩,by rw[hw5];exact(StB.new _ _ _).alloc _,by rw[hw5];exact a2,Nat.le_trans X2.out.sz b3.size⟩
 clear o3 b3 b5 X2
 go_upto_region 4 with fail
 rw[←hw5]
 clear hw5
 obtain⟨g,hg⟩:∃g,g=w3.heap.size:=⟨_,rfl⟩
 rw[←hg]at O3⊢
 clear hg
 have C5:Hid (∀wx,Below w5.heap.size w5 wx→Below w.heap.size w wx):=fun wx e=>X3.out.bl.trans (e.mono X3.out.bl.size)
 have q2:∀w',Sp (w.heap.size+1+1) w5 w'→w'.cell? ⟨w.heap.size,2,none⟩=some (.slice qo h.ks.length qc):=fun w' b=>b _ _ (by dsimp only;omega) (X3.out.st.cell 2 rfl)
 have q3:∀w',Sp (w.heap.size+1+1) w5 w'→w'.cell? ⟨w.heap.size,3,none⟩=some (.int .i64 h.kd):=fun w' b=>b _ _ (by dsimp only;omega) (X3.out.st.cell 3 rfl)
 have q4:∀w',Sp (w.heap.size+1+1) w5 w'→w'.cell? ⟨w.heap.size,4,none⟩=some (.int .i64 h.ho):=fun w' b=>b _ _ (by dsimp only;omega) (X3.out.st.cell 4 rfl)
 have q5:∀w',Sp (w.heap.size+1+1) w5 w'→w'.cell? ⟨w.heap.size,5,none⟩=some (.int .i64 h.tu):=fun w' b=>b _ _ (by dsimp only;omega) (X3.out.st.cell 5 rfl)
 have p0:∀w',Sp (w.heap.size+1+1) w5 w'→w'.cell? ⟨g,0,none⟩=some (.slice ao dx.length ac):=fun w' b=>b _ _ (by have:=O3.out.2.2.2;dsimp only;omega) (O3.out.2.1.cell 0 rfl)
 have p1:∀w',Sp (w.heap.size+1+1) w5 w'→w'.cell? ⟨g,1,none⟩=some (.slice bo dy.length bc):=fun w' b=>b _ _ (by have:=O3.out.2.2.2;dsimp only;omega) (O3.out.2.1.cell 1 rfl)
 have t0:∀w',Sp (w.heap.size+1+1) w5 w'→w'.cell? ⟨g+1,0,none⟩=some (.int .i64 an.st):=fun w' b=>b _ _ (by have:=O3.out.2.2.2;dsimp only;omega) (O3.out.2.2.1.cell 0 rfl)
 have t1:∀w',Sp (w.heap.size+1+1) w5 w'→w'.cell? ⟨g+1,1,none⟩=some (.string ⟨an.tx.toArray⟩):=fun w' b=>b _ _ (by have:=O3.out.2.2.2;dsimp only;omega) (O3.out.2.2.1.cell 1 rfl)
 go_region_held3 (fun w'=>Sp (w.heap.size+1+1) w5 w') ((repeat'(first|with_reducible assumption|with_reducible exact Sp.refl _ _|with_reducible refine Sp.al ?_|with_reducible refine Sp.dr ?_|with_reducible refine Sp.set ?_|with_reducible refine Sp.put ?_ (by with_reducible assumption)|with_reducible refine Sp.bel ?_ (by with_reducible assumption))))
  (first
   |(go_at_call 80;refine(CH.out _ (C5.out _ (by repeat'(first|with_reducible assumption|with_reducible exact Below.refl _ _|with_reducible refine bel_alloc ?_|with_reducible refine bel_drew ?_|with_reducible refine bel_trans ?_ (by with_reducible assumption))))).mono ?_;rintro e w6 ⟨z,rfl,o6,b6⟩;obtain⟨zo,zc,rfl⟩:=o6.reads.form;have B6:Hid (Below w5.heap.size w5 w6):=(show Below w5.heap.size w5 w6 from(by repeat'(first|with_reducible assumption|with_reducible exact Below.refl _ _|with_reducible refine bel_alloc ?_|with_reducible refine bel_drew ?_|with_reducible refine bel_trans ?_ (by with_reducible assumption))));have ap:Hid (apart (.slice ao dx.length ac) (.slice zo h.ks.length zc)∧apart (.slice bo dy.length bc) (.slice zo h.ks.length zc)):=⟨apart_of O3.out.1.1 o6 (bl_size (by repeat'(first|with_reducible assumption|with_reducible exact Below.refl _ _|with_reducible refine bel_alloc ?_|with_reducible refine bel_drew ?_|with_reducible refine bel_trans ?_ (by with_reducible assumption)))),apart_of O3.out.1.2.1 o6 (bl_size (by repeat'(first|with_reducible assumption|with_reducible exact Below.refl _ _|with_reducible refine bel_alloc ?_|with_reducible refine bel_drew ?_|with_reducible refine bel_trans ?_ (by with_reducible assumption))))⟩;have O6:Hid (OwnR w6 (w.heap.size+3) (.slice ao dx.length ac) (.slice bo dy.length bc) (.slice zo h.ks.length zc) dx dy h.ks):=⟨⟨O3.out.1.1.below B6.out,O3.out.1.2.1.below B6.out,O3.out.1.2.2⟩,o6.mono (Nat.le_trans X3.out.sz (bl_size (by repeat'(first|with_reducible assumption|with_reducible exact Below.refl _ _|with_reducible refine bel_alloc ?_|with_reducible refine bel_drew ?_|with_reducible refine bel_trans ?_ (by with_reducible assumption))))),ap.out⟩;clear o6 ap)
   |(go_at_call 111;refine(CR.out _ (C5.out _ (by repeat'(first|with_reducible assumption|with_reducible exact Below.refl _ _|with_reducible refine bel_alloc ?_|with_reducible refine bel_drew ?_|with_reducible refine bel_trans ?_ (by with_reducible assumption))))).mono ?_;rintro e w4 ⟨rfl,b4⟩;have B4:Hid (Below w5.heap.size w5 w4):=(show Below w5.heap.size w5 w4 from(by repeat'(first|with_reducible assumption|with_reducible exact Below.refl _ _|with_reducible refine bel_alloc ?_|with_reducible refine bel_drew ?_|with_reducible refine bel_trans ?_ (by with_reducible assumption))));have X4:Hid (Cx w w4 (.slice uo xs.length uc) (.slice vo ys.length vc) (.slice qo h.ks.length qc) h c):=X3.out.next B4.out;have O4:Hid (OwnR w4 (w.heap.size+3) (.slice ao dx.length ac) (.slice bo dy.length bc) (.slice zo h.ks.length zc) dx dy h.ks):=O6.out.below (by repeat'(first|with_reducible assumption|with_reducible exact Below.refl _ _|with_reducible refine bel_alloc ?_|with_reducible refine bel_drew ?_|with_reducible refine bel_trans ?_ (by with_reducible assumption)));have R4:=X4.out.rs;have r0:w4.cell? ⟨w.heap.size+1+1,0,none⟩=some (.slice none 0 0):=R4.cell 0 rfl;have f0:=R4.frozen 0;have r1:w4.cell? ⟨w.heap.size+1+1,1,none⟩=some (.slice none 0 0):=R4.cell 1 rfl;have f1:=R4.frozen 1;have r2:w4.cell? ⟨w.heap.size+1+1,2,none⟩=some (.slice none 0 0):=R4.cell 2 rfl;have f2:=R4.frozen 2;have r3:w4.cell? ⟨w.heap.size+1+1,3,none⟩=some (.int .i64 0):=R4.cell 3 rfl;have f3:=R4.frozen 3;have r4:w4.cell? ⟨w.heap.size+1+1,4,none⟩=some (.int .i64 0):=R4.cell 4 rfl;have f4:=R4.frozen 4;have r5:w4.cell? ⟨w.heap.size+1+1,5,none⟩=some (.int .i64 0):=R4.cell 5 rfl;have f5:=R4.frozen 5;skip))
 all_goals
  go_wp2
  have R4:StB w4 (w.heap.size+1+1) 30 zeR:=X4.out.rs
  have G6:=put6_grown w4 (w.heap.size+1+1) (.slice ao dx.length ac) (.slice bo dy.length bc) (.slice zo h.ks.length zc) h
  refine bodyPost_ret (results_S3 Tryz.isR rfl _ _ (w.heap.size+1+1) (srA (.slice ao dx.length ac) (.slice bo dy.length bc) (.slice zo h.ks.length zc) h) _ _ rfl rfl rfl rfl (put6_st (.slice ao dx.length ac) (.slice bo dy.length bc) (.slice zo h.ks.length zc) h R4)) rfl ?_
  exact⟨_,_,_,rfl,(O4.out.keptLt G6 (by omega)).mono (by omega),X4.out.bl.grown G6 X4.out.bl.size (fun k e=>by cases e;omega)⟩
end Go.Proofs.YtpdggofaobmnlaaGreatDoor
