/- The program's store by commands: holdingCommanded, blocksCommanded. -/
import Derived.Test.YthldeiojlllkdaaGreatDoorM24
import Derived.Lib.ParseIntBTie
set_option maxRecDepth 20000
set_option maxHeartbeats 2000000
namespace Go.Proofs.YthldeiojlllkdaaGreatDoor
open Go.ChangeShapes Go.WideShapes Go.ChangeAt Go.RowKit
structure Cx (w wx:World) (u v q:Value) (h:Hd) (c:Cm):Prop where
 st:StB wx w.heap.size 96 (srA u v q h)
 cm:StB wx (w.heap.size+1) 66 (cmA c)
 rs:StB wx (w.heap.size+1+1) 96 zeR
 bl:iO w wx
 sz:w.heap.size+3<=wx.heap.size
theorem Cx.start (w:World) (u v q:Value) (h:Hd) (c:Cm):Cx w (((w.alloc (.cells (srA u v q h) 96)).alloc (.cells (cmA c) 66)).alloc (.cells zeR 96)) u v q h c:=by
 have a2:=StB.new (w.alloc (.cells (srA u v q h) 96)) 66 (cmA c);have a3:=StB.new ((w.alloc (.cells (srA u v q h) 96)).alloc (.cells (cmA c) 66)) 96 zeR;simp only[World.size_alloc]at a2 a3;exact⟨((StB.new w _ _).alloc _).alloc _,a2.alloc _,a3,(Fc.alloc Fg _).alloc (by simp;omega) _,by simp⟩
theorem Cx.next {w wx wy:World} {u v q:Value} {h:Hd} {c:Cm} (d:Cx w wx u v q h c) (b:iO wx wy):Cx w wy u v q h c:=
 ⟨d.st.below b,d.cm.below b,d.rs.below b,d.bl.trans (b.mono d.bl.size),Nat.le_trans d.sz b.size⟩
theorem rW (f:eO) (u v q:Value) (xs ys:List Int) (h:Hd) (i:Int) (c:Cm) (w:World) (hu:ag w u xs) (hv:ag w v ys) (hq:ag w q h.ks) (hb:au xs ys=true) (ok:h.ok=true) (S:Sen f w):
  Calls Tryz.prog 161 #[SRV u v q h,.int .i64 i,CV c] w fun e w'=>∃a b k,e=.returned (.tuple #[SRV a b k (h.after i c).1,.string ⟨#[]⟩,jH f (lT (h.after i c).2) []])/\aZ w' w.heap.size a b k xs ys (h.after i c).1.ks/\iO w w':=by
 obtain⟨w1,hw1⟩:=Fe (((w.alloc (.cells (srA u v q h) 96)).alloc (.cells (cmA c) 66)).alloc (.cells zeR 96))
 have HX:Hid (Cx w w1 u v q h c):=by rw[hw1];exact Cx.start w u v q h c
 have HRD:Hid (ag w u xs/\ag w v ys/\ag w q h.ks):=⟨hu,hv,hq⟩
 have HSN:Hid (Sen f w):=S;obtain⟨n1,n8,nl⟩:=cI hb;have gx:xs.length<=1099511627776:=by omega
 have gy:ys.length<=1099511627776:=by omega
 have hx1:1<=xs.length:=by omega
 have hy1:1<=ys.length:=by omega
 have hk4:=(Hd.ok_all ok).1;have hk1:1<=h.ks.length:=by omega
 have gk:h.ks.length<=1099511627776:=by omega
 have c1:=oA q h i c w1 (hq.below HX.out.bl (Nat.le_refl _)) gk;have C3:Hid (∀wx,iO w wx->Calls Tryz.prog 111 #[.agg #[u,v]] wx fun e w'=>∃a b,e=.returned (.agg #[a,b])/\aV w' wx.heap.size a b xs ys/\iO wx w'):=fun wx e=>dJ u v xs ys wx (hu.below e (Nat.le_refl _)) (hv.below e (Nat.le_refl _)) hx1 hy1 gx gy
 obtain⟨r,hr⟩:=Fe (h.after i c)
 rw[<-hr]at c1⊢;have C4':=fun wx (e:iO w wx)=>ub f r.2 wx (S.below e)
 obtain⟨EV,hEV⟩:=Fe (jH f (lT r.2) [])
 rw[<-hEV]at C4'⊢;have C4:Hid (∀wx,iO w wx->Calls Tryz.prog 199 #[.int .i64 r.2] wx fun e w'=>e=.returned EV/\w'=wx):=C4';obtain⟨uo,uc,rfl⟩:=aa hu;obtain⟨vo,vc,rfl⟩:=aa hv;obtain⟨qo,qc,rfl⟩:=aa hq;clear hr hEV C4' hu hv hq hb ok S gx gy gk hx1 hy1 hk1 hk4 n1 n8 nl;unfold Ans HV at c1;unfold SRV CV;conv in srA (.slice uo xs.length uc) (.slice vo ys.length vc) (.slice qo h.ks.length qc) _=>unfold srA
 unfold cmA;unfold srA cmA zeR at hw1;have k2:w1.cell? ⟨w.heap.size,2,none⟩=some (.slice qo h.ks.length qc):=HX.out.st.cell 2 rfl;have k3:w1.cell? ⟨w.heap.size,3,none⟩=some (.int .i64 h.kd):=HX.out.st.cell 3 rfl;have k4:w1.cell? ⟨w.heap.size,4,none⟩=some (.int .i64 h.ho):=HX.out.st.cell 4 rfl;have k5:w1.cell? ⟨w.heap.size,5,none⟩=some (.int .i64 h.tu):=HX.out.st.cell 5 rfl;have m0:w1.cell? ⟨w.heap.size+1,0,none⟩=some (.int .i64 c.o):=HX.out.cm.cell 0 rfl;have m1:w1.cell? ⟨w.heap.size+1,1,none⟩=some (.int .i64 c.p):=HX.out.cm.cell 1 rfl;have m2:w1.cell? ⟨w.heap.size+1,2,none⟩=some (.int .i64 c.a):=HX.out.cm.cell 2 rfl;have m3:w1.cell? ⟨w.heap.size+1,3,none⟩=some (.int .i64 c.b):=HX.out.cm.cell 3 rfl;have m4:w1.cell? ⟨w.heap.size+1,4,none⟩=some (.int .i64 c.k):=HX.out.cm.cell 4 rfl;go_enter Tryz.func161,Tryz.ntmps161;go_upto_region 1 with fail
 rw[<-hw1];clear hw1;go_wp2_with fail
 refine c1.mono ?_;rintro e w2 ⟨z,rfl,o2,b2⟩;obtain⟨zo,zc,rfl⟩:=aa o2.reads;conv in hdA (.slice zo r.1.ks.length zc) _=>unfold hdA
 clear k2 k3 k4 k5 m0 m1 m2 m3 m4 c1;obtain⟨w3,hw3⟩:=Fe (w2.alloc (.cells #[.slice zo r.1.ks.length zc,.int .i64 r.1.kd,.int .i64 r.1.ho,.int .i64 r.1.tu] 37))
 have b3:iO w2 w3:=by rw[hw3];exact Fc
 have X3:Hid (Cx w w3 (.slice uo xs.length uc) (.slice vo ys.length vc) (.slice qo h.ks.length qc) h c):=(HX.out.next b2).next b3;have O3:Hid (Own w3 (w.heap.size+3) (.slice zo r.1.ks.length zc) r.1.ks/\StB w3 w2.heap.size 37 #[.slice zo r.1.ks.length zc,.int .i64 r.1.kd,.int .i64 r.1.ho,.int .i64 r.1.tu]/\w.heap.size+3<=w2.heap.size):=⟨(o2.mono HX.out.sz).below b3,by rw[hw3];exact StB.new _ _ _,Nat.le_trans HX.out.sz b2.size⟩
 clear o2 b2 b3 HX;go_upto_region 2 with fail
 rw[<-hw3];clear hw3;obtain⟨g,hg⟩:=Fe w2.heap.size
 rw[<-hg]at O3⊢;clear hg;have C5:Hid (∀wx,iO w3 wx->iO w wx):=fun wx e=>X3.out.bl.trans (e.mono X3.out.bl.size)
 have q0:∀w',Sp (w.heap.size+1+1) w3 w'->w'.cell? ⟨w.heap.size,0,none⟩=some (.slice uo xs.length uc):=fun w' b=>b _ _ (by dsimp only;omega) (X3.out.st.cell 0 rfl)
 have q1:∀w',Sp (w.heap.size+1+1) w3 w'->w'.cell? ⟨w.heap.size,1,none⟩=some (.slice vo ys.length vc):=fun w' b=>b _ _ (by dsimp only;omega) (X3.out.st.cell 1 rfl)
 have p0:∀w',Sp (w.heap.size+1+1) w3 w'->w'.cell? ⟨g,0,none⟩=some (.slice zo r.1.ks.length zc):=fun w' b=>b _ _ (by have:=O3.out.2.2;dsimp only;omega) (O3.out.2.1.cell 0 rfl)
 have p1:∀w',Sp (w.heap.size+1+1) w3 w'->w'.cell? ⟨g,1,none⟩=some (.int .i64 r.1.kd):=fun w' b=>b _ _ (by have:=O3.out.2.2;dsimp only;omega) (O3.out.2.1.cell 1 rfl)
 have p2:∀w',Sp (w.heap.size+1+1) w3 w'->w'.cell? ⟨g,2,none⟩=some (.int .i64 r.1.ho):=fun w' b=>b _ _ (by have:=O3.out.2.2;dsimp only;omega) (O3.out.2.1.cell 2 rfl)
 have p3:∀w',Sp (w.heap.size+1+1) w3 w'->w'.cell? ⟨g,3,none⟩=some (.int .i64 r.1.tu):=fun w' b=>b _ _ (by have:=O3.out.2.2;dsimp only;omega) (O3.out.2.1.cell 3 rfl)
 go_region_held3 (fun w'=>Sp (w.heap.size+1+1) w3 w') ((repeat'(first|with_reducible assumption|with_reducible exact Sp.refl _ _|with_reducible refine Sp.al ?_|with_reducible refine Sp.dr ?_|with_reducible refine Sp.set ?_|with_reducible refine Sp.put ?_ (by with_reducible assumption)|with_reducible refine Sp.bel ?_ (by with_reducible assumption))))
  (first
   |(go_at_call 111;refine(C3.out _ (C5.out _ cC)).mono ?_;rintro e w4 ⟨a,b,rfl,o4,b4⟩;obtain⟨ao,ac,rfl⟩:=o4.1.reads.form;obtain⟨bo,bc,rfl⟩:=o4.2.1.reads.form;have B4:Hid (iO w3 w4):=(show iO w3 w4 from cC);have X4:Hid (Cx w w4 (.slice uo xs.length uc) (.slice vo ys.length vc) (.slice qo h.ks.length qc) h c):=X3.out.next B4.out;have ap:Hid (apart (.slice ao xs.length ac) (.slice zo r.1.ks.length zc)/\apart (.slice bo ys.length bc) (.slice zo r.1.ks.length zc)):=(have q1:=dt O3.out.1 o4.1 (dm cC);have q2:=dt O3.out.1 o4.2.1 (dm cC);⟨⟨q1.2,q1.1⟩,⟨q2.2,q2.1⟩⟩);have O4:Hid (aZ w4 (w.heap.size+3) (.slice ao xs.length ac) (.slice bo ys.length bc) (.slice zo r.1.ks.length zc) xs ys r.1.ks):=⟨⟨o4.1.mono (Nat.le_trans X3.out.sz (dm cC)),o4.2.1.mono (Nat.le_trans X3.out.sz (dm cC)),o4.2.2⟩,O3.out.1.below B4.out,ap.out⟩;have R4:=X4.out.rs;have r0:w4.cell? ⟨w.heap.size+1+1,0,none⟩=some (.slice none 0 0):=R4.cell 0 rfl;have f0:=R4.frozen 0;have r1:w4.cell? ⟨w.heap.size+1+1,1,none⟩=some (.slice none 0 0):=R4.cell 1 rfl;have f1:=R4.frozen 1;have r2:w4.cell? ⟨w.heap.size+1+1,2,none⟩=some (.slice none 0 0):=R4.cell 2 rfl;have f2:=R4.frozen 2;have r3:w4.cell? ⟨w.heap.size+1+1,3,none⟩=some (.int .i64 0):=R4.cell 3 rfl;have f3:=R4.frozen 3;have r4:w4.cell? ⟨w.heap.size+1+1,4,none⟩=some (.int .i64 0):=R4.cell 4 rfl;have f4:=R4.frozen 4;have r5:w4.cell? ⟨w.heap.size+1+1,5,none⟩=some (.int .i64 0):=R4.cell 5 rfl;have f5:=R4.frozen 5;clear o4 ap)
   |(go_at_call 199;refine(C4.out _ (C5.out _ cC)).mono ?_;rintro e w5 ⟨rfl,hw5⟩;subst w5))
 all_goals
  go_wp2;have R4:StB w4 (w.heap.size+1+1) 96 zeR:=X4.out.rs;have G6:=fJ w4 (w.heap.size+1+1) (.slice ao xs.length ac) (.slice bo ys.length bc) (.slice zo r.1.ks.length zc) r.1;refine bodyPost_ret (dN GP rfl _ _ (w.heap.size+1+1) (srA (.slice ao xs.length ac) (.slice bo ys.length bc) (.slice zo r.1.ks.length zc) r.1) _ _ rfl rfl rfl rfl (jE (.slice ao xs.length ac) (.slice bo ys.length bc) (.slice zo r.1.ks.length zc) r.1 R4)) rfl ?_;exact⟨_,_,_,rfl,(O4.out.keptLt G6 Ff).mono Ff,X4.out.bl.grown G6 X4.out.bl.size (fun k e=>by cases e;omega)⟩
theorem wt (f:eO) (u v q:Value) (xs ys:List Int) (h:Hd) (i:Int) (c:Cm) (w:World) (hu:ag w u xs) (hv:ag w v ys) (hq:ag w q h.ks) (hb:au xs ys=true) (ok:h.ok=true) (S:Sen f w) (hm:h.May i c.wr=false):
  Calls Tryz.prog 158 #[SRV u v q h,.int .i64 i,CV c] w fun e w'=>e=.returned (.tuple #[.agg zeR,.string ⟨#[]⟩,rfV f 3 []])/\iO w w':=by
 obtain⟨w1,hw1⟩:=Fe (((w.alloc (.cells (srA u v q h) 96)).alloc (.cells (cmA c) 66)).alloc (.cells zeR 96))
 have HX:Hid (Cx w w1 u v q h c):=by rw[hw1];exact Cx.start w u v q h c
 have HRD:Hid (ag w u xs/\ag w v ys/\ag w q h.ks):=⟨hu,hv,hq⟩
 have HSN:Hid (Sen f w):=S;obtain⟨n1,n8,nl⟩:=cI hb;have gx:xs.length<=1099511627776:=by omega
 have gy:ys.length<=1099511627776:=by omega
 have hx1:1<=xs.length:=by omega
 have hy1:1<=ys.length:=by omega
 have hk4:=(Hd.ok_all ok).1;have hk1:1<=h.ks.length:=by omega
 have gk:h.ks.length<=1099511627776:=by omega
 obtain⟨uo,uc,rfl⟩:=aa hu;obtain⟨vo,vc,rfl⟩:=aa hv;obtain⟨qo,qc,rfl⟩:=aa hq;have CW:Hid (∀wx,Calls Tryz.prog 157 #[.agg #[.int .i64 c.o,.int .i64 c.p,.int .i64 c.a,.int .i64 c.b,.int .i64 c.k]] wx fun e w'=>e=.returned (.bool c.wr)/\iO wx w'):=fun wx=>eG c wx
 have CM:Hid (∀wx,iO w1 wx->Calls Tryz.prog 194 #[.agg #[.slice qo h.ks.length qc,.int .i64 h.kd,.int .i64 h.ho,.int .i64 h.tu],.int .i64 i,.bool c.wr] wx fun e w'=>e=.returned (.bool false)/\iO wx w'):=fun wx e=>by
  have:=tH (.slice qo h.ks.length qc) h i c.wr wx (HRD.out.2.2.below (HX.out.bl.trans (e.mono HX.out.bl.size)) (Nat.le_refl _)) gk;rw[hm]at this;exact this
 have HW:Hid (w1=((w.alloc (.cells #[.slice uo xs.length uc,.slice vo ys.length vc,.slice qo h.ks.length qc,.int .i64 h.kd,.int .i64 h.ho,.int .i64 h.tu] 96)).alloc (.cells #[.int .i64 c.o,.int .i64 c.p,.int .i64 c.a,.int .i64 c.b,.int .i64 c.k] 66)).alloc (.cells #[.slice none 0 0,.slice none 0 0,.slice none 0 0,.int .i64 0,.int .i64 0,.int .i64 0] 96)):=hw1;clear hw1 hu hv hq hb ok S gx gy gk hx1 hy1 hk1 hk4 n1 n8 nl hm;unfold SRV CV;conv in srA (.slice uo xs.length uc) (.slice vo ys.length vc) (.slice qo h.ks.length qc) _=>unfold srA
 unfold cmA;rw[show rfV f 3 []=.iface 183 (.agg #[.iface 328 (.pointer (some f.c)),.string ⟨#[]⟩])from rfl];go_enter Tryz.func158,Tryz.ntmps158;go_upto_region 1 with fail
 rw[<-HW.out];clear HW;obtain⟨p,hp⟩:=Fe (fun x=>iO w1 x)
 have HQ:Hid (∀x,p x->iO w1 x):=by rw[hp];exact fun _ h=>h
 have HN:Hid (∀x w',p x->iO x w'->p w'):=by rw[hp];exact fun _ _ h b=>h.trans (b.mono h.size)
 have H0:Hid (p w1.drew):=by rw[hp];exact(Below.refl _ _).drew
 have hne:Nonempty (Kin p):=⟨⟨_,H0.out⟩⟩
 have m2:∀q:Kin p,q.x.cell? ⟨w.heap.size,2,none⟩=some (.slice qo h.ks.length qc):=fun q=>aJ (HX.out.st.cell 2 rfl) (HQ.out _ q.h)
 have m3:∀q:Kin p,q.x.cell? ⟨w.heap.size,3,none⟩=some (.int .i64 h.kd):=fun q=>aJ (HX.out.st.cell 3 rfl) (HQ.out _ q.h)
 have m4:∀q:Kin p,q.x.cell? ⟨w.heap.size,4,none⟩=some (.int .i64 h.ho):=fun q=>aJ (HX.out.st.cell 4 rfl) (HQ.out _ q.h)
 have m5:∀q:Kin p,q.x.cell? ⟨w.heap.size,5,none⟩=some (.int .i64 h.tu):=fun q=>aJ (HX.out.st.cell 5 rfl) (HQ.out _ q.h)
 have l0:∀q:Kin p,q.x.cell? ⟨w.heap.size+1,0,none⟩=some (.int .i64 c.o):=fun q=>aJ (HX.out.cm.cell 0 rfl) (HQ.out _ q.h)
 have l1:∀q:Kin p,q.x.cell? ⟨w.heap.size+1,1,none⟩=some (.int .i64 c.p):=fun q=>aJ (HX.out.cm.cell 1 rfl) (HQ.out _ q.h)
 have l2:∀q:Kin p,q.x.cell? ⟨w.heap.size+1,2,none⟩=some (.int .i64 c.a):=fun q=>aJ (HX.out.cm.cell 2 rfl) (HQ.out _ q.h)
 have l3:∀q:Kin p,q.x.cell? ⟨w.heap.size+1,3,none⟩=some (.int .i64 c.b):=fun q=>aJ (HX.out.cm.cell 3 rfl) (HQ.out _ q.h)
 have l4:∀q:Kin p,q.x.cell? ⟨w.heap.size+1,4,none⟩=some (.int .i64 c.k):=fun q=>aJ (HX.out.cm.cell 4 rfl) (HQ.out _ q.h)
 clear hp;refine eQ p Fi Fi H0.out ?_;repeat(quiet_step (first
  |(go_at_call 157;exact Kin.call (CW.out _) HN.out)
  |(go_at_call 194;exact Kin.call (CM.out _ (HQ.out _ (Kin.h _))) HN.out)))
 refine wpQuiet_nil ?_;intro wk hk';have BK:Hid (iO w1 wk):=by{obtain⟨q,rfl⟩:=hk';exact HQ.out _ q.h}
 clear hk' HQ HN H0 hne m2 m3 m4 m5 l0 l1 l2 l3 l4;obtain⟨w2,hw2⟩:=Fe wk
 rw[<-hw2]at BK⊢;clear hw2;have X2:Hid (Cx w w2 (.slice uo xs.length uc) (.slice vo ys.length vc) (.slice qo h.ks.length qc) h c):=HX.out.next BK.out;have kc:=(HSN.out.below X2.out.bl).c;clear BK;go_wp2_with (first
  |(go_at_call 155;refine(dc _ _ _).mono ?_;rintro e w' ⟨rfl,hw'⟩;subst w')
  |(refine ae GP rfl _ _ rfl (w.heap.size+1+1) zeR zeR rfl rfl rfl rfl (ee Hd.zero rfl rfl rfl) X2.out.rs ?_;intro w5 s5 g5))
 refine bodyPost_ret (dN GP rfl _ _ (w.heap.size+1+1) _ _ _ rfl rfl rfl rfl s5) rfl ?_;exact⟨rfl,X2.out.bl.grown g5 X2.out.bl.size (fun k e=>by cases e;omega)⟩
theorem uf (f:eO) (u v q:Value) (xs ys:List Int) (h:Hd) (i:Int) (c:Cm) (w:World) (hu:ag w u xs) (hv:ag w v ys) (hq:ag w q h.ks) (hb:au xs ys=true) (ok:h.ok=true) (S:Sen f w) (ht:Tab w) (hm:h.May i c.wr=true) (hs:(dD xs ys c).2.2.st=0∨((dD xs ys c).2.2.st=1/\(dD xs ys c).2.2.tx=[])∨(dD xs ys c).2.2.st=2∨((dD xs ys c).2.2.st=7/\(dD xs ys c).2.2.tx=[])):
  Calls Tryz.prog 158 #[SRV u v q h,.int .i64 i,CV c] w fun e w'=>∃a b k,e=.returned (.tuple #[SRV a b k h,.string ⟨(dD xs ys c).2.2.tx.toArray⟩,jH f (dD xs ys c).2.2.st (dD xs ys c).2.2.tx])/\aZ w' w.heap.size a b k (dD xs ys c).1 (dD xs ys c).2.1 h.ks/\iO w w':=by
 obtain⟨w1,hw1⟩:=Fe (((w.alloc (.cells (srA u v q h) 96)).alloc (.cells (cmA c) 66)).alloc (.cells zeR 96))
 have HX:Hid (Cx w w1 u v q h c):=by rw[hw1];exact Cx.start w u v q h c
 have HRD:Hid (ag w u xs/\ag w v ys/\ag w q h.ks):=⟨hu,hv,hq⟩
 have HSN:Hid (Sen f w):=S;obtain⟨n1,n8,nl⟩:=cI hb;have gx:xs.length<=1099511627776:=by omega
 have gy:ys.length<=1099511627776:=by omega
 have hx1:1<=xs.length:=by omega
 have hy1:1<=ys.length:=by omega
 have hk4:=(Hd.ok_all ok).1;have hk1:1<=h.ks.length:=by omega
 have gk:h.ks.length<=1099511627776:=by omega
 have CD':=fun wx (e:iO w wx)=>r7 u v xs ys c wx (hu.below e (Nat.le_refl _)) (hv.below e (Nat.le_refl _)) gx gy (ht.below e)
 have CH:Hid (∀wx,iO w wx->Calls Tryz.prog 112 #[HV q h] wx fun e w'=>∃u,e=.returned (HV u h)/\Own w' wx.heap.size u h.ks/\iO wx w'):=fun wx e=>mN q h wx (hq.below e (Nat.le_refl _)) hk1 gk
 have CR':=fun wx (e:iO w wx)=>rV f (dD xs ys c).2.2 wx (S.below e) hs
 obtain⟨D,hD⟩:=Fe (dD xs ys c)
 rw[<-hD]at CD' CR'⊢;obtain⟨EV,hEV⟩:=Fe (jH f D.2.2.st D.2.2.tx)
 rw[<-hEV]at CR'⊢;obtain⟨dx,dy,an⟩:=D;dsimp only at CD' CR'⊢;clear hEV hD hs;have CD:Hid (∀wx,iO w wx->Calls Tryz.prog 195 #[.agg #[u,v],.agg #[.int .i64 c.o,.int .i64 c.p,.int .i64 c.a,.int .i64 c.b,.int .i64 c.k]] wx fun e w'=>∃a b,e=.returned (.tuple #[.agg #[a,b],.agg #[.int .i64 an.st,.string ⟨an.tx.toArray⟩]])/\aV w' wx.heap.size a b dx dy/\iO wx w'):=CD';have CR:Hid (∀wx,iO w wx->Calls Tryz.prog 196 #[.agg #[.int .i64 an.st,.string ⟨an.tx.toArray⟩]] wx fun e w'=>e=.returned EV/\iO wx w'):=CR';clear CD' CR';obtain⟨uo,uc,rfl⟩:=aa hu;obtain⟨vo,vc,rfl⟩:=aa hv;obtain⟨qo,qc,rfl⟩:=aa hq;have CW:Hid (∀wx,Calls Tryz.prog 157 #[.agg #[.int .i64 c.o,.int .i64 c.p,.int .i64 c.a,.int .i64 c.b,.int .i64 c.k]] wx fun e w'=>e=.returned (.bool c.wr)/\iO wx w'):=fun wx=>eG c wx
 have CM:Hid (∀wx,iO w1 wx->Calls Tryz.prog 194 #[.agg #[.slice qo h.ks.length qc,.int .i64 h.kd,.int .i64 h.ho,.int .i64 h.tu],.int .i64 i,.bool c.wr] wx fun e w'=>e=.returned (.bool true)/\iO wx w'):=fun wx e=>by
  have:=tH (.slice qo h.ks.length qc) h i c.wr wx (HRD.out.2.2.below (HX.out.bl.trans (e.mono HX.out.bl.size)) (Nat.le_refl _)) gk;rw[hm]at this;exact this
 unfold HV hdA at CH;have HW:Hid (w1=((w.alloc (.cells #[.slice uo xs.length uc,.slice vo ys.length vc,.slice qo h.ks.length qc,.int .i64 h.kd,.int .i64 h.ho,.int .i64 h.tu] 96)).alloc (.cells #[.int .i64 c.o,.int .i64 c.p,.int .i64 c.a,.int .i64 c.b,.int .i64 c.k] 66)).alloc (.cells #[.slice none 0 0,.slice none 0 0,.slice none 0 0,.int .i64 0,.int .i64 0,.int .i64 0] 96)):=hw1;clear hw1 hu hv hq hb ok S gx gy gk hx1 hy1 hk1 hk4 n1 n8 nl hm ht;unfold SRV CV;conv in srA (.slice uo xs.length uc) (.slice vo ys.length vc) (.slice qo h.ks.length qc) _=>unfold srA
 unfold cmA;go_enter Tryz.func158,Tryz.ntmps158;go_upto_region 1 with fail
 rw[<-HW.out];clear HW;obtain⟨p,hp⟩:=Fe (fun x=>iO w1 x)
 have HQ:Hid (∀x,p x->iO w1 x):=by rw[hp];exact fun _ h=>h
 have HN:Hid (∀x w',p x->iO x w'->p w'):=by rw[hp];exact fun _ _ h b=>h.trans (b.mono h.size)
 have H0:Hid (p w1.drew):=by rw[hp];exact(Below.refl _ _).drew
 have hne:Nonempty (Kin p):=⟨⟨_,H0.out⟩⟩
 have m2:∀q:Kin p,q.x.cell? ⟨w.heap.size,2,none⟩=some (.slice qo h.ks.length qc):=fun q=>aJ (HX.out.st.cell 2 rfl) (HQ.out _ q.h)
 have m3:∀q:Kin p,q.x.cell? ⟨w.heap.size,3,none⟩=some (.int .i64 h.kd):=fun q=>aJ (HX.out.st.cell 3 rfl) (HQ.out _ q.h)
 have m4:∀q:Kin p,q.x.cell? ⟨w.heap.size,4,none⟩=some (.int .i64 h.ho):=fun q=>aJ (HX.out.st.cell 4 rfl) (HQ.out _ q.h)
 have m5:∀q:Kin p,q.x.cell? ⟨w.heap.size,5,none⟩=some (.int .i64 h.tu):=fun q=>aJ (HX.out.st.cell 5 rfl) (HQ.out _ q.h)
 have l0:∀q:Kin p,q.x.cell? ⟨w.heap.size+1,0,none⟩=some (.int .i64 c.o):=fun q=>aJ (HX.out.cm.cell 0 rfl) (HQ.out _ q.h)
 have l1:∀q:Kin p,q.x.cell? ⟨w.heap.size+1,1,none⟩=some (.int .i64 c.p):=fun q=>aJ (HX.out.cm.cell 1 rfl) (HQ.out _ q.h)
 have l2:∀q:Kin p,q.x.cell? ⟨w.heap.size+1,2,none⟩=some (.int .i64 c.a):=fun q=>aJ (HX.out.cm.cell 2 rfl) (HQ.out _ q.h)
 have l3:∀q:Kin p,q.x.cell? ⟨w.heap.size+1,3,none⟩=some (.int .i64 c.b):=fun q=>aJ (HX.out.cm.cell 3 rfl) (HQ.out _ q.h)
 have l4:∀q:Kin p,q.x.cell? ⟨w.heap.size+1,4,none⟩=some (.int .i64 c.k):=fun q=>aJ (HX.out.cm.cell 4 rfl) (HQ.out _ q.h)
 clear hp;refine eQ p Fi Fi H0.out ?_;repeat(quiet_step (first
  |(go_at_call 157;exact Kin.call (CW.out _) HN.out)
  |(go_at_call 194;exact Kin.call (CM.out _ (HQ.out _ (Kin.h _))) HN.out)))
 refine wpQuiet_nil ?_;intro wk hk';have BK:Hid (iO w1 wk):=by{obtain⟨q,rfl⟩:=hk';exact HQ.out _ q.h}
 clear hk' HQ HN H0 hne m2 m3 m4 m5 l0 l1 l2 l3 l4;obtain⟨w2,hw2⟩:=Fe wk
 rw[<-hw2]at BK⊢;clear hw2;have X2:Hid (Cx w w2 (.slice uo xs.length uc) (.slice vo ys.length vc) (.slice qo h.ks.length qc) h c):=HX.out.next BK.out;have k0:w2.cell? ⟨w.heap.size,0,none⟩=some (.slice uo xs.length uc):=X2.out.st.cell 0 rfl;have k1:w2.cell? ⟨w.heap.size,1,none⟩=some (.slice vo ys.length vc):=X2.out.st.cell 1 rfl;have m0:w2.cell? ⟨w.heap.size+1,0,none⟩=some (.int .i64 c.o):=X2.out.cm.cell 0 rfl;have m1:w2.cell? ⟨w.heap.size+1,1,none⟩=some (.int .i64 c.p):=X2.out.cm.cell 1 rfl;have m2:w2.cell? ⟨w.heap.size+1,2,none⟩=some (.int .i64 c.a):=X2.out.cm.cell 2 rfl;have m3:w2.cell? ⟨w.heap.size+1,3,none⟩=some (.int .i64 c.b):=X2.out.cm.cell 3 rfl;have m4:w2.cell? ⟨w.heap.size+1,4,none⟩=some (.int .i64 c.k):=X2.out.cm.cell 4 rfl;clear BK CW CM HX;go_wp2_with fail
 refine(CD.out _ X2.out.bl).mono ?_;rintro e w3 ⟨a,b,rfl,o3,b3⟩;obtain⟨ao,ac,rfl⟩:=o3.1.reads.form;obtain⟨bo,bc,rfl⟩:=o3.2.1.reads.form;clear k0 k1 m0 m1 m2 m3 m4 CD;obtain⟨w5,hw5⟩:=Fe ((w3.alloc (.cells #[.slice ao dx.length ac,.slice bo dy.length bc] 36)).alloc (.cells #[.int .i64 an.st,.string ⟨an.tx.toArray⟩] 44))
 have b5:iO w3 w5:=by rw[hw5];exact Fc.alloc Fg _
 have X3:Hid (Cx w w5 (.slice uo xs.length uc) (.slice vo ys.length vc) (.slice qo h.ks.length qc) h c):=(X2.out.next b3).next b5;have O3:Hid (aV w5 (w.heap.size+3) (.slice ao dx.length ac) (.slice bo dy.length bc) dx dy/\StB w5 w3.heap.size 36 #[.slice ao dx.length ac,.slice bo dy.length bc]/\StB w5 (w3.heap.size+1) 44 #[.int .i64 an.st,.string ⟨an.tx.toArray⟩]/\w.heap.size+3<=w3.heap.size):=by
  have a2:=StB.new (w3.alloc (.cells #[.slice ao dx.length ac,.slice bo dy.length bc] 36)) 44 #[.int .i64 an.st,.string ⟨an.tx.toArray⟩];simp only[World.size_alloc]at a2;exact⟨⟨(o3.1.mono X2.out.sz).below b5,(o3.2.1.mono X2.out.sz).below b5,o3.2.2⟩,by rw[hw5];exact(StB.new _ _ _).alloc _,by rw[hw5];exact a2,Nat.le_trans X2.out.sz b3.size⟩
 clear o3 b3 b5 X2;go_upto_region 4 with fail
 rw[<-hw5];clear hw5;obtain⟨g,hg⟩:=Fe w3.heap.size
 rw[<-hg]at O3⊢;clear hg;have C5:Hid (∀wx,iO w5 wx->iO w wx):=fun wx e=>X3.out.bl.trans (e.mono X3.out.bl.size)
 have q2:∀w',Sp (w.heap.size+1+1) w5 w'->w'.cell? ⟨w.heap.size,2,none⟩=some (.slice qo h.ks.length qc):=fun w' b=>b _ _ (by dsimp only;omega) (X3.out.st.cell 2 rfl)
 have q3:∀w',Sp (w.heap.size+1+1) w5 w'->w'.cell? ⟨w.heap.size,3,none⟩=some (.int .i64 h.kd):=fun w' b=>b _ _ (by dsimp only;omega) (X3.out.st.cell 3 rfl)
 have q4:∀w',Sp (w.heap.size+1+1) w5 w'->w'.cell? ⟨w.heap.size,4,none⟩=some (.int .i64 h.ho):=fun w' b=>b _ _ (by dsimp only;omega) (X3.out.st.cell 4 rfl)
 have q5:∀w',Sp (w.heap.size+1+1) w5 w'->w'.cell? ⟨w.heap.size,5,none⟩=some (.int .i64 h.tu):=fun w' b=>b _ _ (by dsimp only;omega) (X3.out.st.cell 5 rfl)
 have p0:∀w',Sp (w.heap.size+1+1) w5 w'->w'.cell? ⟨g,0,none⟩=some (.slice ao dx.length ac):=fun w' b=>b _ _ (by have:=O3.out.2.2.2;dsimp only;omega) (O3.out.2.1.cell 0 rfl)
 have p1:∀w',Sp (w.heap.size+1+1) w5 w'->w'.cell? ⟨g,1,none⟩=some (.slice bo dy.length bc):=fun w' b=>b _ _ (by have:=O3.out.2.2.2;dsimp only;omega) (O3.out.2.1.cell 1 rfl)
 have t0:∀w',Sp (w.heap.size+1+1) w5 w'->w'.cell? ⟨g+1,0,none⟩=some (.int .i64 an.st):=fun w' b=>b _ _ (by have:=O3.out.2.2.2;dsimp only;omega) (O3.out.2.2.1.cell 0 rfl)
 have t1:∀w',Sp (w.heap.size+1+1) w5 w'->w'.cell? ⟨g+1,1,none⟩=some (.string ⟨an.tx.toArray⟩):=fun w' b=>b _ _ (by have:=O3.out.2.2.2;dsimp only;omega) (O3.out.2.2.1.cell 1 rfl)
 go_region_held3 (fun w'=>Sp (w.heap.size+1+1) w5 w') ((repeat'(first|with_reducible assumption|with_reducible exact Sp.refl _ _|with_reducible refine Sp.al ?_|with_reducible refine Sp.dr ?_|with_reducible refine Sp.set ?_|with_reducible refine Sp.put ?_ (by with_reducible assumption)|with_reducible refine Sp.bel ?_ (by with_reducible assumption))))
  (first
   |(go_at_call 112;refine(CH.out _ (C5.out _ cC)).mono ?_;rintro e w6 ⟨z,rfl,o6,b6⟩;obtain⟨zo,zc,rfl⟩:=o6.reads.form;have B6:Hid (iO w5 w6):=(show iO w5 w6 from cC);have ap:Hid (apart (.slice ao dx.length ac) (.slice zo h.ks.length zc)/\apart (.slice bo dy.length bc) (.slice zo h.ks.length zc)):=⟨dt O3.out.1.1 o6 (dm cC),dt O3.out.1.2.1 o6 (dm cC)⟩;have O6:Hid (aZ w6 (w.heap.size+3) (.slice ao dx.length ac) (.slice bo dy.length bc) (.slice zo h.ks.length zc) dx dy h.ks):=⟨⟨O3.out.1.1.below B6.out,O3.out.1.2.1.below B6.out,O3.out.1.2.2⟩,o6.mono (Nat.le_trans X3.out.sz (dm cC)),ap.out⟩;clear o6 ap)
   |(go_at_call 196;refine(CR.out _ (C5.out _ cC)).mono ?_;rintro e w4 ⟨rfl,b4⟩;have B4:Hid (iO w5 w4):=(show iO w5 w4 from cC);have X4:Hid (Cx w w4 (.slice uo xs.length uc) (.slice vo ys.length vc) (.slice qo h.ks.length qc) h c):=X3.out.next B4.out;have O4:Hid (aZ w4 (w.heap.size+3) (.slice ao dx.length ac) (.slice bo dy.length bc) (.slice zo h.ks.length zc) dx dy h.ks):=O6.out.below cC;have R4:=X4.out.rs;have r0:w4.cell? ⟨w.heap.size+1+1,0,none⟩=some (.slice none 0 0):=R4.cell 0 rfl;have f0:=R4.frozen 0;have r1:w4.cell? ⟨w.heap.size+1+1,1,none⟩=some (.slice none 0 0):=R4.cell 1 rfl;have f1:=R4.frozen 1;have r2:w4.cell? ⟨w.heap.size+1+1,2,none⟩=some (.slice none 0 0):=R4.cell 2 rfl;have f2:=R4.frozen 2;have r3:w4.cell? ⟨w.heap.size+1+1,3,none⟩=some (.int .i64 0):=R4.cell 3 rfl;have f3:=R4.frozen 3;have r4:w4.cell? ⟨w.heap.size+1+1,4,none⟩=some (.int .i64 0):=R4.cell 4 rfl;have f4:=R4.frozen 4;have r5:w4.cell? ⟨w.heap.size+1+1,5,none⟩=some (.int .i64 0):=R4.cell 5 rfl;have f5:=R4.frozen 5;skip))
 all_goals
  go_wp2;have R4:StB w4 (w.heap.size+1+1) 96 zeR:=X4.out.rs;have G6:=fJ w4 (w.heap.size+1+1) (.slice ao dx.length ac) (.slice bo dy.length bc) (.slice zo h.ks.length zc) h;refine bodyPost_ret (dN GP rfl _ _ (w.heap.size+1+1) (srA (.slice ao dx.length ac) (.slice bo dy.length bc) (.slice zo h.ks.length zc) h) _ _ rfl rfl rfl rfl (jE (.slice ao dx.length ac) (.slice bo dy.length bc) (.slice zo h.ks.length zc) h R4)) rfl ?_;exact⟨_,_,_,rfl,(O4.out.keptLt G6 Ff).mono Ff,X4.out.bl.grown G6 X4.out.bl.size (fun k e=>by cases e;omega)⟩
theorem Cm.ok_six {c:Cm} (h:c.ok=true) (h6:5<c.o):(c.o=6/\inI c.a 0 9999=true)∨(c.o=7/\kiI c.k=true)∨c.o=8∨c.o=9∨(c.o=10/\inI c.a 0 9999=true/\kiI c.k=true)∨c.o=11∨c.o=12:=by
 obtain⟨o,p,a,b,k⟩:=c;unfold Cm.ok Cm.told Cm.fits at h;dsimp only at h h6;dsimp only;simp only[kiI,Bool.and_eq_true,Bool.or_eq_true,decide_eq_true_eq,aE]at h⊢;obtain⟨⟨⟨⟨⟨h1,h2⟩,h3⟩,h4⟩,h5⟩,h7⟩:=h;by_cases e6:o=6
 ·subst e6;simp[aE]at*;omega
 by_cases e7:o=7
 ·subst e7;simp[aE]at*;omega
 by_cases e10:o=10
 ·subst e10;simp[aE]at*;omega
 omega
theorem BO {xs ys:List Int} {c:Cm} (hb:au xs ys=true) (hc:c.ok=true) (h5:c.o<=5):dD xs ys c=bC xs ys c:=by simp[dD,hb,hc,h5]
theorem BP (xs ys:List Int) (c:Cm):(bC xs ys c).2.2.st=0∨((bC xs ys c).2.2.st=1/\(bC xs ys c).2.2.tx=[])∨(bC xs ys c).2.2.st=2∨((bC xs ys c).2.2.st=7/\(bC xs ys c).2.2.tx=[]):=by
 unfold bC;split
 ·exact .inl rfl
 ·split
  ·exact .inr (.inl ⟨rfl,rfl⟩)
  ·split
   ·exact .inl rfl
   ·split
    ·exact .inl rfl
    ·split
     ·split
      ·exact .inl rfl
      ·exact .inr (.inr (.inl rfl))
     ·exact .inl rfl
theorem jF (r:Hd×Bool):lT (told r).2=(iV r).2.st/\(iV r).2.tx=[]/\(told r).1=(iV r).1/\((iV r).2.st=0∨(iV r).2.st=1∨(iV r).2.st=3):=by
 obtain⟨a,b⟩:=r;cases b<;>simp[told,iV,lT]
theorem z7 {h:Hd} {i:Int} {c:Cm} (ok:h.ok=true) (hi:inI i 0 3=true) (hc:c.ok=true) (h6:5<c.o) (h11:c.o≠11) (h12:c.o≠12):
  lT (h.after i c).2=(h.act i c).2.st/\(h.act i c).2.tx=[]/\((h.act i c).2.st=0->(h.after i c).1=(h.act i c).1)/\((h.act i c).2.st=0∨(h.act i c).2.st=1∨(h.act i c).2.st=3):=by
 rcases Cm.ok_six hc h6 with⟨e,k⟩|⟨e,k⟩|e|e|⟨e,k,k'⟩|e|e
 ·simp[Hd.after,Hd.act,e,Hd.register,ok,hi,k,lT]
 ·have:=jF (h.resd i c.k)
  simp only[Hd.after,Hd.act,e,Hd.reserve,ok,hi,k];exact⟨this.1,this.2.1,fun _=>this.2.2.1,this.2.2.2⟩
 ·have:=jF (h.reld i)
  simp only[Hd.after,Hd.act,e,Hd.release,ok,hi];exact⟨this.1,this.2.1,fun _=>this.2.2.1,this.2.2.2⟩
 ·have:=jF (h.clrd i)
  simp only[Hd.after,Hd.act,e,Hd.clear,ok,hi];exact⟨this.1,this.2.1,fun _=>this.2.2.1,this.2.2.2⟩
 ·by_cases h0:c.a=0
  ·simp[Hd.after,Hd.act,e,Hd.preempt,ok,h0,lT,inI]
  ·have k1:inI c.a 1 9999=true:=by
    have:=(aE _ _ _).1 k;exact(aE _ _ _).2 Ff
   have:=jF (h.pred i c.a c.k);simp only[Hd.after,Hd.act,e,Hd.preempt,ok,hi,k',k1,h0];exact⟨this.1,this.2.1,fun _=>this.2.2.1,this.2.2.2⟩
 ·exact absurd e h11
 ·exact absurd e h12
theorem yl {h:Hd} {i:Int} (ok:h.ok=true) (hi:inI i 0 3=true) (b:Bool):h.May i b=h.may i b:=by simp[Hd.May,ok,hi]
theorem Dw {c:Cm} (hc:c.ok=true) (h5:c.o<=5):c.wr=decide (c.o≠1):=by
 obtain⟨ho, -⟩:=Cm.ok_vol hc h5;unfold Cm.wr;rw[hc];rcases ho with e|e|e|e|e<;>rw[e]<;>rfl
theorem Fb {c:Cm} (hc:c.ok=true):(c.rd||c.wr)=decide (c.o<=5):=by
 unfold Cm.rd Cm.wr;rw[hc];by_cases h5:c.o<=5
 ·obtain⟨ho, -⟩:=Cm.ok_vol hc h5
  rw[decide_eq_true h5];rcases ho with e|e|e|e|e<;>rw[e]<;>rfl
 ·rw[decide_eq_false h5]
  have e1:decide (c.o=1)=false:=by simp;omega
  have e2:inI c.o 2 5=false:=by
   cases e:inI c.o 2 5 with
   |false=>rfl
   |true=>have:=(aE _ _ _).1 e;omega
  rw[e1,e2];rfl
section
open Go.ChangeShapes Go.WideShapes Go.ChangeAt Go.RowKit
end
section
open Go.ChangeShapes Go.WideShapes Go.ChangeAt Go.RowKit
end
section
open Go.RowKit
end
def AZ (w:World) (g:Nat):Prop:=∃t p,w.cell? ⟨g,0,none⟩=some (.iface t p)
theorem AZ.below {w w':World} {g:Nat} (h:AZ w g) (b:iO w w'):AZ w' g:=by
 obtain⟨t,p,h⟩:=h;exact⟨t,p,by rw[b.cell (p:=⟨g,0,none⟩) (World.block_lt_of_cell? w _ h)];exact h⟩
theorem Gm:Tryz.prog.cellsOf 2=1:=by kernel_rfl
theorem Hm:Tryz.prog.plainKey 2=true:=by kernel_rfl
theorem Es (f:Nat->Int) (j:Nat) (hj:j<4) (w:World):(Instr.index 163 (.agg #[.int .i64 (f 0),.int .i64 (f 1),.int .i64 (f 2),.int .i64 (f 3)]) (.int .i64 (j:Int))).run Tryz.prog w=.ok (.int .i64 (f j)) w:=by
 obtain⟨i0,hi,hz0,hz1,hz2⟩:=info_parts Gz;have h1:(0:Int)<=(j:Int)/\(j:Int)<((4:Nat):Int):=by omega
 have h2:((j:Int)).toNat*1=j:=by omega
 simp only[Instr.index,asIntOf,run_underlying Tryz.underlying163,Sem.run_bind,Sem.run_pure,Result.andThen_ok,h1,and_self,if_true,run_sizeOf w hi,Gm,h2];exact run_part_plain w Hm (ql f j hj)
theorem wu (ks:List Int) (tu x:Int) (j:Nat) (hj:j<ks.length) (hx:x=ks.getD j 0) (h0:x=0) (xs:List Int) (h:xs=tu::(ks.take j).filter (fun k=>decide (k≠0))):xs=tu::(ks.take (j+1)).filter (fun k=>decide (k≠0)):=by
 have e:ks[j]=0:=by rw[<-h0,hx];simp[hj]
 rw[h,List.take_succ_eq_append_getElem hj,List.filter_append,e];simp
theorem zw (ks:List Int) (tu x:Int) (j:Nat) (hj:j<ks.length) (hx:x=ks.getD j 0) (h0:¬x=0) (xs:List Int) (h:xs=tu::(ks.take j).filter (fun k=>decide (k≠0))):xs++[x]=tu::(ks.take (j+1)).filter (fun k=>decide (k≠0)):=by
 have e:ks[j]=x:=by rw[hx];simp[hj]
 rw[h,List.take_succ_eq_append_getElem hj,List.filter_append,e];simp[h0]
theorem uh (v:Value) (h:Hd) (w:World) (hr:ag w v h.ks) (hl:h.ks.length<=1099511627776) (ht:Tab w):
  Calls Tryz.prog 159 #[HV v h] w fun e w'=>e=.returned (S h.keysT)/\iO w w':=by
 obtain⟨i0,hi,hz0,hz1,hz2⟩:=info_parts Gz;have b1:iO w (w.alloc (.cells (hdA v h) 37)):=Fc;have c1:=fU v h _ (hr.below b1 (Nat.le_refl _)) hl;obtain⟨ao,cap,rfl⟩:=aa hr;obtain⟨ok,hok⟩:=Fe h.ok
 obtain⟨f,x,y,z,hf,hfo⟩:=gF h;have HE:Hid (h.keysT=if ok then eg h.keysN else[]):=by rw[Hid,hok];rfl
 have HF:Hid (ok=true->f=KF h.ks/\z=h.tu/\h.ks.length=4/\fu h.keysN):=fun e=>by
  rw[hok]at e;exact⟨(hfo e).1,(hfo e).2.2.2,(Hd.ok_all e).1,Hd.ok_fitsK e⟩
 rw[<-hok]at c1;rw[hf]at c1;have HT:Hid (Tab w):=ht;clear hok hf hfo hr hl ht;unfold HV hdA at*;unfold S;go_enter Tryz.func159,Tryz.ntmps159;go_wp2_with fail
 refine c1.mono ?_;rintro e w2 ⟨rfl,b2⟩;have HB2:Hid (iO w w2):=b1.trans (b2.mono b1.size);have z2:Hid (StB (w2.alloc (.cells (heA (fun _=>0) 0 0 0) 165)) w2.heap.size 165 (heA (fun _=>0) 0 0 0)):=StB.new _ _ _;clear c1 b1 b2;cases ok with
 |false=>
  go_wp2_with (first|(refine ae GK rfl _ _ rfl w2.heap.size (heA f x y z) _ rfl rfl rfl rfl (bO _ _ _ _) z2.out ?_;intro w3 h3 g3))
  go_ret;rw[HE.out];exact⟨rfl,HB2.out.trans ((Fc |>.grown g3 Fg (fun k e=>by cases e;exact Nat.le_refl _)).mono HB2.out.size)⟩
 |true=>
  obtain⟨hf,hz,hl,fk⟩:=HF.out rfl;rw[if_pos rfl]at HE;have HFF:Hid (f=KF h.ks):=hf;have HL:Hid (h.ks.length=4):=hl;have FK:Hid (fu h.keysN):=fk;subst hz;clear HF hf hl fk;go_upto_region 4 with(first|(refine ae GK rfl _ _ rfl w2.heap.size (heA f x y h.tu) _ rfl rfl rfl rfl (bO _ _ _ _) z2.out ?_;intro w3 h3 g3))
  have HB3:Hid (iO w w3):=HB2.out.trans ((Fc |>.grown g3 Fg (fun k e=>by cases e;exact Nat.le_refl _)).mono HB2.out.size);have H3:Hid (StB w3 w2.heap.size 165 (heA f x y h.tu)):=h3;obtain⟨w4,hw4⟩:=Fe (w3.alloc (.cells #[.int .i64 h.tu] 2))
  have H4:Hid (StB w4 w2.heap.size 165 (heA f x y h.tu)):=by rw[hw4];exact h3.alloc _
  have O4:Hid (Own w4 w3.heap.size (.slice (some ⟨w3.heap.size,0,none⟩) 1 1) [h.tu]):=by rw[hw4];exact sy w3 h.tu
  have B4:Hid (iO w3 w4):=by rw[hw4];exact Fc
  have m6:=(aY h3).2.2.2.2.2.2;clear h3 g3 z2;go_upto_region 5 with fail
  rw[<-hw4];clear hw4 m6;obtain⟨m0,m1,m2,m3,m4,m5,m6⟩:=aY H4.out;go_wp2_with fail
  clear m0 m1 m2 m3 m4 m5 m6;go_loopw [5,20] (fun o i wr=>∃(xs:List Int) (ao:Option Addr) (oc j:Nat),o=.slice ao xs.length oc/\i=.int .i64 (j:Int)/\(j:Int)<=4/\(xs.length:Int)<=5/\Hid (Own wr w3.heap.size (.slice ao xs.length oc) xs/\iO w3 wr/\xs=h.tu::(h.ks.take j).filter (fun k=>decide (k≠0)))) (fun _ i _=>4-(intOf i).toNat)
  case atStart=>exact⟨[h.tu],_,_,0,rfl,rfl,by omega,by simp,O4.out,B4.out,by simp⟩
  case round=>
   obtain⟨xs,ao,oc,j,rfl,rfl,hj,hxl,HR⟩:=hrel;by_cases hlt:(j:Int)<4
   ·have hj4:Hid (j<h.ks.length):=by have:=HL.out;rw[Hid];omega
    have i5:=Es f j Ff wr;have HX:Hid (f j=h.ks.getD j 0):=by rw[Hid,HFF.out];rfl
    have HLn:=qR HL.out (j+1);obtain⟨x,hx⟩:=Fe (f j)
    rw[<-hx]at i5 HX;clear hx;by_cases x0:x=0
    ·have xb:(x !=0)=false:=by simpa using x0
     have HR2:Hid (xs=h.tu::(h.ks.take (j+1)).filter (fun k=>decide (k≠0))):=wu _ _ x j hj4.out HX.out x0 _ HR.out.2.2;clear x0;go_wp2;go_roundw
     case rel=>exact⟨xs,ao,oc,j+1,rfl,by go_num,by omega,hxl,HR.out.1,HR.out.2.1,HR2.out⟩
     case measure=>simp[intOf];omega
    ·have xb:(x !=0)=true:=by simpa using x0
     have HR2:Hid (xs++[x]=h.tu::(h.ks.take (j+1)).filter (fun k=>decide (k≠0))):=zw _ _ x j hj4.out HX.out x0 _ HR.out.2.2;have hxl2:(xs++[x]).length<=5:=by rw[HR2.out];exact HLn
     rw[List.length_append,List.length_singleton]at hxl2;have hown:=HR.out.1;have hbs:=HR.out.2.1.size;unfold Own at hown;clear x0 HLn;go_wp2_with (at_builtin;refine wpList_append_own _ rfl _ _ 22 rfl w3.heap.size 2 i0 (.int .i64 0) 1 8 Tryz.underlying22 hi hz0 hz1 hz2 rfl Fh _ _ _ rfl (hown.alloc _) _ 1 1 [.int .i64 x] rfl rfl (BF wr x) (by simp[Value.oneCell']) (by unfold maxLen;omega) Ff (by simp;omega) ?_)
     intro v' w5 hown' hgrow _;have HO:Hid (Own w5 w3.heap.size v' (xs++[x])/\iO w3 w5):=qO HR.out.1 HR.out.2.1 hown' hgrow;clear hown hown' hgrow HR;obtain⟨ao2,cap2,hev, -⟩:=HO.out.1.reads;subst hev;go_wp2;go_roundw
     case rel=>exact⟨xs++[x],ao2,cap2,j+1,rfl,by go_num,by omega,by simp;omega,HO.out.1,HO.out.2,HR2.out⟩
     case measure=>simp[intOf];omega
   ·have HK:Hid (xs=h.keysN):=by
     have:=HR.out.2.2;rw[List.take_of_length_le (by have:=HL.out;omega)]at this;exact this
    have hx0:0<xs.length:=by rw[HK.out];simp[Hd.keysN]
    have B5:Hid (iO w wr):=HB3.out.trans (HR.out.2.1.mono HB3.out.size);have c2:=gH (.slice ao xs.length oc) xs wr HR.out.1.reads hx0 Ff (by rw[HK.out];exact FK.out) (HT.out.below B5.out);unfold S at c2;go_wp2_with fail
    refine c2.mono ?_;rintro e w6 ⟨rfl,b6⟩;clear c2;go_wp2;go_ret;rw[HE.out,<-HK.out];exact⟨rfl,B5.out.trans (b6.mono B5.out.size)⟩
theorem A9 {h:Hd} (ok:h.ok=true):h.holdN=[h.tu,h.kd,iH (KF h.ks) h.ho]:=by
 obtain⟨hl, -, -,hm⟩:=Hd.ok_all ok;have hho:h.ho<4:=by
  unfold Hd.mid at hm;split at hm
  ·have:h.ho= -1:=by simpa using hm
   omega
  ·split at hm
   ·simp only[Bool.and_eq_true,decide_eq_true_eq]at hm;omega
   ·simp only[Bool.and_eq_true]at hm
    have:=(aE _ _ _).1 hm.1.2;omega
 unfold Hd.holdN iH;by_cases h0:0<=h.ho
 ·rw[if_pos h0,if_pos ((aE _ _ _).2 Ff)];rfl
 ·rw[if_neg h0,if_neg (by rw[aE];omega)]
theorem pH (v:Value) (h:Hd) (w:World) (hr:ag w v h.ks) (hl:h.ks.length<=1099511627776) (ht:Tab w):
  Calls Tryz.prog 160 #[HV v h] w fun e w'=>e=.returned (S h.holdT)/\iO w w':=by
 have b1:iO w (w.alloc (.cells (hdA v h) 37)):=Fc;have c1:=fU v h _ (hr.below b1 (Nat.le_refl _)) hl;obtain⟨ao,cap,rfl⟩:=aa hr;obtain⟨ok,hok⟩:=Fe h.ok
 obtain⟨f,x,y,z,hf,hfo⟩:=gF h;have HE:Hid (h.holdT=if ok then eg h.holdN else[]):=by rw[Hid,hok];rfl
 have HF:Hid (ok=true->fu [z,x,iH f y]/\h.holdN=[z,x,iH f y]):=fun e=>by
  rw[hok]at e;obtain⟨rfl,rfl,rfl,rfl⟩:=hfo e;have h1:=A9 e;have h2:=Hd.ok_fitsH e;rw[h1]at h2;exact⟨h2,h1⟩
 rw[<-hok]at c1;rw[hf]at c1;have HT:Hid (Tab w):=ht;clear hok hf hfo hr hl ht;unfold HV hdA at*;unfold S;go_enter Tryz.func160,Tryz.ntmps160;go_wp2_with fail
 refine c1.mono ?_;rintro e w2 ⟨rfl,b2⟩;have HB2:Hid (iO w w2):=b1.trans (b2.mono b1.size);have z2:Hid (StB (w2.alloc (.cells (heA (fun _=>0) 0 0 0) 165)) w2.heap.size 165 (heA (fun _=>0) 0 0 0)):=StB.new _ _ _;clear c1 b1 b2;cases ok with
 |false=>
  go_wp2_with (first|(refine ae GK rfl _ _ rfl w2.heap.size (heA f x y z) _ rfl rfl rfl rfl (bO _ _ _ _) z2.out ?_;intro w3 h3 g3))
  go_ret;rw[HE.out];exact⟨rfl,HB2.out.trans ((Fc |>.grown g3 Fg (fun k e=>by cases e;exact Nat.le_refl _)).mono HB2.out.size)⟩
 |true=>
  obtain⟨fk,hn⟩:=HF.out rfl;rw[if_pos rfl,hn]at HE;have FK:Hid (fu [z,x,iH f y]):=fk;clear HF fk hn;go_upto_region 4 with(first|(refine ae GK rfl _ _ rfl w2.heap.size (heA f x y z) _ rfl rfl rfl rfl (bO _ _ _ _) z2.out ?_;intro w3 h3 g3))
  have HB3:Hid (iO w w3.drew):=(HB2.out.trans ((Fc |>.grown g3 Fg (fun k e=>by cases e;exact Nat.le_refl _)).mono HB2.out.size)).drew;have D3:Hid (StB w3.drew w2.heap.size 165 (heA f x y z)):=h3;have ck:=fun wx=>om f y wx
  have cn:∀u w',ag w' u [z,x,iH f y]->Tab w'->_:=fun u w' hr ht=>gH u [z,x,iH f y] w' hr Fg Fg FK.out ht
  obtain⟨k,hk⟩:=Fe (iH f y)
  simp only[<-hk]at ck cn HE;have CN:Hid _:=cn;obtain⟨g,hg⟩:=Fe w2.heap.size
  rw[<-hg]at D3 h3⊢;obtain⟨m0,m1,m2,m3,m4,m5,m6⟩:=aY h3;obtain⟨d0,d1,d2,d3,d4,d5,d6⟩:=aY D3.out;clear h3 g3 z2 hk FK cn hg HB2;unfold kA at ck
  go_region_held3 (fun w'=>w'.cell? ⟨g,0,none⟩=some (.int .i64 (f 0))/\w'.cell? ⟨g,1,none⟩=some (.int .i64 (f 1))/\w'.cell? ⟨g,2,none⟩=some (.int .i64 (f 2))/\w'.cell? ⟨g,3,none⟩=some (.int .i64 (f 3))/\w'.cell? ⟨g,4,none⟩=some (.int .i64 x)/\w'.cell? ⟨g,5,none⟩=some (.int .i64 y)/\w'.cell? ⟨g,6,none⟩=some (.int .i64 z)) (refine⟨?_,?_,?_,?_,?_,?_,?_⟩<;>first|with_reducible assumption|(with_reducible refine xG ?_;with_reducible assumption))
   (first
    |(go_at_call 197;refine(ck _).mono ?_;rintro e w4 ⟨rfl,b4⟩;have B4:Hid (iO w w4):=HB3.out.trans (b4.mono HB3.out.size);have H4:Hid (StB w4 g 165 (heA f x y z)):=D3.out.below b4;obtain⟨n0,n1,n2,n3,n4,n5,n6⟩:=aY H4.out;clear b4)
    |(go_at_call 76;refine(CN.out _ _ (qP w4 z x k).reads (HT.out.below (B4.out.alloc B4.out.size _))).mono ?_;rintro e w5 ⟨rfl,b5⟩;have B5:Hid (iO w w5):=(B4.out.alloc B4.out.size _).trans (b5.mono (B4.out.alloc B4.out.size _).size);have H5:Hid (StB w5 g 165 (heA f x y z)):=(H4.out.alloc _).below b5;obtain⟨o0,o1,o2,o3,o4,o5,o6⟩:=aY H5.out;clear b5;unfold S))
  all_goals
   go_wp2;go_ret;exact⟨by rw[HE.out];rfl,B5.out⟩
def gW (w:World) (dx dy:List Int) (hh:Hd) (tx:Bs) (EV:Value) (e:Ending) (w':World):Prop:=
 ∃a b k,e=.returned (.tuple #[SRV a b k hh,.string ⟨tx.toArray⟩,EV])/\aZ w' w.heap.size a b k dx dy hh.ks/\iO w w'
theorem rX (f:eO) (u v q:Value) (xs ys:List Int) (h:Hd) (i:Int) (c:Cm) (w:World) (hu:ag w u xs) (hv:ag w v ys) (hq:ag w q h.ks) (S:Sen f w) (hn:(inI i 0 3&&c.ok)=false):
  Calls Tryz.prog 117 #[SRV u v q h,.int .i64 i,CV c] w (gW w [] [] Hd.zero [] (rfV f 7 [])):=by
 obtain⟨w1,hw1⟩:=Fe (((w.alloc (.cells (srA u v q h) 96)).alloc (.cells (cmA c) 66)).alloc (.cells zeR 96))
 have HX:Hid (Cx w w1 u v q h c):=by rw[hw1];exact Cx.start w u v q h c
 have HRD:Hid (ag w u xs/\ag w v ys/\ag w q h.ks):=⟨hu,hv,hq⟩
 have HSN:Hid (Sen f w):=S;obtain⟨uo,uc,rfl⟩:=aa hu;obtain⟨vo,vc,rfl⟩:=aa hv;obtain⟨qo,qc,rfl⟩:=aa hq;have CO:Hid (∀wx,Calls Tryz.prog 71 #[.agg #[.int .i64 c.o,.int .i64 c.p,.int .i64 c.a,.int .i64 c.b,.int .i64 c.k]] wx fun e w'=>e=.returned (.bool c.ok)/\iO wx w'):=fun wx=>dv c wx
 clear hu hv hq S HRD;unfold gW;rw[show rfV f 7 []=.iface 183 (.agg #[.iface 328 (.pointer (some f.n)),.string ⟨#[]⟩])from rfl];have cp:=fun wx=>cQ i wx
 cases hi:inI i 0 3 with
 |false=>
  rw[hi]at cp;have kn:=(HSN.out.below HX.out.bl).n;clear hn hi CO;unfold SRV CV;conv in srA (.slice uo xs.length uc) (.slice vo ys.length vc) (.slice qo h.ks.length qc) _=>unfold srA
  unfold cmA;unfold srA cmA zeR at hw1;have m0:w1.cell? ⟨w.heap.size+1,0,none⟩=some (.int .i64 c.o):=HX.out.cm.cell 0 rfl;have m1:w1.cell? ⟨w.heap.size+1,1,none⟩=some (.int .i64 c.p):=HX.out.cm.cell 1 rfl;have m2:w1.cell? ⟨w.heap.size+1,2,none⟩=some (.int .i64 c.a):=HX.out.cm.cell 2 rfl;have m3:w1.cell? ⟨w.heap.size+1,3,none⟩=some (.int .i64 c.b):=HX.out.cm.cell 3 rfl;have m4:w1.cell? ⟨w.heap.size+1,4,none⟩=some (.int .i64 c.k):=HX.out.cm.cell 4 rfl;go_enter Tryz.func117,Tryz.ntmps117;go_upto_region 1 with fail
  rw[<-hw1];clear hw1;go_wp2_with (first
   |(go_at_call 26;refine(cp _).mono ?_;rintro e w' ⟨rfl,hw'⟩;subst w')
   |(go_at_call 155;refine(dc _ _ _).mono ?_;rintro e w' ⟨rfl,hw'⟩;subst w')
   |(refine ae GP rfl _ _ rfl (w.heap.size+1+1) zeR zeR rfl rfl rfl rfl (ee Hd.zero rfl rfl rfl) HX.out.rs ?_;intro w5 s5 g5))
  refine bodyPost_ret (dN GP rfl _ _ (w.heap.size+1+1) _ _ _ rfl rfl rfl rfl s5) rfl ?_;exact⟨_,_,_,rfl,aZ.nil _ _,HX.out.bl.grown g5 HX.out.bl.size (fun k e=>by cases e;omega)⟩
 |true=>
  have hc:c.ok=false:=by rw[hi]at hn;simpa using hn
  rw[hi]at cp;rw[hc]at CO;clear hn hi hc;unfold SRV CV;conv in srA (.slice uo xs.length uc) (.slice vo ys.length vc) (.slice qo h.ks.length qc) _=>unfold srA
  unfold cmA;unfold srA cmA zeR at hw1;have m0:w1.cell? ⟨w.heap.size+1,0,none⟩=some (.int .i64 c.o):=HX.out.cm.cell 0 rfl;have m1:w1.cell? ⟨w.heap.size+1,1,none⟩=some (.int .i64 c.p):=HX.out.cm.cell 1 rfl;have m2:w1.cell? ⟨w.heap.size+1,2,none⟩=some (.int .i64 c.a):=HX.out.cm.cell 2 rfl;have m3:w1.cell? ⟨w.heap.size+1,3,none⟩=some (.int .i64 c.b):=HX.out.cm.cell 3 rfl;have m4:w1.cell? ⟨w.heap.size+1,4,none⟩=some (.int .i64 c.k):=HX.out.cm.cell 4 rfl;go_enter Tryz.func117,Tryz.ntmps117;go_upto_region 1 with fail
  rw[<-hw1];clear hw1;go_wp2_with (go_at_call 26;refine(cp _).mono ?_;rintro e w' ⟨rfl,hw'⟩;subst w')
  refine(CO.out _).mono ?_;rintro e w2 ⟨rfl,b2⟩;have X2:Hid (Cx w w2 (.slice uo xs.length uc) (.slice vo ys.length vc) (.slice qo h.ks.length qc) h c):=HX.out.next b2;have kn:=(HSN.out.below X2.out.bl).n;clear HX b2 m0 m1 m2 m3 m4 CO cp;go_wp2_with (first
   |(go_at_call 155;refine(dc _ _ _).mono ?_;rintro e w' ⟨rfl,hw'⟩;subst w')
   |(refine ae GP rfl _ _ rfl (w.heap.size+1+1) zeR zeR rfl rfl rfl rfl (ee Hd.zero rfl rfl rfl) X2.out.rs ?_;intro w5 s5 g5))
  refine bodyPost_ret (dN GP rfl _ _ (w.heap.size+1+1) _ _ _ rfl rfl rfl rfl s5) rfl ?_;exact⟨_,_,_,rfl,aZ.nil _ _,X2.out.bl.grown g5 X2.out.bl.size (fun k e=>by cases e;omega)⟩
theorem rY (f:eO) (u v q:Value) (xs ys:List Int) (h:Hd) (i:Int) (c:Cm) (w:World) (hu:ag w u xs) (hv:ag w v ys) (hq:ag w q h.ks) (S:Sen f w) (hi:inI i 0 3=true) (hc:c.ok=true) (hrd:c.rd=true) (hwr:c.wr=false) (dx dy:List Int) (hh:Hd) (tx:Bs) (EV:Value) (CP':∀wx,iO w wx->Calls Tryz.prog 158 #[SRV u v q h,.int .i64 i,CV c] wx (gW wx dx dy hh tx EV)):
  Calls Tryz.prog 117 #[SRV u v q h,.int .i64 i,CV c] w (gW w dx dy hh tx EV):=by
 obtain⟨w1,hw1⟩:=Fe (((w.alloc (.cells (srA u v q h) 96)).alloc (.cells (cmA c) 66)).alloc (.cells zeR 96))
 have HX:Hid (Cx w w1 u v q h c):=by rw[hw1];exact Cx.start w u v q h c
 have HRD:Hid (ag w u xs/\ag w v ys/\ag w q h.ks):=⟨hu,hv,hq⟩
 have HSN:Hid (Sen f w):=S;obtain⟨uo,uc,rfl⟩:=aa hu;obtain⟨vo,vc,rfl⟩:=aa hv;obtain⟨qo,qc,rfl⟩:=aa hq;have cp:=fun wx=>cQ i wx
 rw[hi]at cp;have CO:Hid (∀wx,Calls Tryz.prog 71 #[.agg #[.int .i64 c.o,.int .i64 c.p,.int .i64 c.a,.int .i64 c.b,.int .i64 c.k]] wx fun e w'=>e=.returned (.bool true)/\iO wx w'):=fun wx=>by
  have:=dv c wx;rw[hc]at this;exact this
 have CRd:Hid (∀wx,Calls Tryz.prog 156 #[.agg #[.int .i64 c.o,.int .i64 c.p,.int .i64 c.a,.int .i64 c.b,.int .i64 c.k]] wx fun e w'=>e=.returned (.bool true)/\iO wx w'):=fun wx=>by
  have:=gJ c wx;rw[hrd]at this;exact this
 have CWr:Hid (∀wx,Calls Tryz.prog 157 #[.agg #[.int .i64 c.o,.int .i64 c.p,.int .i64 c.a,.int .i64 c.b,.int .i64 c.k]] wx fun e w'=>e=.returned (.bool false)/\iO wx w'):=fun wx=>by
  have:=eG c wx;rw[hwr]at this;exact this
 have CP:Hid (∀wx,iO w wx->Calls Tryz.prog 158 #[.agg #[.slice uo xs.length uc,.slice vo ys.length vc,.slice qo h.ks.length qc,.int .i64 h.kd,.int .i64 h.ho,.int .i64 h.tu],.int .i64 i,.agg #[.int .i64 c.o,.int .i64 c.p,.int .i64 c.a,.int .i64 c.b,.int .i64 c.k]] wx (fun e w'=>∃a b k,e=.returned (.tuple #[SRV a b k hh,.string ⟨tx.toArray⟩,EV])/\aZ w' wx.heap.size a b k dx dy hh.ks/\iO wx w')):=CP';clear CP' hu hv hq S HRD hi hc hrd hwr HSN;unfold gW;unfold SRV at CP;unfold SRV CV;conv in srA (.slice uo xs.length uc) (.slice vo ys.length vc) (.slice qo h.ks.length qc) _=>unfold srA
 unfold cmA;unfold srA cmA zeR at hw1;have m0:w1.cell? ⟨w.heap.size+1,0,none⟩=some (.int .i64 c.o):=HX.out.cm.cell 0 rfl;have m1:w1.cell? ⟨w.heap.size+1,1,none⟩=some (.int .i64 c.p):=HX.out.cm.cell 1 rfl;have m2:w1.cell? ⟨w.heap.size+1,2,none⟩=some (.int .i64 c.a):=HX.out.cm.cell 2 rfl;have m3:w1.cell? ⟨w.heap.size+1,3,none⟩=some (.int .i64 c.b):=HX.out.cm.cell 3 rfl;have m4:w1.cell? ⟨w.heap.size+1,4,none⟩=some (.int .i64 c.k):=HX.out.cm.cell 4 rfl;go_enter Tryz.func117,Tryz.ntmps117;go_upto_region 1 with fail
 rw[<-hw1];clear hw1;go_wp2_with (go_at_call 26;refine(cp _).mono ?_;rintro e w' ⟨rfl,hw'⟩;subst w')
 refine(CO.out _).mono ?_;rintro e w2 ⟨rfl,b2⟩;have X2:Hid (Cx w w2 (.slice uo xs.length uc) (.slice vo ys.length vc) (.slice qo h.ks.length qc) h c):=HX.out.next b2;clear HX b2 m0 m1 m2 m3 m4 CO cp;have m0:w2.cell? ⟨w.heap.size+1,0,none⟩=some (.int .i64 c.o):=X2.out.cm.cell 0 rfl;have m1:w2.cell? ⟨w.heap.size+1,1,none⟩=some (.int .i64 c.p):=X2.out.cm.cell 1 rfl;have m2:w2.cell? ⟨w.heap.size+1,2,none⟩=some (.int .i64 c.a):=X2.out.cm.cell 2 rfl;have m3:w2.cell? ⟨w.heap.size+1,3,none⟩=some (.int .i64 c.b):=X2.out.cm.cell 3 rfl;have m4:w2.cell? ⟨w.heap.size+1,4,none⟩=some (.int .i64 c.k):=X2.out.cm.cell 4 rfl;go_wp2_with fail
 refine(CRd.out _).mono ?_;rintro e w3 ⟨rfl,b3⟩;have X3:Hid (Cx w w3 (.slice uo xs.length uc) (.slice vo ys.length vc) (.slice qo h.ks.length qc) h c):=X2.out.next b3;clear X2 b3 m0 m1 m2 m3 m4 CRd;have m0:w3.cell? ⟨w.heap.size+1,0,none⟩=some (.int .i64 c.o):=X3.out.cm.cell 0 rfl;have m1:w3.cell? ⟨w.heap.size+1,1,none⟩=some (.int .i64 c.p):=X3.out.cm.cell 1 rfl;have m2:w3.cell? ⟨w.heap.size+1,2,none⟩=some (.int .i64 c.a):=X3.out.cm.cell 2 rfl;have m3:w3.cell? ⟨w.heap.size+1,3,none⟩=some (.int .i64 c.b):=X3.out.cm.cell 3 rfl;have m4:w3.cell? ⟨w.heap.size+1,4,none⟩=some (.int .i64 c.k):=X3.out.cm.cell 4 rfl;go_wp2_with (refine ah GP rfl _ rfl w.heap.size rfl _ rfl X3.out.st ?_)
 refine(CP.out _ X3.out.bl).mono ?_;rintro e w6 ⟨a,b,k,rfl,o6,b6⟩;obtain⟨ao,ac,rfl⟩:=o6.1.1.reads.form;obtain⟨bo,bc,rfl⟩:=o6.1.2.1.reads.form;obtain⟨ko,kc,rfl⟩:=o6.2.1.reads.form;have X6:Hid (Cx w w6 (.slice uo xs.length uc) (.slice vo ys.length vc) (.slice qo h.ks.length qc) h c):=X3.out.next b6;have O6:Hid (aZ w6 (w.heap.size+3) (.slice ao dx.length ac) (.slice bo dy.length bc) (.slice ko hh.ks.length kc) dx dy hh.ks):=o6.mono X3.out.sz;clear X3 b6 o6 m0 m1 m2 m3 m4 CP;go_wp2_with (refine ae GP rfl _ _ rfl (w.heap.size+1+1) (srA (.slice ao dx.length ac) (.slice bo dy.length bc) (.slice ko hh.ks.length kc) hh) zeR rfl rfl rfl rfl (ee hh rfl rfl rfl) X6.out.rs ?_;intro w7 s7 g7)
 refine bodyPost_ret (dN GP rfl _ _ (w.heap.size+1+1) _ _ _ rfl rfl rfl rfl s7) rfl ?_;exact⟨_,_,_,rfl,(O6.out.keptLt g7 Ff).mono Ff,X6.out.bl.grown g7 X6.out.bl.size (fun k e=>by cases e;omega)⟩
theorem pF (f:eO) (u v q:Value) (xs ys:List Int) (h:Hd) (i:Int) (c:Cm) (w:World) (hu:ag w u xs) (hv:ag w v ys) (hq:ag w q h.ks) (S:Sen f w) (hi:inI i 0 3=true) (hc:c.ok=true) (hrd:c.rd=false) (hwr:c.wr=true) (dx dy:List Int) (hh:Hd) (tx:Bs) (EV:Value) (CP':∀wx,iO w wx->Calls Tryz.prog 158 #[SRV u v q h,.int .i64 i,CV c] wx (gW wx dx dy hh tx EV)):
  Calls Tryz.prog 117 #[SRV u v q h,.int .i64 i,CV c] w (gW w dx dy hh tx EV):=by
 obtain⟨w1,hw1⟩:=Fe (((w.alloc (.cells (srA u v q h) 96)).alloc (.cells (cmA c) 66)).alloc (.cells zeR 96))
 have HX:Hid (Cx w w1 u v q h c):=by rw[hw1];exact Cx.start w u v q h c
 have HRD:Hid (ag w u xs/\ag w v ys/\ag w q h.ks):=⟨hu,hv,hq⟩
 have HSN:Hid (Sen f w):=S;obtain⟨uo,uc,rfl⟩:=aa hu;obtain⟨vo,vc,rfl⟩:=aa hv;obtain⟨qo,qc,rfl⟩:=aa hq;have cp:=fun wx=>cQ i wx
 rw[hi]at cp;have CO:Hid (∀wx,Calls Tryz.prog 71 #[.agg #[.int .i64 c.o,.int .i64 c.p,.int .i64 c.a,.int .i64 c.b,.int .i64 c.k]] wx fun e w'=>e=.returned (.bool true)/\iO wx w'):=fun wx=>by
  have:=dv c wx;rw[hc]at this;exact this
 have CRd:Hid (∀wx,Calls Tryz.prog 156 #[.agg #[.int .i64 c.o,.int .i64 c.p,.int .i64 c.a,.int .i64 c.b,.int .i64 c.k]] wx fun e w'=>e=.returned (.bool false)/\iO wx w'):=fun wx=>by
  have:=gJ c wx;rw[hrd]at this;exact this
 have CWr:Hid (∀wx,Calls Tryz.prog 157 #[.agg #[.int .i64 c.o,.int .i64 c.p,.int .i64 c.a,.int .i64 c.b,.int .i64 c.k]] wx fun e w'=>e=.returned (.bool true)/\iO wx w'):=fun wx=>by
  have:=eG c wx;rw[hwr]at this;exact this
 have CP:Hid (∀wx,iO w wx->Calls Tryz.prog 158 #[.agg #[.slice uo xs.length uc,.slice vo ys.length vc,.slice qo h.ks.length qc,.int .i64 h.kd,.int .i64 h.ho,.int .i64 h.tu],.int .i64 i,.agg #[.int .i64 c.o,.int .i64 c.p,.int .i64 c.a,.int .i64 c.b,.int .i64 c.k]] wx (fun e w'=>∃a b k,e=.returned (.tuple #[SRV a b k hh,.string ⟨tx.toArray⟩,EV])/\aZ w' wx.heap.size a b k dx dy hh.ks/\iO wx w')):=CP';clear CP' hu hv hq S HRD hi hc hrd hwr HSN;unfold gW;unfold SRV at CP;unfold SRV CV;conv in srA (.slice uo xs.length uc) (.slice vo ys.length vc) (.slice qo h.ks.length qc) _=>unfold srA
 unfold cmA;unfold srA cmA zeR at hw1;have m0:w1.cell? ⟨w.heap.size+1,0,none⟩=some (.int .i64 c.o):=HX.out.cm.cell 0 rfl;have m1:w1.cell? ⟨w.heap.size+1,1,none⟩=some (.int .i64 c.p):=HX.out.cm.cell 1 rfl;have m2:w1.cell? ⟨w.heap.size+1,2,none⟩=some (.int .i64 c.a):=HX.out.cm.cell 2 rfl;have m3:w1.cell? ⟨w.heap.size+1,3,none⟩=some (.int .i64 c.b):=HX.out.cm.cell 3 rfl;have m4:w1.cell? ⟨w.heap.size+1,4,none⟩=some (.int .i64 c.k):=HX.out.cm.cell 4 rfl;go_enter Tryz.func117,Tryz.ntmps117;go_upto_region 1 with fail
 rw[<-hw1];clear hw1;go_wp2_with (go_at_call 26;refine(cp _).mono ?_;rintro e w' ⟨rfl,hw'⟩;subst w')
 refine(CO.out _).mono ?_;rintro e w2 ⟨rfl,b2⟩;have X2:Hid (Cx w w2 (.slice uo xs.length uc) (.slice vo ys.length vc) (.slice qo h.ks.length qc) h c):=HX.out.next b2;clear HX b2 m0 m1 m2 m3 m4 CO cp;have m0:w2.cell? ⟨w.heap.size+1,0,none⟩=some (.int .i64 c.o):=X2.out.cm.cell 0 rfl;have m1:w2.cell? ⟨w.heap.size+1,1,none⟩=some (.int .i64 c.p):=X2.out.cm.cell 1 rfl;have m2:w2.cell? ⟨w.heap.size+1,2,none⟩=some (.int .i64 c.a):=X2.out.cm.cell 2 rfl;have m3:w2.cell? ⟨w.heap.size+1,3,none⟩=some (.int .i64 c.b):=X2.out.cm.cell 3 rfl;have m4:w2.cell? ⟨w.heap.size+1,4,none⟩=some (.int .i64 c.k):=X2.out.cm.cell 4 rfl;go_wp2_with fail
 refine(CRd.out _).mono ?_;rintro e w3 ⟨rfl,b3⟩;have X3:Hid (Cx w w3 (.slice uo xs.length uc) (.slice vo ys.length vc) (.slice qo h.ks.length qc) h c):=X2.out.next b3;clear X2 b3 m0 m1 m2 m3 m4 CRd;have m0:w3.cell? ⟨w.heap.size+1,0,none⟩=some (.int .i64 c.o):=X3.out.cm.cell 0 rfl;have m1:w3.cell? ⟨w.heap.size+1,1,none⟩=some (.int .i64 c.p):=X3.out.cm.cell 1 rfl;have m2:w3.cell? ⟨w.heap.size+1,2,none⟩=some (.int .i64 c.a):=X3.out.cm.cell 2 rfl;have m3:w3.cell? ⟨w.heap.size+1,3,none⟩=some (.int .i64 c.b):=X3.out.cm.cell 3 rfl;have m4:w3.cell? ⟨w.heap.size+1,4,none⟩=some (.int .i64 c.k):=X3.out.cm.cell 4 rfl;go_wp2_with fail
 refine(CWr.out _).mono ?_;rintro e w9 ⟨rfl,b9⟩;have X9:Hid (Cx w w9 (.slice uo xs.length uc) (.slice vo ys.length vc) (.slice qo h.ks.length qc) h c):=X3.out.next b9;clear X3 b9 m0 m1 m2 m3 m4 CWr;have m0:w9.cell? ⟨w.heap.size+1,0,none⟩=some (.int .i64 c.o):=X9.out.cm.cell 0 rfl;have m1:w9.cell? ⟨w.heap.size+1,1,none⟩=some (.int .i64 c.p):=X9.out.cm.cell 1 rfl;have m2:w9.cell? ⟨w.heap.size+1,2,none⟩=some (.int .i64 c.a):=X9.out.cm.cell 2 rfl;have m3:w9.cell? ⟨w.heap.size+1,3,none⟩=some (.int .i64 c.b):=X9.out.cm.cell 3 rfl;have m4:w9.cell? ⟨w.heap.size+1,4,none⟩=some (.int .i64 c.k):=X9.out.cm.cell 4 rfl;go_wp2_with (refine ah GP rfl _ rfl w.heap.size rfl _ rfl X9.out.st ?_)
 refine(CP.out _ X9.out.bl).mono ?_;rintro e w6 ⟨a,b,k,rfl,o6,b6⟩;obtain⟨ao,ac,rfl⟩:=o6.1.1.reads.form;obtain⟨bo,bc,rfl⟩:=o6.1.2.1.reads.form;obtain⟨ko,kc,rfl⟩:=o6.2.1.reads.form;have X6:Hid (Cx w w6 (.slice uo xs.length uc) (.slice vo ys.length vc) (.slice qo h.ks.length qc) h c):=X9.out.next b6;have O6:Hid (aZ w6 (w.heap.size+3) (.slice ao dx.length ac) (.slice bo dy.length bc) (.slice ko hh.ks.length kc) dx dy hh.ks):=o6.mono X9.out.sz;clear X9 b6 o6 m0 m1 m2 m3 m4 CP;go_wp2_with (refine ae GP rfl _ _ rfl (w.heap.size+1+1) (srA (.slice ao dx.length ac) (.slice bo dy.length bc) (.slice ko hh.ks.length kc) hh) zeR rfl rfl rfl rfl (ee hh rfl rfl rfl) X6.out.rs ?_;intro w7 s7 g7)
 refine bodyPost_ret (dN GP rfl _ _ (w.heap.size+1+1) _ _ _ rfl rfl rfl rfl s7) rfl ?_;exact⟨_,_,_,rfl,(O6.out.keptLt g7 Ff).mono Ff,X6.out.bl.grown g7 X6.out.bl.size (fun k e=>by cases e;omega)⟩
theorem lm (f:eO) (u v q:Value) (xs ys:List Int) (h:Hd) (i:Int) (c:Cm) (w:World) (hu:ag w u xs) (hv:ag w v ys) (hq:ag w q h.ks) (S:Sen f w) (hi:inI i 0 3=true) (hc:c.ok=true) (hrd:c.rd=false) (hwr:c.wr=false) (n11':c.o≠11) (n12':c.o≠12) (dx dy:List Int) (hh:Hd) (tx:Bs) (EV:Value) (CP':∀wx,iO w wx->Calls Tryz.prog 161 #[SRV u v q h,.int .i64 i,CV c] wx (gW wx dx dy hh tx EV)):
  Calls Tryz.prog 117 #[SRV u v q h,.int .i64 i,CV c] w (gW w dx dy hh tx EV):=by
 have N11:Hid (c.o≠11):=n11';have N12:Hid (c.o≠12):=n12';clear n11' n12';obtain⟨w1,hw1⟩:=Fe (((w.alloc (.cells (srA u v q h) 96)).alloc (.cells (cmA c) 66)).alloc (.cells zeR 96))
 have HX:Hid (Cx w w1 u v q h c):=by rw[hw1];exact Cx.start w u v q h c
 have HRD:Hid (ag w u xs/\ag w v ys/\ag w q h.ks):=⟨hu,hv,hq⟩
 have HSN:Hid (Sen f w):=S;obtain⟨uo,uc,rfl⟩:=aa hu;obtain⟨vo,vc,rfl⟩:=aa hv;obtain⟨qo,qc,rfl⟩:=aa hq;have cp:=fun wx=>cQ i wx
 rw[hi]at cp;have CO:Hid (∀wx,Calls Tryz.prog 71 #[.agg #[.int .i64 c.o,.int .i64 c.p,.int .i64 c.a,.int .i64 c.b,.int .i64 c.k]] wx fun e w'=>e=.returned (.bool true)/\iO wx w'):=fun wx=>by
  have:=dv c wx;rw[hc]at this;exact this
 have CRd:Hid (∀wx,Calls Tryz.prog 156 #[.agg #[.int .i64 c.o,.int .i64 c.p,.int .i64 c.a,.int .i64 c.b,.int .i64 c.k]] wx fun e w'=>e=.returned (.bool false)/\iO wx w'):=fun wx=>by
  have:=gJ c wx;rw[hrd]at this;exact this
 have CWr:Hid (∀wx,Calls Tryz.prog 157 #[.agg #[.int .i64 c.o,.int .i64 c.p,.int .i64 c.a,.int .i64 c.b,.int .i64 c.k]] wx fun e w'=>e=.returned (.bool false)/\iO wx w'):=fun wx=>by
  have:=eG c wx;rw[hwr]at this;exact this
 have CP:Hid (∀wx,iO w wx->Calls Tryz.prog 161 #[.agg #[.slice uo xs.length uc,.slice vo ys.length vc,.slice qo h.ks.length qc,.int .i64 h.kd,.int .i64 h.ho,.int .i64 h.tu],.int .i64 i,.agg #[.int .i64 c.o,.int .i64 c.p,.int .i64 c.a,.int .i64 c.b,.int .i64 c.k]] wx (fun e w'=>∃a b k,e=.returned (.tuple #[SRV a b k hh,.string ⟨tx.toArray⟩,EV])/\aZ w' wx.heap.size a b k dx dy hh.ks/\iO wx w')):=CP';clear CP' hu hv hq S HRD hi hc hrd hwr HSN;unfold gW;unfold SRV at CP;unfold SRV CV;conv in srA (.slice uo xs.length uc) (.slice vo ys.length vc) (.slice qo h.ks.length qc) _=>unfold srA
 unfold cmA;unfold srA cmA zeR at hw1;have m0:w1.cell? ⟨w.heap.size+1,0,none⟩=some (.int .i64 c.o):=HX.out.cm.cell 0 rfl;have m1:w1.cell? ⟨w.heap.size+1,1,none⟩=some (.int .i64 c.p):=HX.out.cm.cell 1 rfl;have m2:w1.cell? ⟨w.heap.size+1,2,none⟩=some (.int .i64 c.a):=HX.out.cm.cell 2 rfl;have m3:w1.cell? ⟨w.heap.size+1,3,none⟩=some (.int .i64 c.b):=HX.out.cm.cell 3 rfl;have m4:w1.cell? ⟨w.heap.size+1,4,none⟩=some (.int .i64 c.k):=HX.out.cm.cell 4 rfl;go_enter Tryz.func117,Tryz.ntmps117;go_upto_region 1 with fail
 rw[<-hw1];clear hw1;go_wp2_with (go_at_call 26;refine(cp _).mono ?_;rintro e w' ⟨rfl,hw'⟩;subst w')
 refine(CO.out _).mono ?_;rintro e w2 ⟨rfl,b2⟩;have X2:Hid (Cx w w2 (.slice uo xs.length uc) (.slice vo ys.length vc) (.slice qo h.ks.length qc) h c):=HX.out.next b2;clear HX b2 m0 m1 m2 m3 m4 CO cp;have m0:w2.cell? ⟨w.heap.size+1,0,none⟩=some (.int .i64 c.o):=X2.out.cm.cell 0 rfl;have m1:w2.cell? ⟨w.heap.size+1,1,none⟩=some (.int .i64 c.p):=X2.out.cm.cell 1 rfl;have m2:w2.cell? ⟨w.heap.size+1,2,none⟩=some (.int .i64 c.a):=X2.out.cm.cell 2 rfl;have m3:w2.cell? ⟨w.heap.size+1,3,none⟩=some (.int .i64 c.b):=X2.out.cm.cell 3 rfl;have m4:w2.cell? ⟨w.heap.size+1,4,none⟩=some (.int .i64 c.k):=X2.out.cm.cell 4 rfl;go_wp2_with fail
 refine(CRd.out _).mono ?_;rintro e w3 ⟨rfl,b3⟩;have X3:Hid (Cx w w3 (.slice uo xs.length uc) (.slice vo ys.length vc) (.slice qo h.ks.length qc) h c):=X2.out.next b3;clear X2 b3 m0 m1 m2 m3 m4 CRd;have m0:w3.cell? ⟨w.heap.size+1,0,none⟩=some (.int .i64 c.o):=X3.out.cm.cell 0 rfl;have m1:w3.cell? ⟨w.heap.size+1,1,none⟩=some (.int .i64 c.p):=X3.out.cm.cell 1 rfl;have m2:w3.cell? ⟨w.heap.size+1,2,none⟩=some (.int .i64 c.a):=X3.out.cm.cell 2 rfl;have m3:w3.cell? ⟨w.heap.size+1,3,none⟩=some (.int .i64 c.b):=X3.out.cm.cell 3 rfl;have m4:w3.cell? ⟨w.heap.size+1,4,none⟩=some (.int .i64 c.k):=X3.out.cm.cell 4 rfl;go_wp2_with fail
 refine(CWr.out _).mono ?_;rintro e w9 ⟨rfl,b9⟩;have X9:Hid (Cx w w9 (.slice uo xs.length uc) (.slice vo ys.length vc) (.slice qo h.ks.length qc) h c):=X3.out.next b9;clear X3 b9 m0 m1 m2 m3 m4 CWr;have m0:w9.cell? ⟨w.heap.size+1,0,none⟩=some (.int .i64 c.o):=X9.out.cm.cell 0 rfl;have m1:w9.cell? ⟨w.heap.size+1,1,none⟩=some (.int .i64 c.p):=X9.out.cm.cell 1 rfl;have m2:w9.cell? ⟨w.heap.size+1,2,none⟩=some (.int .i64 c.a):=X9.out.cm.cell 2 rfl;have m3:w9.cell? ⟨w.heap.size+1,3,none⟩=some (.int .i64 c.b):=X9.out.cm.cell 3 rfl;have m4:w9.cell? ⟨w.heap.size+1,4,none⟩=some (.int .i64 c.k):=X9.out.cm.cell 4 rfl;have n11:=N11.out;have n12:=N12.out;go_wp2_with (refine ah GP rfl _ rfl w.heap.size rfl _ rfl X9.out.st ?_)
 refine(CP.out _ X9.out.bl).mono ?_;rintro e w6 ⟨a,b,k,rfl,o6,b6⟩;obtain⟨ao,ac,rfl⟩:=o6.1.1.reads.form;obtain⟨bo,bc,rfl⟩:=o6.1.2.1.reads.form;obtain⟨ko,kc,rfl⟩:=o6.2.1.reads.form;have X6:Hid (Cx w w6 (.slice uo xs.length uc) (.slice vo ys.length vc) (.slice qo h.ks.length qc) h c):=X9.out.next b6;have O6:Hid (aZ w6 (w.heap.size+3) (.slice ao dx.length ac) (.slice bo dy.length bc) (.slice ko hh.ks.length kc) dx dy hh.ks):=o6.mono X9.out.sz;clear X9 b6 o6 m0 m1 m2 m3 m4 CP;go_wp2_with (refine ae GP rfl _ _ rfl (w.heap.size+1+1) (srA (.slice ao dx.length ac) (.slice bo dy.length bc) (.slice ko hh.ks.length kc) hh) zeR rfl rfl rfl rfl (ee hh rfl rfl rfl) X6.out.rs ?_;intro w7 s7 g7)
 refine bodyPost_ret (dN GP rfl _ _ (w.heap.size+1+1) _ _ _ rfl rfl rfl rfl s7) rfl ?_;exact⟨_,_,_,rfl,(O6.out.keptLt g7 Ff).mono Ff,X6.out.bl.grown g7 X6.out.bl.size (fun k e=>by cases e;omega)⟩
theorem oB (f:eO) (u v q:Value) (xs ys:List Int) (h:Hd) (i:Int) (c:Cm) (w:World) (hu:ag w u xs) (hv:ag w v ys) (hq:ag w q h.ks) (S:Sen f w) (hb:au xs ys=true) (ok:h.ok=true) (ht:Tab w) (hi:inI i 0 3=true) (hc:c.ok=true) (hrd:c.rd=false) (hwr:c.wr=false) (ho':c.o=11):
  Calls Tryz.prog 117 #[SRV u v q h,.int .i64 i,CV c] w (gW w xs ys h h.keysT .nilIface):=by
 have HO:Hid (c.o=11):=ho';clear ho';obtain⟨w1,hw1⟩:=Fe (((w.alloc (.cells (srA u v q h) 96)).alloc (.cells (cmA c) 66)).alloc (.cells zeR 96))
 have HX:Hid (Cx w w1 u v q h c):=by rw[hw1];exact Cx.start w u v q h c
 have HRD:Hid (ag w u xs/\ag w v ys/\ag w q h.ks):=⟨hu,hv,hq⟩
 have HSN:Hid (Sen f w):=S;obtain⟨n1,n8,nl⟩:=cI hb;have gx:xs.length<=1099511627776:=by omega
 have gy:ys.length<=1099511627776:=by omega
 have hx1:1<=xs.length:=by omega
 have hy1:1<=ys.length:=by omega
 have hk4:=(Hd.ok_all ok).1;have hk1:1<=h.ks.length:=by omega
 have gk:h.ks.length<=1099511627776:=by omega
 have CF:Hid (∀wx,iO w wx->Calls Tryz.prog 72 #[.agg (srA u v q h)] wx fun e w'=>∃a b k,e=.returned (.agg (srA a b k h))/\aZ w' wx.heap.size a b k xs ys h.ks/\iO wx w'):=fun wx e=>eS u v q xs ys h wx (hu.below e (Nat.le_refl _)) (hv.below e (Nat.le_refl _)) (hq.below e (Nat.le_refl _)) hx1 hy1 hk1 gx gy gk
 have CK':=fun wx (e:iO w wx)=>uh q h wx (hq.below e (Nat.le_refl _)) gk (ht.below e)
 obtain⟨tx,htx⟩:=Fe h.keysT
 rw[<-htx]at CK'⊢;have CK:Hid (∀wx,iO w wx->Calls Tryz.prog 159 #[.agg (hdA q h)] wx fun e w'=>e=.returned (.string ⟨tx.toArray⟩)/\iO wx w'):=CK';obtain⟨uo,uc,rfl⟩:=aa hu;obtain⟨vo,vc,rfl⟩:=aa hv;obtain⟨qo,qc,rfl⟩:=aa hq;have cp:=fun wx=>cQ i wx
 rw[hi]at cp;have CO:Hid (∀wx,Calls Tryz.prog 71 #[.agg #[.int .i64 c.o,.int .i64 c.p,.int .i64 c.a,.int .i64 c.b,.int .i64 c.k]] wx fun e w'=>e=.returned (.bool true)/\iO wx w'):=fun wx=>by
  have:=dv c wx;rw[hc]at this;exact this
 have CRd:Hid (∀wx,Calls Tryz.prog 156 #[.agg #[.int .i64 c.o,.int .i64 c.p,.int .i64 c.a,.int .i64 c.b,.int .i64 c.k]] wx fun e w'=>e=.returned (.bool false)/\iO wx w'):=fun wx=>by
  have:=gJ c wx;rw[hrd]at this;exact this
 have CWr:Hid (∀wx,Calls Tryz.prog 157 #[.agg #[.int .i64 c.o,.int .i64 c.p,.int .i64 c.a,.int .i64 c.b,.int .i64 c.k]] wx fun e w'=>e=.returned (.bool false)/\iO wx w'):=fun wx=>by
  have:=eG c wx;rw[hwr]at this;exact this
 clear CK' htx hu hv hq S HRD hi hc hrd hwr HSN hb ok ht gx gy gk hx1 hy1 hk1 hk4 n1 n8 nl;unfold gW;unfold hdA at CK;conv at CF in srA (.slice uo xs.length uc) (.slice vo ys.length vc) (.slice qo h.ks.length qc) _=>unfold srA
 unfold SRV CV;conv in srA (.slice uo xs.length uc) (.slice vo ys.length vc) (.slice qo h.ks.length qc) _=>unfold srA
 unfold cmA;unfold srA cmA zeR at hw1;have m0:w1.cell? ⟨w.heap.size+1,0,none⟩=some (.int .i64 c.o):=HX.out.cm.cell 0 rfl;have m1:w1.cell? ⟨w.heap.size+1,1,none⟩=some (.int .i64 c.p):=HX.out.cm.cell 1 rfl;have m2:w1.cell? ⟨w.heap.size+1,2,none⟩=some (.int .i64 c.a):=HX.out.cm.cell 2 rfl;have m3:w1.cell? ⟨w.heap.size+1,3,none⟩=some (.int .i64 c.b):=HX.out.cm.cell 3 rfl;have m4:w1.cell? ⟨w.heap.size+1,4,none⟩=some (.int .i64 c.k):=HX.out.cm.cell 4 rfl;go_enter Tryz.func117,Tryz.ntmps117;go_upto_region 1 with fail
 rw[<-hw1];clear hw1;go_wp2_with (go_at_call 26;refine(cp _).mono ?_;rintro e w' ⟨rfl,hw'⟩;subst w')
 refine(CO.out _).mono ?_;rintro e w2 ⟨rfl,b2⟩;have X2:Hid (Cx w w2 (.slice uo xs.length uc) (.slice vo ys.length vc) (.slice qo h.ks.length qc) h c):=HX.out.next b2;clear HX b2 m0 m1 m2 m3 m4 CO cp;have m0:w2.cell? ⟨w.heap.size+1,0,none⟩=some (.int .i64 c.o):=X2.out.cm.cell 0 rfl;have m1:w2.cell? ⟨w.heap.size+1,1,none⟩=some (.int .i64 c.p):=X2.out.cm.cell 1 rfl;have m2:w2.cell? ⟨w.heap.size+1,2,none⟩=some (.int .i64 c.a):=X2.out.cm.cell 2 rfl;have m3:w2.cell? ⟨w.heap.size+1,3,none⟩=some (.int .i64 c.b):=X2.out.cm.cell 3 rfl;have m4:w2.cell? ⟨w.heap.size+1,4,none⟩=some (.int .i64 c.k):=X2.out.cm.cell 4 rfl;go_wp2_with fail
 refine(CRd.out _).mono ?_;rintro e w3 ⟨rfl,b3⟩;have X3:Hid (Cx w w3 (.slice uo xs.length uc) (.slice vo ys.length vc) (.slice qo h.ks.length qc) h c):=X2.out.next b3;clear X2 b3 m0 m1 m2 m3 m4 CRd;have m0:w3.cell? ⟨w.heap.size+1,0,none⟩=some (.int .i64 c.o):=X3.out.cm.cell 0 rfl;have m1:w3.cell? ⟨w.heap.size+1,1,none⟩=some (.int .i64 c.p):=X3.out.cm.cell 1 rfl;have m2:w3.cell? ⟨w.heap.size+1,2,none⟩=some (.int .i64 c.a):=X3.out.cm.cell 2 rfl;have m3:w3.cell? ⟨w.heap.size+1,3,none⟩=some (.int .i64 c.b):=X3.out.cm.cell 3 rfl;have m4:w3.cell? ⟨w.heap.size+1,4,none⟩=some (.int .i64 c.k):=X3.out.cm.cell 4 rfl;go_wp2_with fail
 refine(CWr.out _).mono ?_;rintro e w9 ⟨rfl,b9⟩;have X9:Hid (Cx w w9 (.slice uo xs.length uc) (.slice vo ys.length vc) (.slice qo h.ks.length qc) h c):=X3.out.next b9;clear X3 b9 m0 m1 m2 m3 m4 CWr;have m0:w9.cell? ⟨w.heap.size+1,0,none⟩=some (.int .i64 c.o):=X9.out.cm.cell 0 rfl;have m1:w9.cell? ⟨w.heap.size+1,1,none⟩=some (.int .i64 c.p):=X9.out.cm.cell 1 rfl;have m2:w9.cell? ⟨w.heap.size+1,2,none⟩=some (.int .i64 c.a):=X9.out.cm.cell 2 rfl;have m3:w9.cell? ⟨w.heap.size+1,3,none⟩=some (.int .i64 c.b):=X9.out.cm.cell 3 rfl;have m4:w9.cell? ⟨w.heap.size+1,4,none⟩=some (.int .i64 c.k):=X9.out.cm.cell 4 rfl;have ho:=HO.out;go_upto_region 6 with fail
 clear ho m0 m1 m2 m3 m4;have C5:Hid (∀wx,iO w9 wx->iO w wx):=fun wx e=>X9.out.bl.trans (e.mono X9.out.bl.size)
 have q0:∀w',Sp (w.heap.size+1+1) w9 w'->w'.cell? ⟨w.heap.size,0,none⟩=some (.slice uo xs.length uc):=fun w' b=>b _ _ (by dsimp only;omega) (X9.out.st.cell 0 rfl)
 have q1:∀w',Sp (w.heap.size+1+1) w9 w'->w'.cell? ⟨w.heap.size,1,none⟩=some (.slice vo ys.length vc):=fun w' b=>b _ _ (by dsimp only;omega) (X9.out.st.cell 1 rfl)
 have q2:∀w',Sp (w.heap.size+1+1) w9 w'->w'.cell? ⟨w.heap.size,2,none⟩=some (.slice qo h.ks.length qc):=fun w' b=>b _ _ (by dsimp only;omega) (X9.out.st.cell 2 rfl)
 have q3:∀w',Sp (w.heap.size+1+1) w9 w'->w'.cell? ⟨w.heap.size,3,none⟩=some (.int .i64 h.kd):=fun w' b=>b _ _ (by dsimp only;omega) (X9.out.st.cell 3 rfl)
 have q4:∀w',Sp (w.heap.size+1+1) w9 w'->w'.cell? ⟨w.heap.size,4,none⟩=some (.int .i64 h.ho):=fun w' b=>b _ _ (by dsimp only;omega) (X9.out.st.cell 4 rfl)
 have q5:∀w',Sp (w.heap.size+1+1) w9 w'->w'.cell? ⟨w.heap.size,5,none⟩=some (.int .i64 h.tu):=fun w' b=>b _ _ (by dsimp only;omega) (X9.out.st.cell 5 rfl)
 go_region_held3 (fun w'=>Sp (w.heap.size+1+1) w9 w') ((repeat'(first|with_reducible assumption|with_reducible exact Sp.refl _ _|with_reducible refine Sp.al ?_|with_reducible refine Sp.dr ?_|with_reducible refine Sp.set ?_|with_reducible refine Sp.put ?_ (by with_reducible assumption)|with_reducible refine Sp.bel ?_ (by with_reducible assumption))))
  (first
   |(go_at_call 72;refine(CF.out _ (C5.out _ cC)).mono ?_;rintro e w5 ⟨a,b,k,rfl,o5,b5⟩;obtain⟨ao,ac,rfl⟩:=o5.1.1.reads.form;obtain⟨bo,bc,rfl⟩:=o5.1.2.1.reads.form;obtain⟨ko,kc,rfl⟩:=o5.2.1.reads.form;have B5:Hid (iO w9 w5):=(show iO w9 w5 from cC);have O5:Hid (aZ w5 (w.heap.size+3) (.slice ao xs.length ac) (.slice bo ys.length bc) (.slice ko h.ks.length kc) xs ys h.ks):=o5.mono (Nat.le_trans X9.out.sz (dm cC));clear o5)
   |(go_at_call 159;refine(CK.out _ (C5.out _ cC)).mono ?_;rintro e w4 ⟨rfl,b4⟩;have B4:Hid (iO w9 w4):=(show iO w9 w4 from cC);have X4:Hid (Cx w w4 (.slice uo xs.length uc) (.slice vo ys.length vc) (.slice qo h.ks.length qc) h c):=X9.out.next B4.out;have O4:Hid (aZ w4 (w.heap.size+3) (.slice ao xs.length ac) (.slice bo ys.length bc) (.slice ko h.ks.length kc) xs ys h.ks):=O5.out.below cC;skip)
   |((with_reducible show Oper.upon _ _ _ _ _ (Result.andThen (Sem.run _ (storeCells _ (srA _ _ _ _).toList) _) _));refine gn (w.heap.size+1+1) 96 (srA (.slice ao xs.length ac) (.slice bo ys.length bc) (.slice ko h.ks.length kc) h) zeR rfl (ee h rfl rfl rfl) X4.out.rs ?_;intro w6 s6 g6))
 all_goals
  go_wp2;refine bodyPost_ret (dN GP rfl _ _ (w.heap.size+1+1) _ _ _ rfl rfl rfl rfl s6) rfl ?_;exact⟨_,_,_,rfl,(O4.out.keptLt g6 Ff).mono Ff,X4.out.bl.grown g6 X4.out.bl.size (fun k e=>by cases e;omega)⟩
theorem lX (f:eO) (u v q:Value) (xs ys:List Int) (h:Hd) (i:Int) (c:Cm) (w:World) (hu:ag w u xs) (hv:ag w v ys) (hq:ag w q h.ks) (S:Sen f w) (hb:au xs ys=true) (ok:h.ok=true) (ht:Tab w) (hi:inI i 0 3=true) (hc:c.ok=true) (hrd:c.rd=false) (hwr:c.wr=false) (ho':c.o=12):
  Calls Tryz.prog 117 #[SRV u v q h,.int .i64 i,CV c] w (gW w xs ys h h.holdT .nilIface):=by
 have HO:Hid (c.o=12):=ho';clear ho';obtain⟨w1,hw1⟩:=Fe (((w.alloc (.cells (srA u v q h) 96)).alloc (.cells (cmA c) 66)).alloc (.cells zeR 96))
 have HX:Hid (Cx w w1 u v q h c):=by rw[hw1];exact Cx.start w u v q h c
 have HRD:Hid (ag w u xs/\ag w v ys/\ag w q h.ks):=⟨hu,hv,hq⟩
 have HSN:Hid (Sen f w):=S;obtain⟨n1,n8,nl⟩:=cI hb;have gx:xs.length<=1099511627776:=by omega
 have gy:ys.length<=1099511627776:=by omega
 have hx1:1<=xs.length:=by omega
 have hy1:1<=ys.length:=by omega
 have hk4:=(Hd.ok_all ok).1;have hk1:1<=h.ks.length:=by omega
 have gk:h.ks.length<=1099511627776:=by omega
 have CF:Hid (∀wx,iO w wx->Calls Tryz.prog 72 #[.agg (srA u v q h)] wx fun e w'=>∃a b k,e=.returned (.agg (srA a b k h))/\aZ w' wx.heap.size a b k xs ys h.ks/\iO wx w'):=fun wx e=>eS u v q xs ys h wx (hu.below e (Nat.le_refl _)) (hv.below e (Nat.le_refl _)) (hq.below e (Nat.le_refl _)) hx1 hy1 hk1 gx gy gk
 have CK':=fun wx (e:iO w wx)=>pH q h wx (hq.below e (Nat.le_refl _)) gk (ht.below e)
 obtain⟨tx,htx⟩:=Fe h.holdT
 rw[<-htx]at CK'⊢;have CK:Hid (∀wx,iO w wx->Calls Tryz.prog 160 #[.agg (hdA q h)] wx fun e w'=>e=.returned (.string ⟨tx.toArray⟩)/\iO wx w'):=CK';obtain⟨uo,uc,rfl⟩:=aa hu;obtain⟨vo,vc,rfl⟩:=aa hv;obtain⟨qo,qc,rfl⟩:=aa hq;have cp:=fun wx=>cQ i wx
 rw[hi]at cp;have CO:Hid (∀wx,Calls Tryz.prog 71 #[.agg #[.int .i64 c.o,.int .i64 c.p,.int .i64 c.a,.int .i64 c.b,.int .i64 c.k]] wx fun e w'=>e=.returned (.bool true)/\iO wx w'):=fun wx=>by
  have:=dv c wx;rw[hc]at this;exact this
 have CRd:Hid (∀wx,Calls Tryz.prog 156 #[.agg #[.int .i64 c.o,.int .i64 c.p,.int .i64 c.a,.int .i64 c.b,.int .i64 c.k]] wx fun e w'=>e=.returned (.bool false)/\iO wx w'):=fun wx=>by
  have:=gJ c wx;rw[hrd]at this;exact this
 have CWr:Hid (∀wx,Calls Tryz.prog 157 #[.agg #[.int .i64 c.o,.int .i64 c.p,.int .i64 c.a,.int .i64 c.b,.int .i64 c.k]] wx fun e w'=>e=.returned (.bool false)/\iO wx w'):=fun wx=>by
  have:=eG c wx;rw[hwr]at this;exact this
 clear CK' htx hu hv hq S HRD hi hc hrd hwr HSN hb ok ht gx gy gk hx1 hy1 hk1 hk4 n1 n8 nl;unfold gW;unfold hdA at CK;conv at CF in srA (.slice uo xs.length uc) (.slice vo ys.length vc) (.slice qo h.ks.length qc) _=>unfold srA
 unfold SRV CV;conv in srA (.slice uo xs.length uc) (.slice vo ys.length vc) (.slice qo h.ks.length qc) _=>unfold srA
 unfold cmA;unfold srA cmA zeR at hw1;have m0:w1.cell? ⟨w.heap.size+1,0,none⟩=some (.int .i64 c.o):=HX.out.cm.cell 0 rfl;have m1:w1.cell? ⟨w.heap.size+1,1,none⟩=some (.int .i64 c.p):=HX.out.cm.cell 1 rfl;have m2:w1.cell? ⟨w.heap.size+1,2,none⟩=some (.int .i64 c.a):=HX.out.cm.cell 2 rfl;have m3:w1.cell? ⟨w.heap.size+1,3,none⟩=some (.int .i64 c.b):=HX.out.cm.cell 3 rfl;have m4:w1.cell? ⟨w.heap.size+1,4,none⟩=some (.int .i64 c.k):=HX.out.cm.cell 4 rfl;go_enter Tryz.func117,Tryz.ntmps117;go_upto_region 1 with fail
 rw[<-hw1];clear hw1;go_wp2_with (go_at_call 26;refine(cp _).mono ?_;rintro e w' ⟨rfl,hw'⟩;subst w')
 refine(CO.out _).mono ?_;rintro e w2 ⟨rfl,b2⟩;have X2:Hid (Cx w w2 (.slice uo xs.length uc) (.slice vo ys.length vc) (.slice qo h.ks.length qc) h c):=HX.out.next b2;clear HX b2 m0 m1 m2 m3 m4 CO cp;have m0:w2.cell? ⟨w.heap.size+1,0,none⟩=some (.int .i64 c.o):=X2.out.cm.cell 0 rfl;have m1:w2.cell? ⟨w.heap.size+1,1,none⟩=some (.int .i64 c.p):=X2.out.cm.cell 1 rfl;have m2:w2.cell? ⟨w.heap.size+1,2,none⟩=some (.int .i64 c.a):=X2.out.cm.cell 2 rfl;have m3:w2.cell? ⟨w.heap.size+1,3,none⟩=some (.int .i64 c.b):=X2.out.cm.cell 3 rfl;have m4:w2.cell? ⟨w.heap.size+1,4,none⟩=some (.int .i64 c.k):=X2.out.cm.cell 4 rfl;go_wp2_with fail
 refine(CRd.out _).mono ?_;rintro e w3 ⟨rfl,b3⟩;have X3:Hid (Cx w w3 (.slice uo xs.length uc) (.slice vo ys.length vc) (.slice qo h.ks.length qc) h c):=X2.out.next b3;clear X2 b3 m0 m1 m2 m3 m4 CRd;have m0:w3.cell? ⟨w.heap.size+1,0,none⟩=some (.int .i64 c.o):=X3.out.cm.cell 0 rfl;have m1:w3.cell? ⟨w.heap.size+1,1,none⟩=some (.int .i64 c.p):=X3.out.cm.cell 1 rfl;have m2:w3.cell? ⟨w.heap.size+1,2,none⟩=some (.int .i64 c.a):=X3.out.cm.cell 2 rfl;have m3:w3.cell? ⟨w.heap.size+1,3,none⟩=some (.int .i64 c.b):=X3.out.cm.cell 3 rfl;have m4:w3.cell? ⟨w.heap.size+1,4,none⟩=some (.int .i64 c.k):=X3.out.cm.cell 4 rfl;go_wp2_with fail
 refine(CWr.out _).mono ?_;rintro e w9 ⟨rfl,b9⟩;have X9:Hid (Cx w w9 (.slice uo xs.length uc) (.slice vo ys.length vc) (.slice qo h.ks.length qc) h c):=X3.out.next b9;clear X3 b9 m0 m1 m2 m3 m4 CWr;have m0:w9.cell? ⟨w.heap.size+1,0,none⟩=some (.int .i64 c.o):=X9.out.cm.cell 0 rfl;have m1:w9.cell? ⟨w.heap.size+1,1,none⟩=some (.int .i64 c.p):=X9.out.cm.cell 1 rfl;have m2:w9.cell? ⟨w.heap.size+1,2,none⟩=some (.int .i64 c.a):=X9.out.cm.cell 2 rfl;have m3:w9.cell? ⟨w.heap.size+1,3,none⟩=some (.int .i64 c.b):=X9.out.cm.cell 3 rfl;have m4:w9.cell? ⟨w.heap.size+1,4,none⟩=some (.int .i64 c.k):=X9.out.cm.cell 4 rfl;have ho:=HO.out;go_upto_region 8 with fail
 clear ho m0 m1 m2 m3 m4;have C5:Hid (∀wx,iO w9 wx->iO w wx):=fun wx e=>X9.out.bl.trans (e.mono X9.out.bl.size)
 have q0:∀w',Sp (w.heap.size+1+1) w9 w'->w'.cell? ⟨w.heap.size,0,none⟩=some (.slice uo xs.length uc):=fun w' b=>b _ _ (by dsimp only;omega) (X9.out.st.cell 0 rfl)
 have q1:∀w',Sp (w.heap.size+1+1) w9 w'->w'.cell? ⟨w.heap.size,1,none⟩=some (.slice vo ys.length vc):=fun w' b=>b _ _ (by dsimp only;omega) (X9.out.st.cell 1 rfl)
 have q2:∀w',Sp (w.heap.size+1+1) w9 w'->w'.cell? ⟨w.heap.size,2,none⟩=some (.slice qo h.ks.length qc):=fun w' b=>b _ _ (by dsimp only;omega) (X9.out.st.cell 2 rfl)
 have q3:∀w',Sp (w.heap.size+1+1) w9 w'->w'.cell? ⟨w.heap.size,3,none⟩=some (.int .i64 h.kd):=fun w' b=>b _ _ (by dsimp only;omega) (X9.out.st.cell 3 rfl)
 have q4:∀w',Sp (w.heap.size+1+1) w9 w'->w'.cell? ⟨w.heap.size,4,none⟩=some (.int .i64 h.ho):=fun w' b=>b _ _ (by dsimp only;omega) (X9.out.st.cell 4 rfl)
 have q5:∀w',Sp (w.heap.size+1+1) w9 w'->w'.cell? ⟨w.heap.size,5,none⟩=some (.int .i64 h.tu):=fun w' b=>b _ _ (by dsimp only;omega) (X9.out.st.cell 5 rfl)
 go_region_held3 (fun w'=>Sp (w.heap.size+1+1) w9 w') ((repeat'(first|with_reducible assumption|with_reducible exact Sp.refl _ _|with_reducible refine Sp.al ?_|with_reducible refine Sp.dr ?_|with_reducible refine Sp.set ?_|with_reducible refine Sp.put ?_ (by with_reducible assumption)|with_reducible refine Sp.bel ?_ (by with_reducible assumption))))
  (first
   |(go_at_call 72;refine(CF.out _ (C5.out _ cC)).mono ?_;rintro e w5 ⟨a,b,k,rfl,o5,b5⟩;obtain⟨ao,ac,rfl⟩:=o5.1.1.reads.form;obtain⟨bo,bc,rfl⟩:=o5.1.2.1.reads.form;obtain⟨ko,kc,rfl⟩:=o5.2.1.reads.form;have B5:Hid (iO w9 w5):=(show iO w9 w5 from cC);have O5:Hid (aZ w5 (w.heap.size+3) (.slice ao xs.length ac) (.slice bo ys.length bc) (.slice ko h.ks.length kc) xs ys h.ks):=o5.mono (Nat.le_trans X9.out.sz (dm cC));clear o5)
   |(go_at_call 160;refine(CK.out _ (C5.out _ cC)).mono ?_;rintro e w4 ⟨rfl,b4⟩;have B4:Hid (iO w9 w4):=(show iO w9 w4 from cC);have X4:Hid (Cx w w4 (.slice uo xs.length uc) (.slice vo ys.length vc) (.slice qo h.ks.length qc) h c):=X9.out.next B4.out;have O4:Hid (aZ w4 (w.heap.size+3) (.slice ao xs.length ac) (.slice bo ys.length bc) (.slice ko h.ks.length kc) xs ys h.ks):=O5.out.below cC;skip)
   |((with_reducible show Oper.upon _ _ _ _ _ (Result.andThen (Sem.run _ (storeCells _ (srA _ _ _ _).toList) _) _));refine gn (w.heap.size+1+1) 96 (srA (.slice ao xs.length ac) (.slice bo ys.length bc) (.slice ko h.ks.length kc) h) zeR rfl (ee h rfl rfl rfl) X4.out.rs ?_;intro w6 s6 g6))
 all_goals
  go_wp2;refine bodyPost_ret (dN GP rfl _ _ (w.heap.size+1+1) _ _ _ rfl rfl rfl rfl s6) rfl ?_;exact⟨_,_,_,rfl,(O4.out.keptLt g6 Ff).mono Ff,X4.out.bl.grown g6 X4.out.bl.size (fun k e=>by cases e;omega)⟩
end Go.Proofs.YthldeiojlllkdaaGreatDoor
