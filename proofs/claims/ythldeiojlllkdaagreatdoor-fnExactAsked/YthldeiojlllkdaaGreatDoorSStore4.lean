/- The model's store, on: what is done in a right store, by actions, and where it is barred (l12Did). -/
import Derived.Test.YthldeiojlllkdaaGreatDoorM1
import Derived.Test.YthldeiojlllkdaaGreatDoorM22
import Derived.Test.YthldeiojlllkdaaGreatDoorM25
import Derived.Test.YthldeiojlllkdaaGreatDoorM21
set_option maxRecDepth 20000
set_option maxHeartbeats 2000000
namespace Go.Proofs.YthldeiojlllkdaaGreatDoor
open Go.ChangeShapes Go.WideShapes Go.ChangeAt Go.RowKit
structure Ds (w wx:World) (u v q:Value) (h:Hd) (c:Cm):Prop where
 st:StB wx w.heap.size 96 (srA u v q h)
 cm:StB wx (w.heap.size+1) 66 (cmA c)
 rs:StB wx (w.heap.size+1+1) 96 zeR
 ra:StB wx (w.heap.size+1+1+1) 44 (anA ⟨0,[]⟩)
 bl:bB w wx
 sz:w.heap.size+4<=wx.heap.size
theorem Ds.start (w:World) (u v q:Value) (h:Hd) (c:Cm):Ds w ((((w.alloc (.cells (srA u v q h) 96)).alloc (.cells (cmA c) 66)).alloc (.cells zeR 96)).alloc (.cells (anA ⟨0,[]⟩) 44)) u v q h c:=by
 have a1:=StB.new w 96 (srA u v q h);have a2:=StB.new (w.alloc (.cells (srA u v q h) 96)) 66 (cmA c);have a3:=StB.new ((w.alloc (.cells (srA u v q h) 96)).alloc (.cells (cmA c) 66)) 96 zeR;have a4:=StB.new (((w.alloc (.cells (srA u v q h) 96)).alloc (.cells (cmA c) 66)).alloc (.cells zeR 96)) 44 (anA ⟨0,[]⟩);simp only[World.size_alloc]at a2 a3 a4;refine⟨((a1.alloc _).alloc _).alloc _,(a2.alloc _).alloc _,a3.alloc _,a4,?_,by simp⟩;exact((bA.alloc (by simp) _).alloc (by simp;omega) _).alloc (by simp;omega) _
theorem Ds.next {w wx wy:World} {u v q:Value} {h:Hd} {c:Cm} (d:Ds w wx u v q h c) (b:bB wx wy):Ds w wy u v q h c:=
 ⟨d.st.below b,d.cm.below b,d.rs.below b,d.ra.below b,d.bl.trans (b.mono d.bl.size),Nat.le_trans d.sz b.size⟩
theorem Ds.back {w wx wy:World} {u v q:Value} {h:Hd} {c:Cm} (d:Ds w wx u v q h c) (b:Below (w.heap.size+4) wx wy):Ds w wy u v q h c:=
 ⟨(b.block _ (by omega)).trans d.st,(b.block _ (by omega)).trans d.cm,(b.block _ (by omega)).trans d.rs,(b.block _ (by omega)).trans d.ra,d.bl.trans (b.mono (by omega)),Nat.le_trans d.sz b.size⟩
theorem Ds.grown {w wx wy:World} {u v q:Value} {h:Hd} {c:Cm} {g:Nat} (d:Ds w wx u v q h c) (b:wx.grownBy wy (some g)) (hg:w.heap.size+4<=g):Ds w wy u v q h c:=
 ⟨d.st.kept b (by simp;omega),d.cm.kept b (by simp;omega),d.rs.kept b (by simp;omega),d.ra.kept b (by simp;omega),d.bl.grown b d.bl.size (fun k e=>by cases e;omega),Nat.le_trans d.sz b.size⟩
theorem Ds.drew {w wx:World} {u v q:Value} {h:Hd} {c:Cm} (d:Ds w wx u v q h c):Ds w wx.drew u v q h c:=⟨d.st,d.cm,d.rs,d.ra,d.bl.drew,d.sz⟩
theorem Ds.fin {w wx wy wz:World} {u v q:Value} {h:Hd} {c:Cm} {a b k:Value} {xs ys ks:List Int} {base:Nat} (d:Ds w wx u v q h c) (o:aY wx base a b k xs ys ks) (hb:w.heap.size+4<=base)
  (g5:wx.grownBy wy (some (w.heap.size+1+1))) (g6:wy.grownBy wz (some (w.heap.size+1+1+1))):aY wz w.heap.size a b k xs ys ks/\bB w wz:=by
 refine⟨((o.keptLt g5 (by omega)).keptLt g6 (by omega)).mono (by omega),?_⟩;have b5:=d.bl.grown g5 d.bl.size (fun k e=>by cases e;omega);exact b5.grown g6 b5.size (fun k e=>by cases e;omega)
theorem fL {fn:Func} {p q:Tmp} (h:fn.results=#[.cell p 96,.cell q 44]) (tmps:Array Value) (w:World) (g k:Nat) (cs ds:Array Value) (hc:cs.size=6) (hd:ds.size=2)
  (hp:tmps.getD p undef=.pointer (some ⟨g,0,none⟩)) (hq:tmps.getD q undef=.pointer (some ⟨k,0,none⟩)) (h1:StB w g 96 cs) (h2:StB w k 44 ds):(results fn tmps).run Tryz.prog w=.ok (.tuple #[.agg cs,.agg ds]) w:=by
 have l1:=gW Tryz.isR w g cs hc h1;have l2:=gW Tryz.isA w k ds hd h2;have hp':tmps[p]?.getD undef=.pointer (some ⟨g,0,none⟩):=by simpa using hp
 have hq':tmps[q]?.getD undef=.pointer (some ⟨k,0,none⟩):=by simpa using hq
 simp[results,h,hp',hq',asAddr,l1,l2]
theorem aY.kept {w w':World} {base g:Nat} {a b k:Value} {xs ys ks:List Int} (h:aY w base a b k xs ys ks) (e:w.grownBy w' (some g)) (ha:a.ownBlock≠some g) (hb:b.ownBlock≠some g) (hk:k.ownBlock≠some g):aY w' base a b k xs ys ks:=
 ⟨⟨h.1.1.kept e (.inr ha),h.1.2.1.kept e (.inr hb),h.1.2.2⟩,h.2.1.kept e (.inr hk),h.2.2⟩
theorem aY.ne {w:World} {base g:Nat} {a b k:Value} {xs ys ks:List Int} (h:aY w base a b k xs ys ks) (hg:w.heap.size<=g):a.ownBlock≠some g/\b.ownBlock≠some g/\k.ownBlock≠some g:=
 ⟨fun e=>by have:=(h.1.1.lt _ e).2;omega,fun e=>by have:=(h.1.2.1.lt _ e).2;omega,fun e=>by have:=(h.2.1.lt _ e).2;omega⟩
theorem PS.of {a b k:Value} {xs ys:List Int} {h:Hd} {w:World} {base g:Nat} (s:StB w g 96 (srA a b k h)) (o:aY w base a b k xs ys h.ks) (hl:h.ks.length=4) (hg:base<=g) (ne:a.ownBlock≠some g/\b.ownBlock≠some g/\k.ownBlock≠some g):PS [] a b xs ys w base g h:=by
 obtain⟨q,cap,rfl,hq⟩:=World.ownsRow.form o.2.1 (by omega);rw[hl]at s o ne;have hb:=(o.2.1.lt q rfl).1;refine⟨q,cap,s,o.2.1,?_,hg,hb,hl,o.1,?_,fun x hx=>by cases hx⟩
 ·intro e;exact ne.2.2 (by rw[e];rfl)
 ·intro j hj
  rcases hj with rfl|rfl
  ·exact⟨ne.1,ne.2.1⟩
  ·refine⟨fun e=>?_,fun e=>?_⟩
   ·rcases o.2.2.1.1 with n|n
    ·rw[n]at e;cases e
    ·exact n (by rw[e];rfl)
   ·rcases o.2.2.2.1 with n|n
    ·rw[n]at e;cases e
    ·exact n (by rw[e];rfl)
theorem PS.out {a b:Value} {xs ys:List Int} {h:Hd} {w:World} {base g:Nat} (d:PS [] a b xs ys w base g h):∃q cap,StB w g 96 (srA a b (.slice (some ⟨q,0,none⟩) 4 cap) h)/\aY w base a b (.slice (some ⟨q,0,none⟩) 4 cap) xs ys h.ks/\h.ks.length=4:=by
 obtain⟨q,cap,d⟩:=d;have n:=d.2.2.2.2.2.2.2.1 q (.inr rfl);exact⟨q,cap,d.1,⟨d.2.2.2.2.2.2.1,d.2.1,⟨.inr n.1,.inr fun e=>n.1 e.symm⟩,⟨.inr n.2,.inr fun e=>n.2 e.symm⟩⟩,d.2.2.2.2.2.1⟩
theorem xD (u v q:Value) (xs ys:List Int) (h:Hd) (i:Int) (c:Cm) (w:World) (hu:ag w u xs) (hv:ag w v ys) (hq:ag w q h.ks) (hb:au xs ys=true) (ok:h.ok=true) (i0:0<=i) (i1:i<4) (hc:c.ok=true) (h5:5<c.o):
  Calls Tryz.prog 58 #[SRV u v q h,.int .i64 i,CV c] w fun e w'=>∃a b k,e=.returned (.tuple #[SRV a b k (h.act i c).1,AV (h.act i c).2])/\aY w' w.heap.size a b k xs ys ((h.act i c).1).ks/\bB w w':=by
 have nx:xs.length<=8/\ys.length<=8:=by
  obtain⟨k1,k2, -⟩:=fS hb;exact⟨(bD k1).2,(bD k2).2⟩
 have hl:=(Hd.ok_all ok).1;obtain⟨w1,hw1⟩:=eX ((((w.alloc (.cells (srA u v q h) 96)).alloc (.cells #[.int .i64 c.o,.int .i64 c.p,.int .i64 c.a,.int .i64 c.b,.int .i64 c.k] 66)).alloc (.cells #[.slice none 0 0,.slice none 0 0,.slice none 0 0,.int .i64 0,.int .i64 0,.int .i64 0] 96)).alloc (.cells #[.int .i64 0,.string ⟨#[]⟩] 44))
 have HV:Hid (Ds w w1 u v q h c):=by rw[hw1];exact Ds.start w u v q h c
 have c1:=jm u v q xs ys h w1 (hu.below HV.out.bl (Nat.le_refl _)) (hv.below HV.out.bl (Nat.le_refl _)) (hq.below HV.out.bl (Nat.le_refl _)) (by omega) (by omega) (by omega);have HX:Hid (ag w u xs/\ag w v ys/\ag w q h.ks/\au xs ys=true/\h.ok=true/\h.ks.length=4):=⟨hu,hv,hq,hb,ok,hl⟩
 obtain⟨uo,uc,rfl⟩:=aa hu;obtain⟨vo,vc,rfl⟩:=aa hv;obtain⟨qo,qc,rfl⟩:=aa hq;clear hu hv hq hb ok hl nx;unfold srA at hw1;unfold SRV at c1;unfold SRV CV cmA;conv in srA (.slice uo xs.length uc) (.slice vo ys.length vc) (.slice qo h.ks.length qc) _=>unfold srA
 go_enter Tryz.func58,Tryz.ntmps58;go_upto_region 1 with fail
 rw[<-hw1];clear hw1;go_wp2_with (refine ah Tryz.isR rfl _ rfl w.heap.size rfl _ rfl HV.out.st ?_)
 refine c1.mono ?_;rintro e w2 ⟨a,b,k,rfl,o2,b2⟩;obtain⟨ao,ac,rfl⟩:=o2.1.1.reads.form;obtain⟨bo,bc,rfl⟩:=o2.1.2.1.reads.form;obtain⟨ko,kc,rfl⟩:=o2.2.1.reads.form;have H2:Hid (Ds w w2 (.slice uo xs.length uc) (.slice vo ys.length vc) (.slice qo h.ks.length qc) h c/\aY w2 (w.heap.size+4) (.slice ao xs.length ac) (.slice bo ys.length bc) (.slice ko h.ks.length kc) xs ys h.ks):=⟨HV.out.next b2,o2.mono HV.out.sz⟩
 clear c1 o2 b2 HV;obtain⟨w3,hw3⟩:=eX (w2.alloc (.cells #[.slice ao xs.length ac,.slice bo ys.length bc,.slice ko h.ks.length kc,.int .i64 h.kd,.int .i64 h.ho,.int .i64 h.tu] 96))
 have H3:Hid (Ds w w3 (.slice uo xs.length uc) (.slice vo ys.length vc) (.slice qo h.ks.length qc) h c/\aY w3 (w.heap.size+4) (.slice ao xs.length ac) (.slice bo ys.length bc) (.slice ko h.ks.length kc) xs ys h.ks/\StB w3 w2.heap.size 96 (srA (.slice ao xs.length ac) (.slice bo ys.length bc) (.slice ko h.ks.length kc) h)/\w.heap.size+4<=w2.heap.size):=by
  have b3:bB w2 w3:=by rw[hw3];exactbA
  exact⟨H2.out.1.next b3,H2.out.2.below b3,by rw[hw3];exact StB.new _ _ _,H2.out.1.sz⟩
 have NE:Hid ((Value.slice ao xs.length ac).ownBlock≠some w2.heap.size/\(Value.slice bo ys.length bc).ownBlock≠some w2.heap.size/\(Value.slice ko h.ks.length kc).ownBlock≠some w2.heap.size):=H2.out.2.ne (Nat.le_refl _);conv in srA _ _ (.slice ko _ _) _=>unfold srA
 go_upto_region 2 with fail
 rw[<-hw3];clear hw3 H2;obtain⟨g,hg⟩:=eX w2.heap.size
 rw[<-hg]at H3 NE⊢;clear hg;have m0:w3.cell? ⟨w.heap.size+1,0,none⟩=some (.int .i64 c.o):=H3.out.1.cm.cell 0 rfl;have m1:w3.cell? ⟨w.heap.size+1,1,none⟩=some (.int .i64 c.p):=H3.out.1.cm.cell 1 rfl;have m2:w3.cell? ⟨w.heap.size+1,2,none⟩=some (.int .i64 c.a):=H3.out.1.cm.cell 2 rfl;have m3:w3.cell? ⟨w.heap.size+1,3,none⟩=some (.int .i64 c.b):=H3.out.1.cm.cell 3 rfl;have m4:w3.cell? ⟨w.heap.size+1,4,none⟩=some (.int .i64 c.k):=H3.out.1.cm.cell 4 rfl;have D3:=PS.of H3.out.2.2.1 H3.out.2.1 HX.out.2.2.2.2.2 H3.out.2.2.2 NE.out;have c2:=xC (w.heap.size+4) g h i c w3 D3 i0 i1 HX.out.2.2.2.2.1 hc h5;obtain⟨h1,e1⟩:=eX ((h.act i c).1)
 obtain⟨an,e2⟩:=eX ((h.act i c).2)
 rw[<-e1,<-e2]at c2;have HE:Hid (h1=(h.act i c).1/\an=(h.act i c).2):=⟨e1,e2⟩
 unfold CV cmA at c2;clear D3 e1 e2 hc i0 i1;go_wp2_with fail
 refine c2.mono ?_;rintro e w4 ⟨rfl,D4,B4⟩;clear m0 m1 m2 m3 m4 c2;have H4:Hid (Ds w w4 (.slice uo xs.length uc) (.slice vo ys.length vc) (.slice qo h.ks.length qc) h c):=H3.out.1.back B4;obtain⟨q4,cap4,s4,o4,l4⟩:=D4.out;obtain⟨w5,hw5⟩:=eX (w4.alloc (.cells (anA an) 44))
 have b5:bB w4 w5:=by rw[hw5];exactbA
 have S5:Hid (StB w5 g 96 (srA (.slice ao xs.length ac) (.slice bo ys.length bc) (.slice (some ⟨q4,0,none⟩) 4 cap4) h1)/\StB w5 w4.heap.size 44 (anA an)/\w.heap.size+4<=g/\w.heap.size+4<=w4.heap.size):=⟨s4.below b5,by rw[hw5];exact StB.new _ _ _,H3.out.2.2.2,H4.out.sz⟩
 have O5:Hid (aY w5 (w.heap.size+4) (.slice ao xs.length ac) (.slice bo ys.length bc) (.slice (some ⟨q4,0,none⟩) 4 cap4) xs ys h1.ks/\h1.ks.length=4):=⟨o4.below b5,l4⟩
 have H5:Hid (Ds w w5 (.slice uo xs.length uc) (.slice vo ys.length vc) (.slice qo h.ks.length qc) h c):=H4.out.next b5;clear D4 B4 s4 o4 l4 b5 H4 H3 NE;obtain⟨st,tx⟩:=an;unfold AV anA S at*;dsimp only at*;go_upto_region 4 with fail
 rw[<-hw5];clear hw5;obtain⟨k9,hk9⟩:=eX w4.heap.size
 rw[<-hk9]at S5⊢;clear hk9;have qq0:∀w',Sd (w.heap.size+1+1) (w.heap.size+1+1+1) w5 w'->w'.cell? ⟨g,0,none⟩=some (.slice ao xs.length ac):=fun w' b=>b _ _ (by have:=S5.out.2.2.1;dsimp only;omega) (by have:=S5.out.2.2.1;dsimp only;omega) (S5.out.1.cell 0 rfl)
 have qq1:∀w',Sd (w.heap.size+1+1) (w.heap.size+1+1+1) w5 w'->w'.cell? ⟨g,1,none⟩=some (.slice bo ys.length bc):=fun w' b=>b _ _ (by have:=S5.out.2.2.1;dsimp only;omega) (by have:=S5.out.2.2.1;dsimp only;omega) (S5.out.1.cell 1 rfl)
 have qq2:∀w',Sd (w.heap.size+1+1) (w.heap.size+1+1+1) w5 w'->w'.cell? ⟨g,2,none⟩=some (.slice (some ⟨q4,0,none⟩) 4 cap4):=fun w' b=>b _ _ (by have:=S5.out.2.2.1;dsimp only;omega) (by have:=S5.out.2.2.1;dsimp only;omega) (S5.out.1.cell 2 rfl)
 have qq3:∀w',Sd (w.heap.size+1+1) (w.heap.size+1+1+1) w5 w'->w'.cell? ⟨g,3,none⟩=some (.int .i64 h1.kd):=fun w' b=>b _ _ (by have:=S5.out.2.2.1;dsimp only;omega) (by have:=S5.out.2.2.1;dsimp only;omega) (S5.out.1.cell 3 rfl)
 have qq4:∀w',Sd (w.heap.size+1+1) (w.heap.size+1+1+1) w5 w'->w'.cell? ⟨g,4,none⟩=some (.int .i64 h1.ho):=fun w' b=>b _ _ (by have:=S5.out.2.2.1;dsimp only;omega) (by have:=S5.out.2.2.1;dsimp only;omega) (S5.out.1.cell 4 rfl)
 have qq5:∀w',Sd (w.heap.size+1+1) (w.heap.size+1+1+1) w5 w'->w'.cell? ⟨g,5,none⟩=some (.int .i64 h1.tu):=fun w' b=>b _ _ (by have:=S5.out.2.2.1;dsimp only;omega) (by have:=S5.out.2.2.1;dsimp only;omega) (S5.out.1.cell 5 rfl)
 have t0:∀w',Sd (w.heap.size+1+1) (w.heap.size+1+1+1) w5 w'->w'.cell? ⟨k9,0,none⟩=some (.int .i64 st):=fun w' b=>b _ _ (by have:=S5.out.2.2.2;dsimp only;omega) (by have:=S5.out.2.2.2;dsimp only;omega) (S5.out.2.1.cell 0 rfl)
 have t1:∀w',Sd (w.heap.size+1+1) (w.heap.size+1+1+1) w5 w'->w'.cell? ⟨k9,1,none⟩=some (.string ⟨tx.toArray⟩):=fun w' b=>b _ _ (by have:=S5.out.2.2.2;dsimp only;omega) (by have:=S5.out.2.2.2;dsimp only;omega) (S5.out.2.1.cell 1 rfl)
 have r0:w5.cell? ⟨w.heap.size+1+1,0,none⟩=some (.slice none 0 0):=(H5.out).rs.cell 0 rfl;have f0:=(H5.out).rs.frozen 0;have r1:w5.cell? ⟨w.heap.size+1+1,1,none⟩=some (.slice none 0 0):=(H5.out).rs.cell 1 rfl;have f1:=(H5.out).rs.frozen 1;have r2:w5.cell? ⟨w.heap.size+1+1,2,none⟩=some (.slice none 0 0):=(H5.out).rs.cell 2 rfl;have f2:=(H5.out).rs.frozen 2;have r3:w5.cell? ⟨w.heap.size+1+1,3,none⟩=some (.int .i64 0):=(H5.out).rs.cell 3 rfl;have f3:=(H5.out).rs.frozen 3;have r4:w5.cell? ⟨w.heap.size+1+1,4,none⟩=some (.int .i64 0):=(H5.out).rs.cell 4 rfl;have f4:=(H5.out).rs.frozen 4;have r5:w5.cell? ⟨w.heap.size+1+1,5,none⟩=some (.int .i64 0):=(H5.out).rs.cell 5 rfl;have f5:=(H5.out).rs.frozen 5;have ra0:w5.cell? ⟨w.heap.size+1+1+1,0,none⟩=some (.int .i64 0):=(H5.out).ra.cell 0 rfl;have fa0:=(H5.out).ra.frozen 0;have ra1:w5.cell? ⟨w.heap.size+1+1+1,1,none⟩=some (.string ⟨#[]⟩):=(H5.out).ra.cell 1 rfl;have fa1:=(H5.out).ra.frozen 1;have r0':w5.drew.cell? ⟨w.heap.size+1+1,0,none⟩=some (.slice none 0 0):=(H5.out.drew).rs.cell 0 rfl;have f0':=(H5.out.drew).rs.frozen 0;have r1':w5.drew.cell? ⟨w.heap.size+1+1,1,none⟩=some (.slice none 0 0):=(H5.out.drew).rs.cell 1 rfl;have f1':=(H5.out.drew).rs.frozen 1;have r2':w5.drew.cell? ⟨w.heap.size+1+1,2,none⟩=some (.slice none 0 0):=(H5.out.drew).rs.cell 2 rfl;have f2':=(H5.out.drew).rs.frozen 2;have r3':w5.drew.cell? ⟨w.heap.size+1+1,3,none⟩=some (.int .i64 0):=(H5.out.drew).rs.cell 3 rfl;have f3':=(H5.out.drew).rs.frozen 3;have r4':w5.drew.cell? ⟨w.heap.size+1+1,4,none⟩=some (.int .i64 0):=(H5.out.drew).rs.cell 4 rfl;have f4':=(H5.out.drew).rs.frozen 4;have r5':w5.drew.cell? ⟨w.heap.size+1+1,5,none⟩=some (.int .i64 0):=(H5.out.drew).rs.cell 5 rfl;have f5':=(H5.out.drew).rs.frozen 5;have ra0':w5.drew.cell? ⟨w.heap.size+1+1+1,0,none⟩=some (.int .i64 0):=(H5.out.drew).ra.cell 0 rfl;have fa0':=(H5.out.drew).ra.frozen 0;have ra1':w5.drew.cell? ⟨w.heap.size+1+1+1,1,none⟩=some (.string ⟨#[]⟩):=(H5.out.drew).ra.cell 1 rfl;have fa1':=(H5.out.drew).ra.frozen 1
 go_region_held3 (fun w'=>Sd (w.heap.size+1+1) (w.heap.size+1+1+1) w5 w') ((repeat'(first|with_reducible assumption|with_reducible exact Sd.refl _ _ _|with_reducible refine Sd.al ?_|with_reducible refine Sd.dr ?_|with_reducible refine Sd.set1 ?_|with_reducible refine Sd.set2 ?_|with_reducible refine Sd.put1 ?_ (by with_reducible assumption)|with_reducible refine Sd.put2 ?_ (by with_reducible assumption)|with_reducible refine Sd.bel ?_ (by with_reducible assumption)))) (fail)
 all_goals
  obtain⟨wz,hwz⟩:=eX ((((pQ w5 (w.heap.size+1+1) (.slice ao xs.length ac) (.slice bo ys.length bc) (.slice (some ⟨q4,0,none⟩) 4 cap4) h1).setCell ⟨w.heap.size+1+1+1,0,none⟩ (.int .i64 st)).setCell ⟨w.heap.size+1+1+1,1,none⟩ (.string ⟨tx.toArray⟩)).drew)
  have T5:=jD (.slice ao xs.length ac) (.slice bo ys.length bc) (.slice (some ⟨q4,0,none⟩) 4 cap4) h1 H5.out.rs;have G5:=fK w5 (w.heap.size+1+1) (.slice ao xs.length ac) (.slice bo ys.length bc) (.slice (some ⟨q4,0,none⟩) 4 cap4) h1;have T6:=((H5.out.ra.kept G5 (by simp)).put 0 (.int .i64 st) rfl).put 1 (S tx) (ds:=anA ⟨st,tx⟩) rfl;have G6:=(ai (pQ w5 (w.heap.size+1+1) (.slice ao xs.length ac) (.slice bo ys.length bc) (.slice (some ⟨q4,0,none⟩) 4 cap4) h1) (w.heap.size+1+1+1) 0 (.int .i64 st)).trans (ai _ (w.heap.size+1+1+1) 1 (S tx));have HZ:Hid (StB wz (w.heap.size+1+1) 96 (srA (.slice ao xs.length ac) (.slice bo ys.length bc) (.slice (some ⟨q4,0,none⟩) 4 cap4) h1)/\StB wz (w.heap.size+1+1+1) 44 (anA ⟨st,tx⟩)/\aY wz w.heap.size (.slice ao xs.length ac) (.slice bo ys.length bc) (.slice (some ⟨q4,0,none⟩) 4 cap4) xs ys h1.ks/\bB w wz):=by
   obtain⟨of,bf⟩:=H5.out.fin O5.out.1 (Nat.le_refl _) G5 G6;have k5:=T5.kept G6 (by simp);obtain⟨wq,hwq⟩:=eX (((pQ w5 (w.heap.size+1+1) (.slice ao xs.length ac) (.slice bo ys.length bc) (.slice (some ⟨q4,0,none⟩) 4 cap4) h1).setCell ⟨w.heap.size+1+1+1,0,none⟩ (.int .i64 st)).setCell ⟨w.heap.size+1+1+1,1,none⟩ (S tx))
   rw[<-hwq]at of bf k5 T6;have hz:wz=wq.drew:=by rw[hwz,hwq];rfl
   rw[hz];exact⟨k5.dr,T6.dr,of.below ((Below.refl _ _).drew),bf.drew⟩
  unfold pQ at hwz;rw[<-hwz];clear hwz T5 G5 T6 G6;go_wp2;refine bodyPost_ret (fL rfl _ _ (w.heap.size+1+1) (w.heap.size+1+1+1) _ _ rfl rfl rfl rfl HZ.out.1 HZ.out.2.1) rfl ?_;rw[<-HE.out.1,<-HE.out.2];exact⟨_,_,_,rfl,HZ.out.2.2⟩
theorem zZ (u v q:Value) (xs ys:List Int) (h:Hd) (i:Int) (c:Cm) (w:World) (hu:ag w u xs) (hv:ag w v ys) (hq:ag w q h.ks) (hb:au xs ys=true) (ok:h.ok=true) (i0:0<=i) (i1:i<4) (h5:c.o<=5) (hm:h.may i (decide (c.o≠1))=false):
  Calls Tryz.prog 58 #[SRV u v q h,.int .i64 i,CV c] w fun e w'=>∃a b k,e=.returned (.tuple #[SRV a b k h,AV ⟨3,[]⟩])/\aY w' w.heap.size a b k xs ys (h).ks/\bB w w':=by
 have nx:xs.length<=8/\ys.length<=8:=by
  obtain⟨k1,k2, -⟩:=fS hb;exact⟨(bD k1).2,(bD k2).2⟩
 have hl:=(Hd.ok_all ok).1;obtain⟨w1,hw1⟩:=eX ((((w.alloc (.cells (srA u v q h) 96)).alloc (.cells #[.int .i64 c.o,.int .i64 c.p,.int .i64 c.a,.int .i64 c.b,.int .i64 c.k] 66)).alloc (.cells #[.slice none 0 0,.slice none 0 0,.slice none 0 0,.int .i64 0,.int .i64 0,.int .i64 0] 96)).alloc (.cells #[.int .i64 0,.string ⟨#[]⟩] 44))
 have HV:Hid (Ds w w1 u v q h c):=by rw[hw1];exact Ds.start w u v q h c
 have c1:=jm u v q xs ys h w1 (hu.below HV.out.bl (Nat.le_refl _)) (hv.below HV.out.bl (Nat.le_refl _)) (hq.below HV.out.bl (Nat.le_refl _)) (by omega) (by omega) (by omega);have HX:Hid (ag w u xs/\ag w v ys/\ag w q h.ks/\au xs ys=true/\h.ok=true/\h.ks.length=4):=⟨hu,hv,hq,hb,ok,hl⟩
 obtain⟨uo,uc,rfl⟩:=aa hu;obtain⟨vo,vc,rfl⟩:=aa hv;obtain⟨qo,qc,rfl⟩:=aa hq;clear hu hv hq hb ok hl nx;unfold srA at hw1;unfold SRV at c1;unfold SRV CV cmA;conv in srA (.slice uo xs.length uc) (.slice vo ys.length vc) (.slice qo h.ks.length qc) _=>unfold srA
 go_enter Tryz.func58,Tryz.ntmps58;go_upto_region 1 with fail
 rw[<-hw1];clear hw1;go_wp2_with (refine ah Tryz.isR rfl _ rfl w.heap.size rfl _ rfl HV.out.st ?_)
 refine c1.mono ?_;rintro e w2 ⟨a,b,k,rfl,o2,b2⟩;obtain⟨ao,ac,rfl⟩:=o2.1.1.reads.form;obtain⟨bo,bc,rfl⟩:=o2.1.2.1.reads.form;obtain⟨ko,kc,rfl⟩:=o2.2.1.reads.form;have H2:Hid (Ds w w2 (.slice uo xs.length uc) (.slice vo ys.length vc) (.slice qo h.ks.length qc) h c/\aY w2 (w.heap.size+4) (.slice ao xs.length ac) (.slice bo ys.length bc) (.slice ko h.ks.length kc) xs ys h.ks):=⟨HV.out.next b2,o2.mono HV.out.sz⟩
 clear c1 o2 b2 HV;obtain⟨w3,hw3⟩:=eX (w2.alloc (.cells #[.slice ao xs.length ac,.slice bo ys.length bc,.slice ko h.ks.length kc,.int .i64 h.kd,.int .i64 h.ho,.int .i64 h.tu] 96))
 have H3:Hid (Ds w w3 (.slice uo xs.length uc) (.slice vo ys.length vc) (.slice qo h.ks.length qc) h c/\aY w3 (w.heap.size+4) (.slice ao xs.length ac) (.slice bo ys.length bc) (.slice ko h.ks.length kc) xs ys h.ks/\StB w3 w2.heap.size 96 (srA (.slice ao xs.length ac) (.slice bo ys.length bc) (.slice ko h.ks.length kc) h)/\w.heap.size+4<=w2.heap.size):=by
  have b3:bB w2 w3:=by rw[hw3];exactbA
  exact⟨H2.out.1.next b3,H2.out.2.below b3,by rw[hw3];exact StB.new _ _ _,H2.out.1.sz⟩
 have NE:Hid ((Value.slice ao xs.length ac).ownBlock≠some w2.heap.size/\(Value.slice bo ys.length bc).ownBlock≠some w2.heap.size/\(Value.slice ko h.ks.length kc).ownBlock≠some w2.heap.size):=H2.out.2.ne (Nat.le_refl _);conv in srA _ _ (.slice ko _ _) _=>unfold srA
 go_upto_region 2 with fail
 rw[<-hw3];clear hw3 H2;obtain⟨g,hg⟩:=eX w2.heap.size
 rw[<-hg]at H3 NE⊢;clear hg;have m0:w3.cell? ⟨w.heap.size+1,0,none⟩=some (.int .i64 c.o):=H3.out.1.cm.cell 0 rfl;have hc0:w3.cell? ⟨w.heap.size,2,none⟩=some (.slice qo h.ks.length qc):=H3.out.1.st.cell 2 rfl;have hc1:w3.cell? ⟨w.heap.size,3,none⟩=some (.int .i64 h.kd):=H3.out.1.st.cell 3 rfl;have hc2:w3.cell? ⟨w.heap.size,4,none⟩=some (.int .i64 h.ho):=H3.out.1.st.cell 4 rfl;have hc3:w3.cell? ⟨w.heap.size,5,none⟩=some (.int .i64 h.tu):=H3.out.1.st.cell 5 rfl;have c2:=qJ (.slice qo h.ks.length qc) h i (decide (c.o≠1)) w3 (HX.out.2.2.1.below H3.out.1.bl (Nat.le_refl _)) i0 (by have:=HX.out.2.2.2.2.2;omega);rw[hm]at c2;unfold HV hdA at c2;obtain⟨bo1,hbo1⟩:=eX (decide (c.o≠1))
 rw[<-hbo1]at c2;have hneq:(c.o !=1)=bo1:=by rw[hbo1];by_cases e:c.o=1<;>simp[e]
 clear hbo1 hm i0 i1;go_wp2_with fail
 refine c2.mono ?_;rintro e w4 ⟨rfl,b4⟩;have H4:Hid (Ds w w4 (.slice uo xs.length uc) (.slice vo ys.length vc) (.slice qo h.ks.length qc) h c/\aY w4 (w.heap.size+4) (.slice ao xs.length ac) (.slice bo ys.length bc) (.slice ko h.ks.length kc) xs ys h.ks/\StB w4 g 96 (srA (.slice ao xs.length ac) (.slice bo ys.length bc) (.slice ko h.ks.length kc) h)/\w.heap.size+4<=g):=⟨H3.out.1.next b4,H3.out.2.1.below b4,H3.out.2.2.1.below b4,H3.out.2.2.2⟩
 clear H3 b4 c2 m0 hc0 hc1 hc2 hc3 hneq;go_wp2_with (first
  |(refine ah Tryz.isR rfl _ rfl g rfl _ rfl H4.out.2.2.1 ?_)
  |(refine ae Tryz.isR rfl _ _ rfl (w.heap.size+1+1) (srA (.slice ao xs.length ac) (.slice bo ys.length bc) (.slice ko h.ks.length kc) h) zeR rfl rfl rfl rfl (ec h rfl rfl rfl) H4.out.1.rs ?_;intro w5 s5 g5)
  |(refine ae Tryz.isA rfl _ _ rfl (w.heap.size+1+1+1) (anA ⟨3,[]⟩) (anA ⟨0,[]⟩) rfl rfl rfl rfl (aB _) (H4.out.1.ra.kept g5 (by simp)) ?_;intro w6 s6 g6))
 refine bodyPost_ret (fL rfl _ _ (w.heap.size+1+1) (w.heap.size+1+1+1) _ _ rfl rfl rfl rfl (s5.kept g6 (by simp)) s6) rfl ?_;exact⟨_,_,_,rfl,H4.out.1.fin H4.out.2.1 (Nat.le_refl _) g5 g6⟩
end Go.Proofs.YthldeiojlllkdaaGreatDoor
