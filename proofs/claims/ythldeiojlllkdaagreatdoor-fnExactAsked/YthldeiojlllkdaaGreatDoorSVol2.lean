/- What the model does to a disk by a command, on: l11Did. -/
import Derived.Test.YthldeiojlllkdaaGreatDoorM19
set_option maxRecDepth 20000
set_option maxHeartbeats 2000000
namespace Go.Proofs.YthldeiojlllkdaaGreatDoor
open Go.ChangeShapes Go.WideShapes Go.ChangeAt Go.RowKit
structure Vk (w wx:World) (u v:Value) (c:Cm) (k:Nat) (a b:Value) (xs ys:List Int):Prop where
 vl:Vl w wx u v c zeD ⟨0,[]⟩
 ou:StB wx k 36 #[a,b]
 oa:Own wx (w.heap.size+4) a xs
 ob:Own wx (w.heap.size+4) b ys
 ap:apart a b
 kk:w.heap.size+4<=k
 na:a.ownBlock≠some k
 nb:b.ownBlock≠some k
theorem Vk.next {w wx wy:World} {u v:Value} {c:Cm} {k:Nat} {a b:Value} {xs ys:List Int} (h:Vk w wx u v c k a b xs ys) (e:iO wx wy):Vk w wy u v c k a b xs ys:=
 ⟨h.vl.next e,h.ou.below e,h.oa.below e,h.ob.below e,h.ap,h.kk,h.na,h.nb⟩
theorem Vk.drewN {w wx:World} {u v:Value} {c:Cm} {k:Nat} {a b:Value} {xs ys:List Int} (h:Vk w wx u v c k a b xs ys) (n:Nat):Vk w (wx.drewN n) u v c k a b xs ys:=
 ⟨⟨h.vl.dk,h.vl.cm,h.vl.rd,h.vl.ra,below_drewN h.vl.bl n,h.vl.sz⟩,h.ou,h.oa,h.ob,h.ap,h.kk,h.na,h.nb⟩
theorem Vk.drew {w wx:World} {u v:Value} {c:Cm} {k:Nat} {a b:Value} {xs ys:List Int} (h:Vk w wx u v c k a b xs ys):Vk w wx.drew u v c k a b xs ys:=
 ⟨h.vl.drew,h.ou,h.oa,h.ob,h.ap,h.kk,h.na,h.nb⟩
theorem Vk.put {w wx:World} {u v:Value} {c:Cm} {k g n cap:Nat} {a:Value} {xs ys:List Int} (h:Vk w wx u v c k a (.slice (some ⟨g,0,none⟩) n cap) xs ys) (hn:n=ys.length) (j:Nat) (hj:j<n) (x:Int):
  Vk w (wx.setCell ⟨g,j,none⟩ (.int .i64 x)) u v c k a (.slice (some ⟨g,0,none⟩) n cap) xs (ys.set j x):=by
 have hg:=h.ob.lt g rfl;have hgk:g≠k:=fun e=>h.nb (by rw[e];rfl)
 have G:=ai wx g j (.int .i64 x);refine⟨h.vl.grown G hg.1,h.ou.kept G (by simp;omega),?_,(h.ob.put hn j hj x).2.2,h.ap,h.kk,h.na,h.nb⟩;refine h.oa.kept G ?_;rcases h.ap.1 with e|e
 ·exact .inl e
 ·exact .inr e
theorem Vl.fin {w wx wy wz:World} {u v:Value} {c:Cm} {d:Array Value} {x:An} {a b:Value} {xs ys:List Int} {base:Nat} (h:Vl w wx u v c d x) (oa:Own wx base a xs) (ob:Own wx base b ys) (hb:w.heap.size+4<=base) (ap:apart a b)
  (g5:wx.grownBy wy (some (w.heap.size+1+1))) (g6:wy.grownBy wz (some (w.heap.size+1+1+1))):aV wz w.heap.size a b xs ys/\iO w wz:=by
 refine⟨⟨(((oa.keptLt g5 Ff).keptLt g6 Ff)).mono Ff,(((ob.keptLt g5 Ff).keptLt g6 Ff)).mono Ff,ap⟩,?_⟩;have b5:=h.bl.grown g5 h.bl.size (fun k e=>by cases e;omega);exact b5.grown g6 b5.size (fun k e=>by cases e;omega)
theorem gv {w:World} {g k:Nat} (hne:g≠k) {j:Nat} {a b x:Value} (h:w.cell? ⟨g,j,none⟩=some x):
  ((w.setCell ⟨k,0,none⟩ a).setCell ⟨k,1,none⟩ b).cell? ⟨g,j,none⟩=some x:=by
 rw[World.cell?_setCell_far _ _ _ _ (Ne.symm hne),World.cell?_setCell_far _ _ _ _ (Ne.symm hne),h]
theorem cI {xs ys:List Int} (h:au xs ys=true):1<=xs.length/\xs.length<=8/\ys.length=xs.length:=by
 obtain⟨h1,h2,h3⟩:=eH h;have:=bE h1;omega
theorem fx {xs ys:List Int} (h:au xs ys=true) (j:Nat):0<=ys.getD j 0/\ys.getD j 0<=9999:=by
 obtain⟨h1,h2,h3⟩:=eH h;rw[List.getD_eq_getElem?_getD];cases hg:ys[j]? with
 |none=>simp
 |some y=>exact rx h2 y (List.mem_of_getElem? hg)
theorem ve (u v:Value) (xs ys:List Int) (p x y k0:Int) (w:World) (h:ag w u xs) (h':ag w v ys) (hb:au xs ys=true):
  Calls Tryz.prog 100 #[.agg #[u,v],CV ⟨5,p,x,y,k0⟩] w fun e w'=>∃a b,e=.returned (.tuple #[.agg #[a,b],AV ⟨0,[]⟩])/\aV w' w.heap.size a b ys ys/\iO w w':=by
 obtain⟨n1,n8,nl⟩:=cI hb;obtain⟨w1,hw1⟩:=Fe ((((w.alloc (.cells #[u,v] 36)).alloc (.cells #[.int .i64 5,.int .i64 p,.int .i64 x,.int .i64 y,.int .i64 k0] 66)).alloc (.cells #[.slice none 0 0,.slice none 0 0] 36)).alloc (.cells #[.int .i64 0,.string ⟨#[]⟩] 44))
 have HV:Hid (Vl w w1 u v ⟨5,p,x,y,k0⟩ zeD ⟨0,[]⟩):=by rw[hw1];exact Vl.start w u v ⟨5,p,x,y,k0⟩
 have RU:Hid (ag w1 u xs):=h.below HV.out.bl (Nat.le_refl _);have RV:Hid (ag w1 v ys):=h'.below HV.out.bl (Nat.le_refl _);obtain⟨uo,uc,rfl⟩:=h.form;obtain⟨vo,vc,rfl⟩:=h'.form;have c1:=dA (.slice uo xs.length uc) (.slice vo ys.length vc) xs ys w1 RU.out RV.out Ff Ff;have HL:Hid (ys.length=xs.length/\1<=xs.length/\xs.length<=8):=⟨nl,n1,n8⟩
 have HZ:Hid (∀j,0<=ys.getD j 0/\ys.getD j 0<=9999):=fx hb;have HR0:Hid (ag w (.slice vo ys.length vc) ys):=h';clear h h' hb n1 n8 nl;unfold CV cmA;dsimp only;go_enter Tryz.func100,Tryz.ntmps100;go_upto_region 1 with fail
 rw[<-hw1];clear hw1;go_wp2_with (first|(refine ah GI rfl _ rfl w.heap.size rfl _ rfl HV.out.dk ?_))
 refine c1.mono ?_;rintro e w2 ⟨a,b,rfl,o2,b2⟩;have HV2:Hid (Vl w w2 (.slice uo xs.length uc) (.slice vo ys.length vc) ⟨5,p,x,y,k0⟩ zeD ⟨0,[]⟩):=HV.out.next b2;obtain⟨ao,ac,rfl⟩:=o2.1.reads.form;obtain⟨bo,bc,rfl⟩:=o2.2.1.reads.form;have HO2:Hid (Own w2 (w.heap.size+4) (.slice ao xs.length ac) xs/\Own w2 (w.heap.size+4) (.slice bo ys.length bc) ys/\apart (.slice ao xs.length ac) (.slice bo ys.length bc)):=⟨o2.1.mono HV.out.sz,o2.2.1.mono HV.out.sz,o2.2.2⟩
 have RV2:Hid (ag w2 (.slice vo ys.length vc) ys):=RV.out.below b2 (Nat.le_refl _);obtain⟨w3,hw3⟩:=Fe (w2.alloc (.cells #[.slice ao xs.length ac,.slice bo ys.length bc] 36))
 clear c1 o2 b2 HV RU RV;go_upto_region 2 with fail
 rw[<-hw3];have HK:Hid (Vk w w3 (.slice uo xs.length uc) (.slice vo ys.length vc) ⟨5,p,x,y,k0⟩ w2.heap.size (.slice ao xs.length ac) (.slice bo ys.length bc) xs ys/\ag w3 (.slice vo ys.length vc) ys):=by
  have b3:iO w2 w3:=by rw[hw3];exact be w2 _
  refine⟨⟨HV2.out.next b3,by rw[hw3];exact StB.new _ _ _,HO2.out.1.below b3,HO2.out.2.1.below b3,HO2.out.2.2,HV2.out.sz,fun e=>?_,fun e=>?_⟩,RV2.out.below b3 (Nat.le_refl _)⟩
  ·have:=(HO2.out.1.lt _ e).2;omega
  ·have:=(HO2.out.2.1.lt _ e).2;omega
 clear hw3 HV2 HO2 RV2;obtain⟨k,hk⟩:=Fe w2.heap.size
 rw[<-hk]at HK⊢;clear hk;have m0:w3.cell? ⟨w.heap.size+1,0,none⟩=some (.int .i64 5):=HK.out.1.vl.cm.cell 0 rfl;have m1:w3.cell? ⟨w.heap.size+1,1,none⟩=some (.int .i64 p):=HK.out.1.vl.cm.cell 1 rfl;have m2:w3.cell? ⟨w.heap.size+1,2,none⟩=some (.int .i64 x):=HK.out.1.vl.cm.cell 2 rfl;have m3:w3.cell? ⟨w.heap.size+1,3,none⟩=some (.int .i64 y):=HK.out.1.vl.cm.cell 3 rfl;have d1:w3.cell? ⟨w.heap.size,1,none⟩=some (.slice vo ys.length vc):=HK.out.1.vl.dk.cell 1 rfl;have c2:=pO (.slice uo xs.length uc) (.slice vo ys.length vc) ys w3 HK.out.2 (by have:=HL.out;omega);go_wp2_with (first|(refine ah GI rfl _ rfl w.heap.size rfl _ rfl HK.out.1.vl.dk ?_))
 refine c2.mono ?_;rintro e w4 ⟨a4,b4',rfl,o4,b4⟩;have H4:Hid (Vl w w4 (.slice uo xs.length uc) (.slice vo ys.length vc) ⟨5,p,x,y,k0⟩ zeD ⟨0,[]⟩):=HK.out.1.vl.next b4;have O4:Hid (aV w4 (w.heap.size+4) a4 b4' ys ys):=⟨o4.1.mono HK.out.1.vl.sz,o4.2.1.mono HK.out.1.vl.sz,o4.2.2⟩
 obtain⟨ao4,ac4,rfl⟩:=o4.1.reads.form;obtain⟨bo4,bc4,rfl⟩:=o4.2.1.reads.form;clear c2 o4 b4 m0 m1 m2 m3 d1;go_wp2_with (first|(refine ae GI rfl _ _ rfl (w.heap.size+1+1) #[.slice ao4 ys.length ac4,.slice bo4 ys.length bc4] zeD rfl rfl rfl rfl (cH rfl rfl) H4.out.rd ?_;intro w5 s5 g5)|(refine ae GC rfl _ _ rfl (w.heap.size+1+1+1) (anA ⟨0,[]⟩) (anA ⟨0,[]⟩) rfl rfl rfl rfl (aC _) (H4.out.ra.kept g5 Fg) ?_;intro w6 s6 g6))
 refine bodyPost_ret (bg rfl _ _ (w.heap.size+1+1) (w.heap.size+1+1+1) _ _ rfl rfl rfl rfl (s5.kept g6 Fg) s6) rfl ?_;exact⟨_,_,rfl,H4.out.fin O4.out.1 O4.out.2.1 (Nat.le_refl _) O4.out.2.2 g5 g6⟩
theorem xH (u v:Value) (xs ys:List Int) (o p x y k0:Int) (w:World) (h:ag w u xs) (h':ag w v ys) (hb:au xs ys=true) (h5:(o==5)=false) (hp:(ys.length:Int)<=p):
  Calls Tryz.prog 100 #[.agg #[u,v],CV ⟨o,p,x,y,k0⟩] w fun e w'=>∃a b,e=.returned (.tuple #[.agg #[a,b],AV ⟨1,[]⟩])/\aV w' w.heap.size a b xs ys/\iO w w':=by
 obtain⟨n1,n8,nl⟩:=cI hb;obtain⟨w1,hw1⟩:=Fe ((((w.alloc (.cells #[u,v] 36)).alloc (.cells #[.int .i64 o,.int .i64 p,.int .i64 x,.int .i64 y,.int .i64 k0] 66)).alloc (.cells #[.slice none 0 0,.slice none 0 0] 36)).alloc (.cells #[.int .i64 0,.string ⟨#[]⟩] 44))
 have HV:Hid (Vl w w1 u v ⟨o,p,x,y,k0⟩ zeD ⟨0,[]⟩):=by rw[hw1];exact Vl.start w u v ⟨o,p,x,y,k0⟩
 have RU:Hid (ag w1 u xs):=h.below HV.out.bl (Nat.le_refl _);have RV:Hid (ag w1 v ys):=h'.below HV.out.bl (Nat.le_refl _);obtain⟨uo,uc,rfl⟩:=h.form;obtain⟨vo,vc,rfl⟩:=h'.form;have c1:=dA (.slice uo xs.length uc) (.slice vo ys.length vc) xs ys w1 RU.out RV.out Ff Ff;have HL:Hid (ys.length=xs.length/\1<=xs.length/\xs.length<=8):=⟨nl,n1,n8⟩
 have HZ:Hid (∀j,0<=ys.getD j 0/\ys.getD j 0<=9999):=fx hb;have HR0:Hid (ag w (.slice vo ys.length vc) ys):=h';clear h h' hb n1 n8 nl;unfold CV cmA;dsimp only;go_enter Tryz.func100,Tryz.ntmps100;go_upto_region 1 with fail
 rw[<-hw1];clear hw1;go_wp2_with (first|(refine ah GI rfl _ rfl w.heap.size rfl _ rfl HV.out.dk ?_))
 refine c1.mono ?_;rintro e w2 ⟨a,b,rfl,o2,b2⟩;have HV2:Hid (Vl w w2 (.slice uo xs.length uc) (.slice vo ys.length vc) ⟨o,p,x,y,k0⟩ zeD ⟨0,[]⟩):=HV.out.next b2;obtain⟨ao,ac,rfl⟩:=o2.1.reads.form;obtain⟨bo,bc,rfl⟩:=o2.2.1.reads.form;have HO2:Hid (Own w2 (w.heap.size+4) (.slice ao xs.length ac) xs/\Own w2 (w.heap.size+4) (.slice bo ys.length bc) ys/\apart (.slice ao xs.length ac) (.slice bo ys.length bc)):=⟨o2.1.mono HV.out.sz,o2.2.1.mono HV.out.sz,o2.2.2⟩
 have RV2:Hid (ag w2 (.slice vo ys.length vc) ys):=RV.out.below b2 (Nat.le_refl _);obtain⟨w3,hw3⟩:=Fe (w2.alloc (.cells #[.slice ao xs.length ac,.slice bo ys.length bc] 36))
 clear c1 o2 b2 HV RU RV;go_upto_region 2 with fail
 rw[<-hw3];have HK:Hid (Vk w w3 (.slice uo xs.length uc) (.slice vo ys.length vc) ⟨o,p,x,y,k0⟩ w2.heap.size (.slice ao xs.length ac) (.slice bo ys.length bc) xs ys/\ag w3 (.slice vo ys.length vc) ys):=by
  have b3:iO w2 w3:=by rw[hw3];exact be w2 _
  refine⟨⟨HV2.out.next b3,by rw[hw3];exact StB.new _ _ _,HO2.out.1.below b3,HO2.out.2.1.below b3,HO2.out.2.2,HV2.out.sz,fun e=>?_,fun e=>?_⟩,RV2.out.below b3 (Nat.le_refl _)⟩
  ·have:=(HO2.out.1.lt _ e).2;omega
  ·have:=(HO2.out.2.1.lt _ e).2;omega
 clear hw3 HV2 HO2 RV2;obtain⟨k,hk⟩:=Fe w2.heap.size
 rw[<-hk]at HK⊢;clear hk;have m0:w3.cell? ⟨w.heap.size+1,0,none⟩=some (.int .i64 o):=HK.out.1.vl.cm.cell 0 rfl;have m1:w3.cell? ⟨w.heap.size+1,1,none⟩=some (.int .i64 p):=HK.out.1.vl.cm.cell 1 rfl;have m2:w3.cell? ⟨w.heap.size+1,2,none⟩=some (.int .i64 x):=HK.out.1.vl.cm.cell 2 rfl;have m3:w3.cell? ⟨w.heap.size+1,3,none⟩=some (.int .i64 y):=HK.out.1.vl.cm.cell 3 rfl;have d1:w3.cell? ⟨w.heap.size,1,none⟩=some (.slice vo ys.length vc):=HK.out.1.vl.dk.cell 1 rfl;go_upto_region 5 with fail
 clear m0 m1 m2 m3 d1;go_wp2_with (first|(refine ah GI rfl _ rfl k rfl _ rfl HK.out.1.ou ?_)|(refine ae GI rfl _ _ rfl (w.heap.size+1+1) #[.slice ao xs.length ac,.slice bo ys.length bc] zeD rfl rfl rfl rfl (cH rfl rfl) HK.out.1.vl.rd ?_;intro w5 s5 g5)|(refine ae GC rfl _ _ rfl (w.heap.size+1+1+1) (anA ⟨1,[]⟩) (anA ⟨0,[]⟩) rfl rfl rfl rfl (aC _) (HK.out.1.vl.ra.kept g5 Fg) ?_;intro w6 s6 g6))
 refine bodyPost_ret (bg rfl _ _ (w.heap.size+1+1) (w.heap.size+1+1+1) _ _ rfl rfl rfl rfl (s5.kept g6 Fg) s6) rfl ?_;exact⟨_,_,rfl,HK.out.1.vl.fin HK.out.1.oa HK.out.1.ob (Nat.le_refl _) HK.out.1.ap g5 g6⟩
theorem sA (u v:Value) (xs ys:List Int) (p x y k0:Int) (w:World) (h:ag w u xs) (h':ag w v ys) (hb:au xs ys=true) (hp:p<(ys.length:Int)) (hv:bJ x=false):
  Calls Tryz.prog 100 #[.agg #[u,v],CV ⟨2,p,x,y,k0⟩] w fun e w'=>∃a b,e=.returned (.tuple #[.agg #[a,b],AV ⟨1,[]⟩])/\aV w' w.heap.size a b xs ys/\iO w w':=by
 obtain⟨n1,n8,nl⟩:=cI hb;obtain⟨w1,hw1⟩:=Fe ((((w.alloc (.cells #[u,v] 36)).alloc (.cells #[.int .i64 2,.int .i64 p,.int .i64 x,.int .i64 y,.int .i64 k0] 66)).alloc (.cells #[.slice none 0 0,.slice none 0 0] 36)).alloc (.cells #[.int .i64 0,.string ⟨#[]⟩] 44))
 have HV:Hid (Vl w w1 u v ⟨2,p,x,y,k0⟩ zeD ⟨0,[]⟩):=by rw[hw1];exact Vl.start w u v ⟨2,p,x,y,k0⟩
 have RU:Hid (ag w1 u xs):=h.below HV.out.bl (Nat.le_refl _);have RV:Hid (ag w1 v ys):=h'.below HV.out.bl (Nat.le_refl _);obtain⟨uo,uc,rfl⟩:=h.form;obtain⟨vo,vc,rfl⟩:=h'.form;have c1:=dA (.slice uo xs.length uc) (.slice vo ys.length vc) xs ys w1 RU.out RV.out Ff Ff;have HL:Hid (ys.length=xs.length/\1<=xs.length/\xs.length<=8):=⟨nl,n1,n8⟩
 have HZ:Hid (∀j,0<=ys.getD j 0/\ys.getD j 0<=9999):=fx hb;have HR0:Hid (ag w (.slice vo ys.length vc) ys):=h';clear h h' hb n1 n8 nl;unfold CV cmA;dsimp only;go_enter Tryz.func100,Tryz.ntmps100;go_upto_region 1 with fail
 rw[<-hw1];clear hw1;go_wp2_with (first|(refine ah GI rfl _ rfl w.heap.size rfl _ rfl HV.out.dk ?_))
 refine c1.mono ?_;rintro e w2 ⟨a,b,rfl,o2,b2⟩;have HV2:Hid (Vl w w2 (.slice uo xs.length uc) (.slice vo ys.length vc) ⟨2,p,x,y,k0⟩ zeD ⟨0,[]⟩):=HV.out.next b2;obtain⟨ao,ac,rfl⟩:=o2.1.reads.form;obtain⟨bo,bc,rfl⟩:=o2.2.1.reads.form;have HO2:Hid (Own w2 (w.heap.size+4) (.slice ao xs.length ac) xs/\Own w2 (w.heap.size+4) (.slice bo ys.length bc) ys/\apart (.slice ao xs.length ac) (.slice bo ys.length bc)):=⟨o2.1.mono HV.out.sz,o2.2.1.mono HV.out.sz,o2.2.2⟩
 have RV2:Hid (ag w2 (.slice vo ys.length vc) ys):=RV.out.below b2 (Nat.le_refl _);obtain⟨w3,hw3⟩:=Fe (w2.alloc (.cells #[.slice ao xs.length ac,.slice bo ys.length bc] 36))
 clear c1 o2 b2 HV RU RV;go_upto_region 2 with fail
 rw[<-hw3];have HK:Hid (Vk w w3 (.slice uo xs.length uc) (.slice vo ys.length vc) ⟨2,p,x,y,k0⟩ w2.heap.size (.slice ao xs.length ac) (.slice bo ys.length bc) xs ys/\ag w3 (.slice vo ys.length vc) ys):=by
  have b3:iO w2 w3:=by rw[hw3];exact be w2 _
  refine⟨⟨HV2.out.next b3,by rw[hw3];exact StB.new _ _ _,HO2.out.1.below b3,HO2.out.2.1.below b3,HO2.out.2.2,HV2.out.sz,fun e=>?_,fun e=>?_⟩,RV2.out.below b3 (Nat.le_refl _)⟩
  ·have:=(HO2.out.1.lt _ e).2;omega
  ·have:=(HO2.out.2.1.lt _ e).2;omega
 clear hw3 HV2 HO2 RV2;obtain⟨k,hk⟩:=Fe w2.heap.size
 rw[<-hk]at HK⊢;clear hk;have m0:w3.cell? ⟨w.heap.size+1,0,none⟩=some (.int .i64 2):=HK.out.1.vl.cm.cell 0 rfl;have m1:w3.cell? ⟨w.heap.size+1,1,none⟩=some (.int .i64 p):=HK.out.1.vl.cm.cell 1 rfl;have m2:w3.cell? ⟨w.heap.size+1,2,none⟩=some (.int .i64 x):=HK.out.1.vl.cm.cell 2 rfl;have m3:w3.cell? ⟨w.heap.size+1,3,none⟩=some (.int .i64 y):=HK.out.1.vl.cm.cell 3 rfl;have d1:w3.cell? ⟨w.heap.size,1,none⟩=some (.slice vo ys.length vc):=HK.out.1.vl.dk.cell 1 rfl;go_upto_region 5 with(first|(go_at_call 125;refine(jm _ _).mono ?_;rw[hv];rintro e w' ⟨rfl,hw⟩;subst w'))
 clear m0 m1 m2 m3 d1;go_wp2_with (first|(refine ah GI rfl _ rfl k rfl _ rfl HK.out.1.ou ?_)|(refine ae GI rfl _ _ rfl (w.heap.size+1+1) #[.slice ao xs.length ac,.slice bo ys.length bc] zeD rfl rfl rfl rfl (cH rfl rfl) HK.out.1.vl.rd ?_;intro w5 s5 g5)|(refine ae GC rfl _ _ rfl (w.heap.size+1+1+1) (anA ⟨1,[]⟩) (anA ⟨0,[]⟩) rfl rfl rfl rfl (aC _) (HK.out.1.vl.ra.kept g5 Fg) ?_;intro w6 s6 g6))
 refine bodyPost_ret (bg rfl _ _ (w.heap.size+1+1) (w.heap.size+1+1+1) _ _ rfl rfl rfl rfl (s5.kept g6 Fg) s6) rfl ?_;exact⟨_,_,rfl,HK.out.1.vl.fin HK.out.1.oa HK.out.1.ob (Nat.le_refl _) HK.out.1.ap g5 g6⟩
theorem sB (u v:Value) (xs ys:List Int) (p x y k0:Int) (w:World) (h:ag w u xs) (h':ag w v ys) (hb:au xs ys=true) (hp:p<(ys.length:Int)) (hv:bJ y=false):
  Calls Tryz.prog 100 #[.agg #[u,v],CV ⟨3,p,x,y,k0⟩] w fun e w'=>∃a b,e=.returned (.tuple #[.agg #[a,b],AV ⟨1,[]⟩])/\aV w' w.heap.size a b xs ys/\iO w w':=by
 obtain⟨n1,n8,nl⟩:=cI hb;obtain⟨w1,hw1⟩:=Fe ((((w.alloc (.cells #[u,v] 36)).alloc (.cells #[.int .i64 3,.int .i64 p,.int .i64 x,.int .i64 y,.int .i64 k0] 66)).alloc (.cells #[.slice none 0 0,.slice none 0 0] 36)).alloc (.cells #[.int .i64 0,.string ⟨#[]⟩] 44))
 have HV:Hid (Vl w w1 u v ⟨3,p,x,y,k0⟩ zeD ⟨0,[]⟩):=by rw[hw1];exact Vl.start w u v ⟨3,p,x,y,k0⟩
 have RU:Hid (ag w1 u xs):=h.below HV.out.bl (Nat.le_refl _);have RV:Hid (ag w1 v ys):=h'.below HV.out.bl (Nat.le_refl _);obtain⟨uo,uc,rfl⟩:=h.form;obtain⟨vo,vc,rfl⟩:=h'.form;have c1:=dA (.slice uo xs.length uc) (.slice vo ys.length vc) xs ys w1 RU.out RV.out Ff Ff;have HL:Hid (ys.length=xs.length/\1<=xs.length/\xs.length<=8):=⟨nl,n1,n8⟩
 have HZ:Hid (∀j,0<=ys.getD j 0/\ys.getD j 0<=9999):=fx hb;have HR0:Hid (ag w (.slice vo ys.length vc) ys):=h';clear h h' hb n1 n8 nl;unfold CV cmA;dsimp only;go_enter Tryz.func100,Tryz.ntmps100;go_upto_region 1 with fail
 rw[<-hw1];clear hw1;go_wp2_with (first|(refine ah GI rfl _ rfl w.heap.size rfl _ rfl HV.out.dk ?_))
 refine c1.mono ?_;rintro e w2 ⟨a,b,rfl,o2,b2⟩;have HV2:Hid (Vl w w2 (.slice uo xs.length uc) (.slice vo ys.length vc) ⟨3,p,x,y,k0⟩ zeD ⟨0,[]⟩):=HV.out.next b2;obtain⟨ao,ac,rfl⟩:=o2.1.reads.form;obtain⟨bo,bc,rfl⟩:=o2.2.1.reads.form;have HO2:Hid (Own w2 (w.heap.size+4) (.slice ao xs.length ac) xs/\Own w2 (w.heap.size+4) (.slice bo ys.length bc) ys/\apart (.slice ao xs.length ac) (.slice bo ys.length bc)):=⟨o2.1.mono HV.out.sz,o2.2.1.mono HV.out.sz,o2.2.2⟩
 have RV2:Hid (ag w2 (.slice vo ys.length vc) ys):=RV.out.below b2 (Nat.le_refl _);obtain⟨w3,hw3⟩:=Fe (w2.alloc (.cells #[.slice ao xs.length ac,.slice bo ys.length bc] 36))
 clear c1 o2 b2 HV RU RV;go_upto_region 2 with fail
 rw[<-hw3];have HK:Hid (Vk w w3 (.slice uo xs.length uc) (.slice vo ys.length vc) ⟨3,p,x,y,k0⟩ w2.heap.size (.slice ao xs.length ac) (.slice bo ys.length bc) xs ys/\ag w3 (.slice vo ys.length vc) ys):=by
  have b3:iO w2 w3:=by rw[hw3];exact be w2 _
  refine⟨⟨HV2.out.next b3,by rw[hw3];exact StB.new _ _ _,HO2.out.1.below b3,HO2.out.2.1.below b3,HO2.out.2.2,HV2.out.sz,fun e=>?_,fun e=>?_⟩,RV2.out.below b3 (Nat.le_refl _)⟩
  ·have:=(HO2.out.1.lt _ e).2;omega
  ·have:=(HO2.out.2.1.lt _ e).2;omega
 clear hw3 HV2 HO2 RV2;obtain⟨k,hk⟩:=Fe w2.heap.size
 rw[<-hk]at HK⊢;clear hk;have m0:w3.cell? ⟨w.heap.size+1,0,none⟩=some (.int .i64 3):=HK.out.1.vl.cm.cell 0 rfl;have m1:w3.cell? ⟨w.heap.size+1,1,none⟩=some (.int .i64 p):=HK.out.1.vl.cm.cell 1 rfl;have m2:w3.cell? ⟨w.heap.size+1,2,none⟩=some (.int .i64 x):=HK.out.1.vl.cm.cell 2 rfl;have m3:w3.cell? ⟨w.heap.size+1,3,none⟩=some (.int .i64 y):=HK.out.1.vl.cm.cell 3 rfl;have d1:w3.cell? ⟨w.heap.size,1,none⟩=some (.slice vo ys.length vc):=HK.out.1.vl.dk.cell 1 rfl;go_upto_region 5 with(first|(go_at_call 125;refine(jm _ _).mono ?_;rw[hv];rintro e w' ⟨rfl,hw⟩;subst w'))
 clear m0 m1 m2 m3 d1;go_wp2_with (first|(refine ah GI rfl _ rfl k rfl _ rfl HK.out.1.ou ?_)|(refine ae GI rfl _ _ rfl (w.heap.size+1+1) #[.slice ao xs.length ac,.slice bo ys.length bc] zeD rfl rfl rfl rfl (cH rfl rfl) HK.out.1.vl.rd ?_;intro w5 s5 g5)|(refine ae GC rfl _ _ rfl (w.heap.size+1+1+1) (anA ⟨1,[]⟩) (anA ⟨0,[]⟩) rfl rfl rfl rfl (aC _) (HK.out.1.vl.ra.kept g5 Fg) ?_;intro w6 s6 g6))
 refine bodyPost_ret (bg rfl _ _ (w.heap.size+1+1) (w.heap.size+1+1+1) _ _ rfl rfl rfl rfl (s5.kept g6 Fg) s6) rfl ?_;exact⟨_,_,rfl,HK.out.1.vl.fin HK.out.1.oa HK.out.1.ob (Nat.le_refl _) HK.out.1.ap g5 g6⟩
theorem sC (u v:Value) (xs ys:List Int) (j:Nat) (x y k0:Int) (w:World) (h:ag w u xs) (h':ag w v ys) (hb:au xs ys=true) (hj:(j:Int)<(ys.length:Int)) (hv:bJ x=true):
  Calls Tryz.prog 100 #[.agg #[u,v],CV ⟨2,(j:Int),x,y,k0⟩] w fun e w'=>∃a b,e=.returned (.tuple #[.agg #[a,b],AV ⟨0,[]⟩])/\aV w' w.heap.size a b xs (ys.set j x)/\iO w w':=by
 obtain⟨n1,n8,nl⟩:=cI hb;obtain⟨w1,hw1⟩:=Fe ((((w.alloc (.cells #[u,v] 36)).alloc (.cells #[.int .i64 2,.int .i64 (j:Int),.int .i64 x,.int .i64 y,.int .i64 k0] 66)).alloc (.cells #[.slice none 0 0,.slice none 0 0] 36)).alloc (.cells #[.int .i64 0,.string ⟨#[]⟩] 44))
 have HV:Hid (Vl w w1 u v ⟨2,(j:Int),x,y,k0⟩ zeD ⟨0,[]⟩):=by rw[hw1];exact Vl.start w u v ⟨2,(j:Int),x,y,k0⟩
 have RU:Hid (ag w1 u xs):=h.below HV.out.bl (Nat.le_refl _);have RV:Hid (ag w1 v ys):=h'.below HV.out.bl (Nat.le_refl _);obtain⟨uo,uc,rfl⟩:=h.form;obtain⟨vo,vc,rfl⟩:=h'.form;have c1:=dA (.slice uo xs.length uc) (.slice vo ys.length vc) xs ys w1 RU.out RV.out Ff Ff;have HL:Hid (ys.length=xs.length/\1<=xs.length/\xs.length<=8):=⟨nl,n1,n8⟩
 have HZ:Hid (∀j,0<=ys.getD j 0/\ys.getD j 0<=9999):=fx hb;have HR0:Hid (ag w (.slice vo ys.length vc) ys):=h';clear h h' hb n1 n8 nl;unfold CV cmA;dsimp only;go_enter Tryz.func100,Tryz.ntmps100;go_upto_region 1 with fail
 rw[<-hw1];clear hw1;go_wp2_with (first|(refine ah GI rfl _ rfl w.heap.size rfl _ rfl HV.out.dk ?_))
 refine c1.mono ?_;rintro e w2 ⟨a,b,rfl,o2,b2⟩;have HV2:Hid (Vl w w2 (.slice uo xs.length uc) (.slice vo ys.length vc) ⟨2,(j:Int),x,y,k0⟩ zeD ⟨0,[]⟩):=HV.out.next b2;obtain⟨ao,ac,rfl⟩:=o2.1.reads.form;obtain⟨bo,bc,rfl⟩:=o2.2.1.reads.form;have HO2:Hid (Own w2 (w.heap.size+4) (.slice ao xs.length ac) xs/\Own w2 (w.heap.size+4) (.slice bo ys.length bc) ys/\apart (.slice ao xs.length ac) (.slice bo ys.length bc)):=⟨o2.1.mono HV.out.sz,o2.2.1.mono HV.out.sz,o2.2.2⟩
 have RV2:Hid (ag w2 (.slice vo ys.length vc) ys):=RV.out.below b2 (Nat.le_refl _);obtain⟨w3,hw3⟩:=Fe (w2.alloc (.cells #[.slice ao xs.length ac,.slice bo ys.length bc] 36))
 clear c1 o2 b2 HV RU RV;go_upto_region 2 with fail
 rw[<-hw3];have HK:Hid (Vk w w3 (.slice uo xs.length uc) (.slice vo ys.length vc) ⟨2,(j:Int),x,y,k0⟩ w2.heap.size (.slice ao xs.length ac) (.slice bo ys.length bc) xs ys/\ag w3 (.slice vo ys.length vc) ys):=by
  have b3:iO w2 w3:=by rw[hw3];exact be w2 _
  refine⟨⟨HV2.out.next b3,by rw[hw3];exact StB.new _ _ _,HO2.out.1.below b3,HO2.out.2.1.below b3,HO2.out.2.2,HV2.out.sz,fun e=>?_,fun e=>?_⟩,RV2.out.below b3 (Nat.le_refl _)⟩
  ·have:=(HO2.out.1.lt _ e).2;omega
  ·have:=(HO2.out.2.1.lt _ e).2;omega
 clear hw3 HV2 HO2 RV2;obtain⟨k,hk⟩:=Fe w2.heap.size
 rw[<-hk]at HK⊢;clear hk;have m0:w3.cell? ⟨w.heap.size+1,0,none⟩=some (.int .i64 2):=HK.out.1.vl.cm.cell 0 rfl;have m1:w3.cell? ⟨w.heap.size+1,1,none⟩=some (.int .i64 (j:Int)):=HK.out.1.vl.cm.cell 1 rfl;have m2:w3.cell? ⟨w.heap.size+1,2,none⟩=some (.int .i64 x):=HK.out.1.vl.cm.cell 2 rfl;have m3:w3.cell? ⟨w.heap.size+1,3,none⟩=some (.int .i64 y):=HK.out.1.vl.cm.cell 3 rfl;have d1:w3.cell? ⟨w.heap.size,1,none⟩=some (.slice vo ys.length vc):=HK.out.1.vl.dk.cell 1 rfl;obtain⟨gb,bc',hbe, -⟩:=World.ownsRow.form HK.out.1.ob (by have:=HL.out;omega);cases hbe;have kb:w3.cell? ⟨k,1,none⟩=some (.slice (some ⟨gb,0,none⟩) ys.length bc):=HK.out.1.ou.cell 1 rfl;obtain⟨fz,⟨y0,hy0⟩, -⟩:=HK.out.1.ob.put rfl j Ff x;have HK2:Hid (Vk w (w3.setCell ⟨gb,j,none⟩ (.int .i64 x)) (.slice uo xs.length uc) (.slice vo ys.length vc) ⟨2,(j:Int),x,y,k0⟩ k (.slice ao xs.length ac) (.slice (some ⟨gb,0,none⟩) ys.length bc) xs (ys.set j x)):=HK.out.1.put rfl j Ff x;go_upto_region 10 with(first|(go_at_call 125;refine(jm _ _).mono ?_;rw[hv];rintro e w' ⟨rfl,hw⟩;subst w'))
 obtain⟨w4,hw4⟩:=Fe (w3.setCell ⟨gb,j,none⟩ (.int .i64 x))
 rw[<-hw4]at HK2;go_upto_region 17 with fail
 rw[<-hw4];clear hw4 m0 m1 m2 m3 d1 kb fz hy0;go_wp2_with (first|(refine ah GI rfl _ rfl k rfl _ rfl HK2.out.ou ?_)|(refine ae GI rfl _ _ rfl (w.heap.size+1+1) #[.slice ao xs.length ac,.slice (some ⟨gb,0,none⟩) ys.length bc] zeD rfl rfl rfl rfl (cH rfl rfl) HK2.out.vl.rd ?_;intro w5 s5 g5)|(refine ae GC rfl _ _ rfl (w.heap.size+1+1+1) (anA ⟨0,[]⟩) (anA ⟨0,[]⟩) rfl rfl rfl rfl (aC _) (HK2.out.vl.ra.kept g5 Fg) ?_;intro w6 s6 g6))
 refine bodyPost_ret (bg rfl _ _ (w.heap.size+1+1) (w.heap.size+1+1+1) _ _ rfl rfl rfl rfl (s5.kept g6 Fg) s6) rfl ?_;exact⟨_,_,rfl,HK2.out.vl.fin HK2.out.oa HK2.out.ob (Nat.le_refl _) HK2.out.ap g5 g6⟩
theorem sD (u v:Value) (xs ys:List Int) (j:Nat) (x y k0:Int) (w:World) (h:ag w u xs) (h':ag w v ys) (hb:au xs ys=true) (hj:(j:Int)<(ys.length:Int)):
  Calls Tryz.prog 100 #[.agg #[u,v],CV ⟨4,(j:Int),x,y,k0⟩] w fun e w'=>∃a b,e=.returned (.tuple #[.agg #[a,b],AV ⟨0,[]⟩])/\aV w' w.heap.size a b xs (ys.set j 0)/\iO w w':=by
 obtain⟨n1,n8,nl⟩:=cI hb;obtain⟨w1,hw1⟩:=Fe ((((w.alloc (.cells #[u,v] 36)).alloc (.cells #[.int .i64 4,.int .i64 (j:Int),.int .i64 x,.int .i64 y,.int .i64 k0] 66)).alloc (.cells #[.slice none 0 0,.slice none 0 0] 36)).alloc (.cells #[.int .i64 0,.string ⟨#[]⟩] 44))
 have HV:Hid (Vl w w1 u v ⟨4,(j:Int),x,y,k0⟩ zeD ⟨0,[]⟩):=by rw[hw1];exact Vl.start w u v ⟨4,(j:Int),x,y,k0⟩
 have RU:Hid (ag w1 u xs):=h.below HV.out.bl (Nat.le_refl _);have RV:Hid (ag w1 v ys):=h'.below HV.out.bl (Nat.le_refl _);obtain⟨uo,uc,rfl⟩:=h.form;obtain⟨vo,vc,rfl⟩:=h'.form;have c1:=dA (.slice uo xs.length uc) (.slice vo ys.length vc) xs ys w1 RU.out RV.out Ff Ff;have HL:Hid (ys.length=xs.length/\1<=xs.length/\xs.length<=8):=⟨nl,n1,n8⟩
 have HZ:Hid (∀j,0<=ys.getD j 0/\ys.getD j 0<=9999):=fx hb;have HR0:Hid (ag w (.slice vo ys.length vc) ys):=h';clear h h' hb n1 n8 nl;unfold CV cmA;dsimp only;go_enter Tryz.func100,Tryz.ntmps100;go_upto_region 1 with fail
 rw[<-hw1];clear hw1;go_wp2_with (first|(refine ah GI rfl _ rfl w.heap.size rfl _ rfl HV.out.dk ?_))
 refine c1.mono ?_;rintro e w2 ⟨a,b,rfl,o2,b2⟩;have HV2:Hid (Vl w w2 (.slice uo xs.length uc) (.slice vo ys.length vc) ⟨4,(j:Int),x,y,k0⟩ zeD ⟨0,[]⟩):=HV.out.next b2;obtain⟨ao,ac,rfl⟩:=o2.1.reads.form;obtain⟨bo,bc,rfl⟩:=o2.2.1.reads.form;have HO2:Hid (Own w2 (w.heap.size+4) (.slice ao xs.length ac) xs/\Own w2 (w.heap.size+4) (.slice bo ys.length bc) ys/\apart (.slice ao xs.length ac) (.slice bo ys.length bc)):=⟨o2.1.mono HV.out.sz,o2.2.1.mono HV.out.sz,o2.2.2⟩
 have RV2:Hid (ag w2 (.slice vo ys.length vc) ys):=RV.out.below b2 (Nat.le_refl _);obtain⟨w3,hw3⟩:=Fe (w2.alloc (.cells #[.slice ao xs.length ac,.slice bo ys.length bc] 36))
 clear c1 o2 b2 HV RU RV;go_upto_region 2 with fail
 rw[<-hw3];have HK:Hid (Vk w w3 (.slice uo xs.length uc) (.slice vo ys.length vc) ⟨4,(j:Int),x,y,k0⟩ w2.heap.size (.slice ao xs.length ac) (.slice bo ys.length bc) xs ys/\ag w3 (.slice vo ys.length vc) ys):=by
  have b3:iO w2 w3:=by rw[hw3];exact be w2 _
  refine⟨⟨HV2.out.next b3,by rw[hw3];exact StB.new _ _ _,HO2.out.1.below b3,HO2.out.2.1.below b3,HO2.out.2.2,HV2.out.sz,fun e=>?_,fun e=>?_⟩,RV2.out.below b3 (Nat.le_refl _)⟩
  ·have:=(HO2.out.1.lt _ e).2;omega
  ·have:=(HO2.out.2.1.lt _ e).2;omega
 clear hw3 HV2 HO2 RV2;obtain⟨k,hk⟩:=Fe w2.heap.size
 rw[<-hk]at HK⊢;clear hk;have m0:w3.cell? ⟨w.heap.size+1,0,none⟩=some (.int .i64 4):=HK.out.1.vl.cm.cell 0 rfl;have m1:w3.cell? ⟨w.heap.size+1,1,none⟩=some (.int .i64 (j:Int)):=HK.out.1.vl.cm.cell 1 rfl;have m2:w3.cell? ⟨w.heap.size+1,2,none⟩=some (.int .i64 x):=HK.out.1.vl.cm.cell 2 rfl;have m3:w3.cell? ⟨w.heap.size+1,3,none⟩=some (.int .i64 y):=HK.out.1.vl.cm.cell 3 rfl;have d1:w3.cell? ⟨w.heap.size,1,none⟩=some (.slice vo ys.length vc):=HK.out.1.vl.dk.cell 1 rfl;obtain⟨gb,bc',hbe, -⟩:=World.ownsRow.form HK.out.1.ob (by have:=HL.out;omega);cases hbe;have kb:w3.cell? ⟨k,1,none⟩=some (.slice (some ⟨gb,0,none⟩) ys.length bc):=HK.out.1.ou.cell 1 rfl;obtain⟨fz,⟨y0,hy0⟩, -⟩:=HK.out.1.ob.put rfl j Ff 0;have HK2:Hid (Vk w (w3.setCell ⟨gb,j,none⟩ (.int .i64 0)) (.slice uo xs.length uc) (.slice vo ys.length vc) ⟨4,(j:Int),x,y,k0⟩ k (.slice ao xs.length ac) (.slice (some ⟨gb,0,none⟩) ys.length bc) xs (ys.set j 0)):=HK.out.1.put rfl j Ff 0;go_upto_region 16 with fail
 obtain⟨w4,hw4⟩:=Fe (w3.setCell ⟨gb,j,none⟩ (.int .i64 0))
 rw[<-hw4]at HK2;go_upto_region 17 with fail
 rw[<-hw4];clear hw4 m0 m1 m2 m3 d1 kb fz hy0;go_wp2_with (first|(refine ah GI rfl _ rfl k rfl _ rfl HK2.out.ou ?_)|(refine ae GI rfl _ _ rfl (w.heap.size+1+1) #[.slice ao xs.length ac,.slice (some ⟨gb,0,none⟩) ys.length bc] zeD rfl rfl rfl rfl (cH rfl rfl) HK2.out.vl.rd ?_;intro w5 s5 g5)|(refine ae GC rfl _ _ rfl (w.heap.size+1+1+1) (anA ⟨0,[]⟩) (anA ⟨0,[]⟩) rfl rfl rfl rfl (aC _) (HK2.out.vl.ra.kept g5 Fg) ?_;intro w6 s6 g6))
 refine bodyPost_ret (bg rfl _ _ (w.heap.size+1+1) (w.heap.size+1+1+1) _ _ rfl rfl rfl rfl (s5.kept g6 Fg) s6) rfl ?_;exact⟨_,_,rfl,HK2.out.vl.fin HK2.out.oa HK2.out.ob (Nat.le_refl _) HK2.out.ap g5 g6⟩
theorem vg (u v:Value) (xs ys:List Int) (j:Nat) (x y k0:Int) (w:World) (h:ag w u xs) (h':ag w v ys) (hb:au xs ys=true) (hj:(j:Int)<(ys.length:Int)) (hv:bJ y=true) (he:ys.getD j 0=x):
  Calls Tryz.prog 100 #[.agg #[u,v],CV ⟨3,(j:Int),x,y,k0⟩] w fun e w'=>∃a b,e=.returned (.tuple #[.agg #[a,b],AV ⟨0,[]⟩])/\aV w' w.heap.size a b xs (ys.set j y)/\iO w w':=by
 obtain⟨n1,n8,nl⟩:=cI hb;obtain⟨w1,hw1⟩:=Fe ((((w.alloc (.cells #[u,v] 36)).alloc (.cells #[.int .i64 3,.int .i64 (j:Int),.int .i64 x,.int .i64 y,.int .i64 k0] 66)).alloc (.cells #[.slice none 0 0,.slice none 0 0] 36)).alloc (.cells #[.int .i64 0,.string ⟨#[]⟩] 44))
 have HV:Hid (Vl w w1 u v ⟨3,(j:Int),x,y,k0⟩ zeD ⟨0,[]⟩):=by rw[hw1];exact Vl.start w u v ⟨3,(j:Int),x,y,k0⟩
 have RU:Hid (ag w1 u xs):=h.below HV.out.bl (Nat.le_refl _);have RV:Hid (ag w1 v ys):=h'.below HV.out.bl (Nat.le_refl _);obtain⟨uo,uc,rfl⟩:=h.form;obtain⟨vo,vc,rfl⟩:=h'.form;have c1:=dA (.slice uo xs.length uc) (.slice vo ys.length vc) xs ys w1 RU.out RV.out Ff Ff;have HL:Hid (ys.length=xs.length/\1<=xs.length/\xs.length<=8):=⟨nl,n1,n8⟩
 have HZ:Hid (∀j,0<=ys.getD j 0/\ys.getD j 0<=9999):=fx hb;have HR0:Hid (ag w (.slice vo ys.length vc) ys):=h';clear h h' hb n1 n8 nl;unfold CV cmA;dsimp only;go_enter Tryz.func100,Tryz.ntmps100;go_upto_region 1 with fail
 rw[<-hw1];clear hw1;go_wp2_with (first|(refine ah GI rfl _ rfl w.heap.size rfl _ rfl HV.out.dk ?_))
 refine c1.mono ?_;rintro e w2 ⟨a,b,rfl,o2,b2⟩;have HV2:Hid (Vl w w2 (.slice uo xs.length uc) (.slice vo ys.length vc) ⟨3,(j:Int),x,y,k0⟩ zeD ⟨0,[]⟩):=HV.out.next b2;obtain⟨ao,ac,rfl⟩:=o2.1.reads.form;obtain⟨bo,bc,rfl⟩:=o2.2.1.reads.form;have HO2:Hid (Own w2 (w.heap.size+4) (.slice ao xs.length ac) xs/\Own w2 (w.heap.size+4) (.slice bo ys.length bc) ys/\apart (.slice ao xs.length ac) (.slice bo ys.length bc)):=⟨o2.1.mono HV.out.sz,o2.2.1.mono HV.out.sz,o2.2.2⟩
 have RV2:Hid (ag w2 (.slice vo ys.length vc) ys):=RV.out.below b2 (Nat.le_refl _);obtain⟨w3,hw3⟩:=Fe (w2.alloc (.cells #[.slice ao xs.length ac,.slice bo ys.length bc] 36))
 clear c1 o2 b2 HV RU RV;go_upto_region 2 with fail
 rw[<-hw3];have HK:Hid (Vk w w3 (.slice uo xs.length uc) (.slice vo ys.length vc) ⟨3,(j:Int),x,y,k0⟩ w2.heap.size (.slice ao xs.length ac) (.slice bo ys.length bc) xs ys/\ag w3 (.slice vo ys.length vc) ys):=by
  have b3:iO w2 w3:=by rw[hw3];exact be w2 _
  refine⟨⟨HV2.out.next b3,by rw[hw3];exact StB.new _ _ _,HO2.out.1.below b3,HO2.out.2.1.below b3,HO2.out.2.2,HV2.out.sz,fun e=>?_,fun e=>?_⟩,RV2.out.below b3 (Nat.le_refl _)⟩
  ·have:=(HO2.out.1.lt _ e).2;omega
  ·have:=(HO2.out.2.1.lt _ e).2;omega
 clear hw3 HV2 HO2 RV2;obtain⟨k,hk⟩:=Fe w2.heap.size
 rw[<-hk]at HK⊢;clear hk;have m0:w3.cell? ⟨w.heap.size+1,0,none⟩=some (.int .i64 3):=HK.out.1.vl.cm.cell 0 rfl;have m1:w3.cell? ⟨w.heap.size+1,1,none⟩=some (.int .i64 (j:Int)):=HK.out.1.vl.cm.cell 1 rfl;have m2:w3.cell? ⟨w.heap.size+1,2,none⟩=some (.int .i64 x):=HK.out.1.vl.cm.cell 2 rfl;have m3:w3.cell? ⟨w.heap.size+1,3,none⟩=some (.int .i64 y):=HK.out.1.vl.cm.cell 3 rfl;have d1:w3.cell? ⟨w.heap.size,1,none⟩=some (.slice vo ys.length vc):=HK.out.1.vl.dk.cell 1 rfl;have hz0:Hid (ys.getD j 0=x):=he;clear he;obtain⟨-, -, -,hcv⟩:=aL HK.out.2;obtain⟨vb,vf,rfl,hcell⟩:=hcv j Ff;obtain⟨z,hz⟩:=Fe (ys.getD j 0)
 rw[<-hz]at hcell;clear hcv;have hzx:z=x:=by rw[hz,hz0.out]
 subst hzx;clear hz hz0;go_upto_region 12 with(first|(go_at_call 125;refine(jm _ _).mono ?_;rw[hv];rintro e w' ⟨rfl,hw⟩;subst w'))
 go_quiet (fail)
 obtain⟨wq,hwq⟩:=Fe (w3.drewN nq)
 rw[<-hwq];have HQ:Hid (Vk w wq (.slice uo xs.length uc) (.slice (some ⟨vb,vf,none⟩) ys.length vc) ⟨3,(j:Int),z,y,k0⟩ k (.slice ao xs.length ac) (.slice bo ys.length bc) xs ys):=by rw[hwq];exact HK.out.1.drewN nq
 clear hwq HK m0 m1 m2 m3 d1 hcell;obtain⟨gb,bc',hbe, -⟩:=World.ownsRow.form HQ.out.ob (by have:=HL.out;omega);cases hbe;have kb:wq.cell? ⟨k,1,none⟩=some (.slice (some ⟨gb,0,none⟩) ys.length bc):=HQ.out.ou.cell 1 rfl;have m1:wq.cell? ⟨w.heap.size+1,1,none⟩=some (.int .i64 (j:Int)):=HQ.out.vl.cm.cell 1 rfl;have m3:wq.cell? ⟨w.heap.size+1,3,none⟩=some (.int .i64 y):=HQ.out.vl.cm.cell 3 rfl;obtain⟨fz,⟨y0,hy0⟩, -⟩:=HQ.out.ob.put rfl j Ff y;have HK2:=HQ.out.put rfl j Ff y;obtain⟨w4,hw4⟩:=Fe (wq.setCell ⟨gb,j,none⟩ (.int .i64 y))
 rw[<-hw4]at HK2;replace HK2:Hid _:=HK2;go_upto_region 17 with fail
 rw[<-hw4];clear hw4 m1 m3 kb fz hy0;go_wp2_with (first|(refine ah GI rfl _ rfl k rfl _ rfl HK2.out.ou ?_)|(refine ae GI rfl _ _ rfl (w.heap.size+1+1) #[.slice ao xs.length ac,.slice (some ⟨gb,0,none⟩) ys.length bc] zeD rfl rfl rfl rfl (cH rfl rfl) HK2.out.vl.rd ?_;intro w5 s5 g5)|(refine ae GC rfl _ _ rfl (w.heap.size+1+1+1) (anA ⟨0,[]⟩) (anA ⟨0,[]⟩) rfl rfl rfl rfl (aC _) (HK2.out.vl.ra.kept g5 Fg) ?_;intro w6 s6 g6))
 refine bodyPost_ret (bg rfl _ _ (w.heap.size+1+1) (w.heap.size+1+1+1) _ _ rfl rfl rfl rfl (s5.kept g6 Fg) s6) rfl ?_;exact⟨_,_,rfl,HK2.out.vl.fin HK2.out.oa HK2.out.ob (Nat.le_refl _) HK2.out.ap g5 g6⟩
theorem vh (u v:Value) (xs ys:List Int) (j:Nat) (x y k0:Int) (w:World) (h:ag w u xs) (h':ag w v ys) (hb:au xs ys=true) (hj:(j:Int)<(ys.length:Int)):
  Calls Tryz.prog 100 #[.agg #[u,v],CV ⟨1,(j:Int),x,y,k0⟩] w fun e w'=>∃a b,e=.returned (.tuple #[.agg #[a,b],AV ⟨0,ce (ys.getD j 0)⟩])/\aV w' w.heap.size a b xs ys/\iO w w':=by
 obtain⟨n1,n8,nl⟩:=cI hb;obtain⟨w1,hw1⟩:=Fe ((((w.alloc (.cells #[u,v] 36)).alloc (.cells #[.int .i64 1,.int .i64 (j:Int),.int .i64 x,.int .i64 y,.int .i64 k0] 66)).alloc (.cells #[.slice none 0 0,.slice none 0 0] 36)).alloc (.cells #[.int .i64 0,.string ⟨#[]⟩] 44))
 have HV:Hid (Vl w w1 u v ⟨1,(j:Int),x,y,k0⟩ zeD ⟨0,[]⟩):=by rw[hw1];exact Vl.start w u v ⟨1,(j:Int),x,y,k0⟩
 have RU:Hid (ag w1 u xs):=h.below HV.out.bl (Nat.le_refl _);have RV:Hid (ag w1 v ys):=h'.below HV.out.bl (Nat.le_refl _);obtain⟨uo,uc,rfl⟩:=h.form;obtain⟨vo,vc,rfl⟩:=h'.form;have c1:=dA (.slice uo xs.length uc) (.slice vo ys.length vc) xs ys w1 RU.out RV.out Ff Ff;have HL:Hid (ys.length=xs.length/\1<=xs.length/\xs.length<=8):=⟨nl,n1,n8⟩
 have HZ:Hid (∀j,0<=ys.getD j 0/\ys.getD j 0<=9999):=fx hb;have HR0:Hid (ag w (.slice vo ys.length vc) ys):=h';clear h h' hb n1 n8 nl;unfold CV cmA;dsimp only;go_enter Tryz.func100,Tryz.ntmps100;go_upto_region 1 with fail
 rw[<-hw1];clear hw1;go_wp2_with (first|(refine ah GI rfl _ rfl w.heap.size rfl _ rfl HV.out.dk ?_))
 refine c1.mono ?_;rintro e w2 ⟨a,b,rfl,o2,b2⟩;have HV2:Hid (Vl w w2 (.slice uo xs.length uc) (.slice vo ys.length vc) ⟨1,(j:Int),x,y,k0⟩ zeD ⟨0,[]⟩):=HV.out.next b2;obtain⟨ao,ac,rfl⟩:=o2.1.reads.form;obtain⟨bo,bc,rfl⟩:=o2.2.1.reads.form;have HO2:Hid (Own w2 (w.heap.size+4) (.slice ao xs.length ac) xs/\Own w2 (w.heap.size+4) (.slice bo ys.length bc) ys/\apart (.slice ao xs.length ac) (.slice bo ys.length bc)):=⟨o2.1.mono HV.out.sz,o2.2.1.mono HV.out.sz,o2.2.2⟩
 have RV2:Hid (ag w2 (.slice vo ys.length vc) ys):=RV.out.below b2 (Nat.le_refl _);obtain⟨w3,hw3⟩:=Fe (w2.alloc (.cells #[.slice ao xs.length ac,.slice bo ys.length bc] 36))
 clear c1 o2 b2 HV RU RV;go_upto_region 2 with fail
 rw[<-hw3];have HK:Hid (Vk w w3 (.slice uo xs.length uc) (.slice vo ys.length vc) ⟨1,(j:Int),x,y,k0⟩ w2.heap.size (.slice ao xs.length ac) (.slice bo ys.length bc) xs ys/\ag w3 (.slice vo ys.length vc) ys):=by
  have b3:iO w2 w3:=by rw[hw3];exact be w2 _
  refine⟨⟨HV2.out.next b3,by rw[hw3];exact StB.new _ _ _,HO2.out.1.below b3,HO2.out.2.1.below b3,HO2.out.2.2,HV2.out.sz,fun e=>?_,fun e=>?_⟩,RV2.out.below b3 (Nat.le_refl _)⟩
  ·have:=(HO2.out.1.lt _ e).2;omega
  ·have:=(HO2.out.2.1.lt _ e).2;omega
 clear hw3 HV2 HO2 RV2;obtain⟨k,hk⟩:=Fe w2.heap.size
 rw[<-hk]at HK⊢;clear hk;have m0:w3.cell? ⟨w.heap.size+1,0,none⟩=some (.int .i64 1):=HK.out.1.vl.cm.cell 0 rfl;have m1:w3.cell? ⟨w.heap.size+1,1,none⟩=some (.int .i64 (j:Int)):=HK.out.1.vl.cm.cell 1 rfl;have m2:w3.cell? ⟨w.heap.size+1,2,none⟩=some (.int .i64 x):=HK.out.1.vl.cm.cell 2 rfl;have m3:w3.cell? ⟨w.heap.size+1,3,none⟩=some (.int .i64 y):=HK.out.1.vl.cm.cell 3 rfl;have d1:w3.cell? ⟨w.heap.size,1,none⟩=some (.slice vo ys.length vc):=HK.out.1.vl.dk.cell 1 rfl;obtain⟨-, -, -,hcv⟩:=aL HR0.out;obtain⟨vb,vf,rfl,hc0⟩:=hcv j Ff;have hcell:w3.cell? ⟨vb,vf+j,none⟩=some (.int .i64 (ys.getD j 0)):=by rw[HK.out.1.vl.bl.cell (p:=⟨vb,vf+j,none⟩) (World.block_lt_of_cell? w _ hc0)];exact hc0
 have hzb:=HZ.out j;obtain⟨z,hz⟩:=Fe (ys.getD j 0)
 rw[<-hz]at hcell hc0 hzb;have HZE:Hid (z=ys.getD j 0):=hz;clear hcv;clear hz;go_upto_region 8 with fail
 obtain⟨wa,hwa⟩:=Fe w3
 rw[<-hwa];have HA:Hid (Vk w wa (.slice uo xs.length uc) (.slice (some ⟨vb,vf,none⟩) ys.length vc) ⟨1,(j:Int),x,y,k0⟩ k (.slice ao xs.length ac) (.slice bo ys.length bc) xs ys):=by rw[hwa];exact HK.out.1
 have HD:Hid (Vk w wa.drew (.slice uo xs.length uc) (.slice (some ⟨vb,vf,none⟩) ys.length vc) ⟨1,(j:Int),x,y,k0⟩ k (.slice ao xs.length ac) (.slice bo ys.length bc) xs ys):=HA.out.drew;have hvb:Hid (vb<w.heap.size):=World.block_lt_of_cell? w _ hc0;have ha5:wa.cell? ⟨vb,vf+j,none⟩=some (.int .i64 z):=by rw[HA.out.vl.bl.cell (p:=⟨vb,vf+j,none⟩) hvb.out];exact hc0
 have hd5:wa.drew.cell? ⟨vb,vf+j,none⟩=some (.int .i64 z):=ha5;have ci:=fun wx=>ir z wx Ff Ff
 have hk4:=HA.out.kk;have hvl:=hvb.out;unfold S at ci;have pa1:wa.cell? ⟨w.heap.size,1,none⟩=some (.slice (some ⟨vb,vf,none⟩) ys.length vc):=HA.out.vl.dk.cell 1 rfl;have pa2:wa.cell? ⟨w.heap.size+1,1,none⟩=some (.int .i64 (j:Int)):=HA.out.vl.cm.cell 1 rfl;have pa3:wa.cell? ⟨k,0,none⟩=some (.slice ao xs.length ac):=HA.out.ou.cell 0 rfl;have pa4:wa.cell? ⟨k,1,none⟩=some (.slice bo ys.length bc):=HA.out.ou.cell 1 rfl;have pd1:wa.drew.cell? ⟨w.heap.size,1,none⟩=some (.slice (some ⟨vb,vf,none⟩) ys.length vc):=HD.out.vl.dk.cell 1 rfl;have pd2:wa.drew.cell? ⟨w.heap.size+1,1,none⟩=some (.int .i64 (j:Int)):=HD.out.vl.cm.cell 1 rfl;have pd3:wa.drew.cell? ⟨k,0,none⟩=some (.slice ao xs.length ac):=HD.out.ou.cell 0 rfl;have pd4:wa.drew.cell? ⟨k,1,none⟩=some (.slice bo ys.length bc):=HD.out.ou.cell 1 rfl;clear hwa HK m0 m1 m2 m3 d1 hcell hc0
 go_region_held3 (fun w'=>w'.cell? ⟨w.heap.size,1,none⟩=some (.slice (some ⟨vb,vf,none⟩) ys.length vc)/\w'.cell? ⟨w.heap.size+1,1,none⟩=some (.int .i64 (j:Int))/\w'.cell? ⟨k,0,none⟩=some (.slice ao xs.length ac)/\w'.cell? ⟨k,1,none⟩=some (.slice bo ys.length bc)/\w'.cell? ⟨vb,vf+j,none⟩=some (.int .i64 z)) (refine⟨?_,?_,?_,?_,?_⟩<;>first|with_reducible assumption|(with_reducible refine gv Ff ?_;with_reducible assumption)|(with_reducible refine gv Ff ?_;with_reducible refine gv Ff ?_;with_reducible assumption))
  (first
   |(go_at_call 57;refine(ci _).mono ?_;rintro e w4 ⟨rfl,b4⟩;have H4:Hid (Vk w w4 (.slice uo xs.length uc) (.slice (some ⟨vb,vf,none⟩) ys.length vc) ⟨1,(j:Int),x,y,k0⟩ k (.slice ao xs.length ac) (.slice bo ys.length bc) xs ys):=HD.out.next b4;have pe1:w4.cell? ⟨w.heap.size,1,none⟩=some (.slice (some ⟨vb,vf,none⟩) ys.length vc):=H4.out.vl.dk.cell 1 rfl;have pe2:w4.cell? ⟨w.heap.size+1,1,none⟩=some (.int .i64 (j:Int)):=H4.out.vl.cm.cell 1 rfl;have pe3:w4.cell? ⟨k,0,none⟩=some (.slice ao xs.length ac):=H4.out.ou.cell 0 rfl;have pe4:w4.cell? ⟨k,1,none⟩=some (.slice bo ys.length bc):=H4.out.ou.cell 1 rfl;have he5:w4.cell? ⟨vb,vf+j,none⟩=some (.int .i64 z):=(b4.cell (World.block_lt_of_cell? _ _ hd5)).trans hd5;have rd0:w4.cell? ⟨w.heap.size+1+1,0,none⟩=some (.slice none 0 0):=H4.out.vl.rd.cell 0 rfl;have frd0:=H4.out.vl.rd.frozen 0;have rd1:w4.cell? ⟨w.heap.size+1+1,1,none⟩=some (.slice none 0 0):=H4.out.vl.rd.cell 1 rfl;have frd1:=H4.out.vl.rd.frozen 1;have ra0:w4.cell? ⟨w.heap.size+1+1+1,0,none⟩=some (.int .i64 0):=H4.out.vl.ra.cell 0 rfl;have fra0:=H4.out.vl.ra.frozen 0;have ra1:w4.cell? ⟨w.heap.size+1+1+1,1,none⟩=some (.string ⟨#[]⟩):=H4.out.vl.ra.cell 1 rfl;have fra1:=H4.out.vl.ra.frozen 1;clear b4))
 all_goals
  go_wp2;have S5:=(H4.out.vl.rd.put 0 (.slice ao xs.length ac) rfl).put 1 (.slice bo ys.length bc) (ds:=#[.slice ao xs.length ac,.slice bo ys.length bc]) rfl;have G5:=(ai w4 (w.heap.size+1+1) 0 (.slice ao xs.length ac)).trans (ai _ (w.heap.size+1+1) 1 (.slice bo ys.length bc));have S6:=((H4.out.vl.ra.kept G5 Fg).put 0 (.int .i64 0) rfl).put 1 (S (ce z)) (ds:=anA ⟨0,ce z⟩) rfl;have G6:=(ai ((w4.setCell ⟨w.heap.size+1+1,0,none⟩ (.slice ao xs.length ac)).setCell ⟨w.heap.size+1+1,1,none⟩ (.slice bo ys.length bc)) (w.heap.size+1+1+1) 0 (.int .i64 0)).trans (ai _ (w.heap.size+1+1+1) 1 (S (ce z)));refine bodyPost_ret (bg rfl _ _ (w.heap.size+1+1) (w.heap.size+1+1+1) _ _ rfl rfl rfl rfl (S5.kept G6 Fg) S6) rfl ?_;rw[<-HZE.out];exact⟨_,_,rfl,H4.out.vl.fin H4.out.oa H4.out.ob (Nat.le_refl _) H4.out.ap G5 G6⟩
theorem pR (u v:Value) (xs ys:List Int) (j:Nat) (x y k0:Int) (w:World) (h:ag w u xs) (h':ag w v ys) (hb:au xs ys=true) (hj:(j:Int)<(ys.length:Int)) (hv:bJ y=true) (he:¬ys.getD j 0=x):
  Calls Tryz.prog 100 #[.agg #[u,v],CV ⟨3,(j:Int),x,y,k0⟩] w fun e w'=>∃a b,e=.returned (.tuple #[.agg #[a,b],AV ⟨2,ce (ys.getD j 0)⟩])/\aV w' w.heap.size a b xs ys/\iO w w':=by
 obtain⟨n1,n8,nl⟩:=cI hb;obtain⟨w1,hw1⟩:=Fe ((((w.alloc (.cells #[u,v] 36)).alloc (.cells #[.int .i64 3,.int .i64 (j:Int),.int .i64 x,.int .i64 y,.int .i64 k0] 66)).alloc (.cells #[.slice none 0 0,.slice none 0 0] 36)).alloc (.cells #[.int .i64 0,.string ⟨#[]⟩] 44))
 have HV:Hid (Vl w w1 u v ⟨3,(j:Int),x,y,k0⟩ zeD ⟨0,[]⟩):=by rw[hw1];exact Vl.start w u v ⟨3,(j:Int),x,y,k0⟩
 have RU:Hid (ag w1 u xs):=h.below HV.out.bl (Nat.le_refl _);have RV:Hid (ag w1 v ys):=h'.below HV.out.bl (Nat.le_refl _);obtain⟨uo,uc,rfl⟩:=h.form;obtain⟨vo,vc,rfl⟩:=h'.form;have c1:=dA (.slice uo xs.length uc) (.slice vo ys.length vc) xs ys w1 RU.out RV.out Ff Ff;have HL:Hid (ys.length=xs.length/\1<=xs.length/\xs.length<=8):=⟨nl,n1,n8⟩
 have HZ:Hid (∀j,0<=ys.getD j 0/\ys.getD j 0<=9999):=fx hb;have HR0:Hid (ag w (.slice vo ys.length vc) ys):=h';clear h h' hb n1 n8 nl;unfold CV cmA;dsimp only;go_enter Tryz.func100,Tryz.ntmps100;go_upto_region 1 with fail
 rw[<-hw1];clear hw1;go_wp2_with (first|(refine ah GI rfl _ rfl w.heap.size rfl _ rfl HV.out.dk ?_))
 refine c1.mono ?_;rintro e w2 ⟨a,b,rfl,o2,b2⟩;have HV2:Hid (Vl w w2 (.slice uo xs.length uc) (.slice vo ys.length vc) ⟨3,(j:Int),x,y,k0⟩ zeD ⟨0,[]⟩):=HV.out.next b2;obtain⟨ao,ac,rfl⟩:=o2.1.reads.form;obtain⟨bo,bc,rfl⟩:=o2.2.1.reads.form;have HO2:Hid (Own w2 (w.heap.size+4) (.slice ao xs.length ac) xs/\Own w2 (w.heap.size+4) (.slice bo ys.length bc) ys/\apart (.slice ao xs.length ac) (.slice bo ys.length bc)):=⟨o2.1.mono HV.out.sz,o2.2.1.mono HV.out.sz,o2.2.2⟩
 have RV2:Hid (ag w2 (.slice vo ys.length vc) ys):=RV.out.below b2 (Nat.le_refl _);obtain⟨w3,hw3⟩:=Fe (w2.alloc (.cells #[.slice ao xs.length ac,.slice bo ys.length bc] 36))
 clear c1 o2 b2 HV RU RV;go_upto_region 2 with fail
 rw[<-hw3];have HK:Hid (Vk w w3 (.slice uo xs.length uc) (.slice vo ys.length vc) ⟨3,(j:Int),x,y,k0⟩ w2.heap.size (.slice ao xs.length ac) (.slice bo ys.length bc) xs ys/\ag w3 (.slice vo ys.length vc) ys):=by
  have b3:iO w2 w3:=by rw[hw3];exact be w2 _
  refine⟨⟨HV2.out.next b3,by rw[hw3];exact StB.new _ _ _,HO2.out.1.below b3,HO2.out.2.1.below b3,HO2.out.2.2,HV2.out.sz,fun e=>?_,fun e=>?_⟩,RV2.out.below b3 (Nat.le_refl _)⟩
  ·have:=(HO2.out.1.lt _ e).2;omega
  ·have:=(HO2.out.2.1.lt _ e).2;omega
 clear hw3 HV2 HO2 RV2;obtain⟨k,hk⟩:=Fe w2.heap.size
 rw[<-hk]at HK⊢;clear hk;have m0:w3.cell? ⟨w.heap.size+1,0,none⟩=some (.int .i64 3):=HK.out.1.vl.cm.cell 0 rfl;have m1:w3.cell? ⟨w.heap.size+1,1,none⟩=some (.int .i64 (j:Int)):=HK.out.1.vl.cm.cell 1 rfl;have m2:w3.cell? ⟨w.heap.size+1,2,none⟩=some (.int .i64 x):=HK.out.1.vl.cm.cell 2 rfl;have m3:w3.cell? ⟨w.heap.size+1,3,none⟩=some (.int .i64 y):=HK.out.1.vl.cm.cell 3 rfl;have d1:w3.cell? ⟨w.heap.size,1,none⟩=some (.slice vo ys.length vc):=HK.out.1.vl.dk.cell 1 rfl;have he0:Hid (¬ys.getD j 0=x):=he;clear he;obtain⟨-, -, -,hcv⟩:=aL HR0.out;obtain⟨vb,vf,rfl,hc0⟩:=hcv j Ff;have hcell:w3.cell? ⟨vb,vf+j,none⟩=some (.int .i64 (ys.getD j 0)):=by rw[HK.out.1.vl.bl.cell (p:=⟨vb,vf+j,none⟩) (World.block_lt_of_cell? w _ hc0)];exact hc0
 have hzb:=HZ.out j;obtain⟨z,hz⟩:=Fe (ys.getD j 0)
 rw[<-hz]at hcell hc0 hzb;have HZE:Hid (z=ys.getD j 0):=hz;clear hcv;have hzx:(z !=x)=true:=by have:=he0.out;rw[<-hz]at this;simpa using this
 have hzn:¬z=x:=by have:=he0.out;rwa[<-hz]at this
 have hze:(z==x)=false:=by simpa using hzn
 clear he0 hz;go_upto_region 12 with(first|(go_at_call 125;refine(jm _ _).mono ?_;rw[hv];rintro e w' ⟨rfl,hw⟩;subst w'))
 go_quiet (fail)
 go_upto_region 13 with fail
 obtain⟨wa,hwa⟩:=Fe (w3.drewN nq)
 rw[<-hwa];have HA:Hid (Vk w wa (.slice uo xs.length uc) (.slice (some ⟨vb,vf,none⟩) ys.length vc) ⟨3,(j:Int),x,y,k0⟩ k (.slice ao xs.length ac) (.slice bo ys.length bc) xs ys):=by rw[hwa];exact HK.out.1.drewN nq
 have HD:Hid (Vk w wa.drew (.slice uo xs.length uc) (.slice (some ⟨vb,vf,none⟩) ys.length vc) ⟨3,(j:Int),x,y,k0⟩ k (.slice ao xs.length ac) (.slice bo ys.length bc) xs ys):=HA.out.drew;have hvb:Hid (vb<w.heap.size):=World.block_lt_of_cell? w _ hc0;have ha5:wa.cell? ⟨vb,vf+j,none⟩=some (.int .i64 z):=by rw[HA.out.vl.bl.cell (p:=⟨vb,vf+j,none⟩) hvb.out];exact hc0
 have hd5:wa.drew.cell? ⟨vb,vf+j,none⟩=some (.int .i64 z):=ha5;have ci:=fun wx=>ir z wx Ff Ff
 have hk4:=HA.out.kk;have hvl:=hvb.out;unfold S at ci;have pa1:wa.cell? ⟨w.heap.size,1,none⟩=some (.slice (some ⟨vb,vf,none⟩) ys.length vc):=HA.out.vl.dk.cell 1 rfl;have pa2:wa.cell? ⟨w.heap.size+1,1,none⟩=some (.int .i64 (j:Int)):=HA.out.vl.cm.cell 1 rfl;have pa3:wa.cell? ⟨k,0,none⟩=some (.slice ao xs.length ac):=HA.out.ou.cell 0 rfl;have pa4:wa.cell? ⟨k,1,none⟩=some (.slice bo ys.length bc):=HA.out.ou.cell 1 rfl;have pd1:wa.drew.cell? ⟨w.heap.size,1,none⟩=some (.slice (some ⟨vb,vf,none⟩) ys.length vc):=HD.out.vl.dk.cell 1 rfl;have pd2:wa.drew.cell? ⟨w.heap.size+1,1,none⟩=some (.int .i64 (j:Int)):=HD.out.vl.cm.cell 1 rfl;have pd3:wa.drew.cell? ⟨k,0,none⟩=some (.slice ao xs.length ac):=HD.out.ou.cell 0 rfl;have pd4:wa.drew.cell? ⟨k,1,none⟩=some (.slice bo ys.length bc):=HD.out.ou.cell 1 rfl;clear hwa HK m0 m1 m2 m3 d1 hcell hc0
 go_region_held3 (fun w'=>w'.cell? ⟨w.heap.size,1,none⟩=some (.slice (some ⟨vb,vf,none⟩) ys.length vc)/\w'.cell? ⟨w.heap.size+1,1,none⟩=some (.int .i64 (j:Int))/\w'.cell? ⟨k,0,none⟩=some (.slice ao xs.length ac)/\w'.cell? ⟨k,1,none⟩=some (.slice bo ys.length bc)/\w'.cell? ⟨vb,vf+j,none⟩=some (.int .i64 z)) (refine⟨?_,?_,?_,?_,?_⟩<;>first|with_reducible assumption|(with_reducible refine gv Ff ?_;with_reducible assumption)|(with_reducible refine gv Ff ?_;with_reducible refine gv Ff ?_;with_reducible assumption))
  (first
   |(go_at_call 57;refine(ci _).mono ?_;rintro e w4 ⟨rfl,b4⟩;have H4:Hid (Vk w w4 (.slice uo xs.length uc) (.slice (some ⟨vb,vf,none⟩) ys.length vc) ⟨3,(j:Int),x,y,k0⟩ k (.slice ao xs.length ac) (.slice bo ys.length bc) xs ys):=HD.out.next b4;have pe1:w4.cell? ⟨w.heap.size,1,none⟩=some (.slice (some ⟨vb,vf,none⟩) ys.length vc):=H4.out.vl.dk.cell 1 rfl;have pe2:w4.cell? ⟨w.heap.size+1,1,none⟩=some (.int .i64 (j:Int)):=H4.out.vl.cm.cell 1 rfl;have pe3:w4.cell? ⟨k,0,none⟩=some (.slice ao xs.length ac):=H4.out.ou.cell 0 rfl;have pe4:w4.cell? ⟨k,1,none⟩=some (.slice bo ys.length bc):=H4.out.ou.cell 1 rfl;have he5:w4.cell? ⟨vb,vf+j,none⟩=some (.int .i64 z):=(b4.cell (World.block_lt_of_cell? _ _ hd5)).trans hd5;have rd0:w4.cell? ⟨w.heap.size+1+1,0,none⟩=some (.slice none 0 0):=H4.out.vl.rd.cell 0 rfl;have frd0:=H4.out.vl.rd.frozen 0;have rd1:w4.cell? ⟨w.heap.size+1+1,1,none⟩=some (.slice none 0 0):=H4.out.vl.rd.cell 1 rfl;have frd1:=H4.out.vl.rd.frozen 1;have ra0:w4.cell? ⟨w.heap.size+1+1+1,0,none⟩=some (.int .i64 0):=H4.out.vl.ra.cell 0 rfl;have fra0:=H4.out.vl.ra.frozen 0;have ra1:w4.cell? ⟨w.heap.size+1+1+1,1,none⟩=some (.string ⟨#[]⟩):=H4.out.vl.ra.cell 1 rfl;have fra1:=H4.out.vl.ra.frozen 1;clear b4))
 all_goals
  go_wp2;have S5:=(H4.out.vl.rd.put 0 (.slice ao xs.length ac) rfl).put 1 (.slice bo ys.length bc) (ds:=#[.slice ao xs.length ac,.slice bo ys.length bc]) rfl;have G5:=(ai w4 (w.heap.size+1+1) 0 (.slice ao xs.length ac)).trans (ai _ (w.heap.size+1+1) 1 (.slice bo ys.length bc));have S6:=((H4.out.vl.ra.kept G5 Fg).put 0 (.int .i64 2) rfl).put 1 (S (ce z)) (ds:=anA ⟨2,ce z⟩) rfl;have G6:=(ai ((w4.setCell ⟨w.heap.size+1+1,0,none⟩ (.slice ao xs.length ac)).setCell ⟨w.heap.size+1+1,1,none⟩ (.slice bo ys.length bc)) (w.heap.size+1+1+1) 0 (.int .i64 2)).trans (ai _ (w.heap.size+1+1+1) 1 (S (ce z)));refine bodyPost_ret (bg rfl _ _ (w.heap.size+1+1) (w.heap.size+1+1+1) _ _ rfl rfl rfl rfl (S5.kept G6 Fg) S6) rfl ?_;rw[<-HZE.out];exact⟨_,_,rfl,H4.out.vl.fin H4.out.oa H4.out.ob (Nat.le_refl _) H4.out.ap G5 G6⟩
end Go.Proofs.YthldeiojlllkdaaGreatDoor
