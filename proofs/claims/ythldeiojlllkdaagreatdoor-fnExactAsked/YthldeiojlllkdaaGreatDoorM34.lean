/- The program's store by commands: DidStore. -/
import Derived.Test.YthldeiojlllkdaaGreatDoorM1
import Derived.Test.YthldeiojlllkdaaGreatDoorIStoH
import Derived.Test.YthldeiojlllkdaaGreatDoorSStore4
import Derived.Test.YthldeiojlllkdaaGreatDoorM6
import Derived.Test.YthldeiojlllkdaaGreatDoorM7
import Derived.Test.YthldeiojlllkdaaGreatDoorM12
import Derived.Deep.RegionLaw
set_option maxRecDepth 20000
set_option maxHeartbeats 2000000
namespace Go.Proofs.YthldeiojlllkdaaGreatDoor
open Go.ChangeShapes Go.WideShapes Go.ChangeAt Go.RowKit
theorem ju (f:eO) (u v q:Value) (xs ys:List Int) (h:Hd) (i:Int) (c:Cm) (w:World) (hu:ag w u xs) (hv:ag w v ys) (hq:ag w q h.ks) (hb:au xs ys=true) (ok:h.ok=true) (S:Sen f w) (dx dy:List Int) (hh:Hd) (tx:Bs) (CP':∀wx,bB w wx->Calls Tryz.prog 117 #[SRV u v q h,.int .i64 i,CV c] wx (gX wx dx dy hh tx .nilIface)):
  Calls Tryz.prog 77 #[SRV u v q h,.int .i64 i,CV c] w fun e w'=>∃a b k,e=.returned (.tuple #[SRV a b k hh,AV ⟨0,tx⟩])/\aY w' w.heap.size a b k dx dy hh.ks/\bB w w':=by
 obtain⟨w1,hw1⟩:=eX ((((w.alloc (.cells (srA u v q h) 96)).alloc (.cells (cmA c) 66)).alloc (.cells zeR 96)).alloc (.cells (anA ⟨0,[]⟩) 44))
 have HX:Hid (Ds w w1 u v q h c):=by rw[hw1];exact Ds.start w u v q h c
 have HSN:Hid (Sen f w):=S;obtain⟨n1,n8,nl⟩:=cH hb;have gx:xs.length<=1099511627776:=by omega
 have gy:ys.length<=1099511627776:=by omega
 have hx1:1<=xs.length:=by omega
 have hy1:1<=ys.length:=by omega
 have hk4:=(Hd.ok_all ok).1;have hk1:1<=h.ks.length:=by omega
 have gk:h.ks.length<=1099511627776:=by omega
 have hok:Sr.ok ⟨xs,ys,h⟩=true:=by simp[Sr.ok,hb,ok]
 have c1:Calls Tryz.prog 63 #[.agg (srA u v q h)] w1 fun e w'=>e=.returned (.bool true)/\bB w1 w':=by
  have:=gl u v q xs ys h w1 (hu.below HX.out.bl (Nat.le_refl _)) (hv.below HX.out.bl (Nat.le_refl _)) (hq.below HX.out.bl (Nat.le_refl _)) gx gy gk;rw[hok]at this;exact this
 obtain⟨uo,uc,rfl⟩:=aa hu;obtain⟨vo,vc,rfl⟩:=aa hv;obtain⟨qo,qc,rfl⟩:=aa hq;have CP:Hid (∀wx,bB w wx->Calls Tryz.prog 117 #[.agg (srA (.slice uo xs.length uc) (.slice vo ys.length vc) (.slice qo h.ks.length qc) h),.int .i64 i,.agg #[.int .i64 c.o,.int .i64 c.p,.int .i64 c.a,.int .i64 c.b,.int .i64 c.k]] wx (fun e w'=>∃a b k,e=.returned (.tuple #[SRV a b k hh,.string ⟨tx.toArray⟩,.nilIface])/\aY w' wx.heap.size a b k dx dy hh.ks/\bB wx w')):=CP';clear CP' hu hv hq S hb ok gx gy gk hx1 hy1 hk1 hk4 n1 n8 nl hok HSN;unfold SRV CV;conv in srA (.slice uo xs.length uc) (.slice vo ys.length vc) (.slice qo h.ks.length qc) _=>unfold srA
 unfold cmA;unfold srA cmA zeR anA S at hw1;go_enter Tryz.func77,Tryz.ntmps77;go_upto_region 1 with fail
 rw[<-hw1];clear hw1;go_wp2_with (refine ah Tryz.isR rfl _ rfl w.heap.size rfl _ rfl HX.out.st ?_)
 refine c1.mono ?_;rintro e w2 ⟨rfl,b2⟩;have X2:Hid (Ds w w2 (.slice uo xs.length uc) (.slice vo ys.length vc) (.slice qo h.ks.length qc) h c):=HX.out.next b2;clear HX b2 c1;have m0:w2.cell? ⟨w.heap.size+1,0,none⟩=some (.int .i64 c.o):=X2.out.cm.cell 0 rfl;have m1:w2.cell? ⟨w.heap.size+1,1,none⟩=some (.int .i64 c.p):=X2.out.cm.cell 1 rfl;have m2:w2.cell? ⟨w.heap.size+1,2,none⟩=some (.int .i64 c.a):=X2.out.cm.cell 2 rfl;have m3:w2.cell? ⟨w.heap.size+1,3,none⟩=some (.int .i64 c.b):=X2.out.cm.cell 3 rfl;have m4:w2.cell? ⟨w.heap.size+1,4,none⟩=some (.int .i64 c.k):=X2.out.cm.cell 4 rfl;go_wp2_with (refine ah Tryz.isR rfl _ rfl w.heap.size rfl _ rfl X2.out.st ?_)
 refine(CP.out _ X2.out.bl).mono ?_;rintro e w3 ⟨a,b,k,rfl,o3,b3⟩;obtain⟨ao,ac,rfl⟩:=o3.1.1.reads.form;obtain⟨bo,bc,rfl⟩:=o3.1.2.1.reads.form;obtain⟨ko,kc,rfl⟩:=o3.2.1.reads.form;unfold SRV;conv in srA (.slice ao dx.length ac) (.slice bo dy.length bc) (.slice ko hh.ks.length kc) hh=>unfold srA
 clear m0 m1 m2 m3 m4 CP;obtain⟨w4,hw4⟩:=eX (w3.alloc (.cells #[.slice ao dx.length ac,.slice bo dy.length bc,.slice ko hh.ks.length kc,.int .i64 hh.kd,.int .i64 hh.ho,.int .i64 hh.tu] 96))
 have b4:bB w3 w4:=by rw[hw4];exactbA
 have X4:Hid (Ds w w4 (.slice uo xs.length uc) (.slice vo ys.length vc) (.slice qo h.ks.length qc) h c):=(X2.out.next b3).next b4;have O4:Hid (aY w4 (w.heap.size+4) (.slice ao dx.length ac) (.slice bo dy.length bc) (.slice ko hh.ks.length kc) dx dy hh.ks/\StB w4 w3.heap.size 96 (srA (.slice ao dx.length ac) (.slice bo dy.length bc) (.slice ko hh.ks.length kc) hh)):=⟨(o3.mono X2.out.sz).below b4,by rw[hw4];exact StB.new _ _ _⟩
 clear X2 b3 b4 o3;go_upto_region 4 with fail
 rw[<-hw4];clear hw4;obtain⟨g,hg⟩:=eX w3.heap.size
 rw[<-hg]at O4⊢;clear hg;go_wp2_with (first
  |(refine ah Tryz.isR rfl _ rfl g rfl _ rfl O4.out.2 ?_)
  |(refine ae Tryz.isR rfl _ _ rfl (w.heap.size+1+1) (srA (.slice ao dx.length ac) (.slice bo dy.length bc) (.slice ko hh.ks.length kc) hh) zeR rfl rfl rfl rfl (ec hh rfl rfl rfl) X4.out.rs ?_;intro w7 s7 g7;have ra7:=X4.out.ra.kept g7 (by simp))
  |(refine ae Tryz.isA rfl _ _ rfl (w.heap.size+1+1+1) (anA ⟨0,tx⟩) (anA ⟨0,[]⟩) rfl rfl rfl rfl (by simp[anA,S,Value.oneCell']) ra7 ?_;intro w8 s8 g8))
 refine bodyPost_ret (fL rfl _ _ (w.heap.size+1+1) (w.heap.size+1+1+1) _ _ rfl rfl rfl rfl (s7.kept g8 (by simp)) s8) rfl ?_;exact⟨_,_,_,rfl,X4.out.fin O4.out.1 (Nat.le_refl _) g7 g8⟩
theorem lh (f:eO) (u v q:Value) (xs ys:List Int) (h:Hd) (i:Int) (c:Cm) (w:World) (hu:ag w u xs) (hv:ag w v ys) (hq:ag w q h.ks) (hb:au xs ys=true) (ok:h.ok=true) (S:Sen f w) (st:Int) (tt:Bs) (hs':st=1∨st=2∨st=3∨st=7) (dx dy:List Int) (hh:Hd) (tx:Bs) (CP':∀wx,bB w wx->Calls Tryz.prog 117 #[SRV u v q h,.int .i64 i,CV c] wx (gX wx dx dy hh tx (rfV f st tt))):
  Calls Tryz.prog 77 #[SRV u v q h,.int .i64 i,CV c] w fun e w'=>∃a b k,e=.returned (.tuple #[SRV a b k h,AV ⟨st,tt⟩])/\aY w' w.heap.size a b k xs ys h.ks/\bB w w':=by
 obtain⟨w1,hw1⟩:=eX ((((w.alloc (.cells (srA u v q h) 96)).alloc (.cells (cmA c) 66)).alloc (.cells zeR 96)).alloc (.cells (anA ⟨0,[]⟩) 44))
 have HX:Hid (Ds w w1 u v q h c):=by rw[hw1];exact Ds.start w u v q h c
 have HSN:Hid (Sen f w):=S;obtain⟨n1,n8,nl⟩:=cH hb;have gx:xs.length<=1099511627776:=by omega
 have gy:ys.length<=1099511627776:=by omega
 have hx1:1<=xs.length:=by omega
 have hy1:1<=ys.length:=by omega
 have hk4:=(Hd.ok_all ok).1;have hk1:1<=h.ks.length:=by omega
 have gk:h.ks.length<=1099511627776:=by omega
 have hok:Sr.ok ⟨xs,ys,h⟩=true:=by simp[Sr.ok,hb,ok]
 have c1:Calls Tryz.prog 63 #[.agg (srA u v q h)] w1 fun e w'=>e=.returned (.bool true)/\bB w1 w':=by
  have:=gl u v q xs ys h w1 (hu.below HX.out.bl (Nat.le_refl _)) (hv.below HX.out.bl (Nat.le_refl _)) (hq.below HX.out.bl (Nat.le_refl _)) gx gy gk;rw[hok]at this;exact this
 have CF:Hid (∀wx,bB w wx->Calls Tryz.prog 72 #[.agg (srA u v q h)] wx fun e w'=>∃a b k,e=.returned (.agg (srA a b k h))/\aY w' wx.heap.size a b k xs ys h.ks/\bB wx w'):=fun wx e=>eS u v q xs ys h wx (hu.below e (Nat.le_refl _)) (hv.below e (Nat.le_refl _)) (hq.below e (Nat.le_refl _)) hx1 hy1 hk1 gx gy gk
 have CS':=fun wx (e:bB w wx)=>ue f st tt wx (S.below e) hs'
 have CT':=fun wx (e:bB w wx)=>zv f st tt wx (S.below e)
 obtain⟨EV,hEV⟩:=eX (rfV f st tt)
 have hI:∃t p,EV=.iface t p:=⟨_,_,hEV⟩
 rw[<-hEV]at CS' CT' CP';obtain⟨et,ep,rfl⟩:=hI;have CS:Hid (∀wx,bB w wx->Calls Tryz.prog 118 #[.iface et ep] wx fun e w'=>e=.returned (.int .i64 st)/\bB wx w'):=CS';have CT:Hid (∀wx,bB w wx->Calls Tryz.prog 119 #[.iface et ep] wx fun e w'=>e=.returned (.string ⟨tt.toArray⟩)/\bB wx w'):=CT';obtain⟨uo,uc,rfl⟩:=aa hu;obtain⟨vo,vc,rfl⟩:=aa hv;obtain⟨qo,qc,rfl⟩:=aa hq;have CP:Hid (∀wx,bB w wx->Calls Tryz.prog 117 #[.agg (srA (.slice uo xs.length uc) (.slice vo ys.length vc) (.slice qo h.ks.length qc) h),.int .i64 i,.agg #[.int .i64 c.o,.int .i64 c.p,.int .i64 c.a,.int .i64 c.b,.int .i64 c.k]] wx (fun e w'=>∃a b k,e=.returned (.tuple #[SRV a b k hh,.string ⟨tx.toArray⟩,.iface et ep])/\aY w' wx.heap.size a b k dx dy hh.ks/\bB wx w')):=CP';clear CP' CS' CT' hEV hs' hu hv hq S hb ok gx gy gk hx1 hy1 hk1 hk4 n1 n8 nl hok HSN;unfold SRV CV;conv in srA (.slice uo xs.length uc) (.slice vo ys.length vc) (.slice qo h.ks.length qc) _=>unfold srA
 unfold cmA;unfold srA cmA zeR anA S at hw1;go_enter Tryz.func77,Tryz.ntmps77;go_upto_region 1 with fail
 rw[<-hw1];clear hw1;go_wp2_with (refine ah Tryz.isR rfl _ rfl w.heap.size rfl _ rfl HX.out.st ?_)
 refine c1.mono ?_;rintro e w2 ⟨rfl,b2⟩;have X2:Hid (Ds w w2 (.slice uo xs.length uc) (.slice vo ys.length vc) (.slice qo h.ks.length qc) h c):=HX.out.next b2;clear HX b2 c1;have m0:w2.cell? ⟨w.heap.size+1,0,none⟩=some (.int .i64 c.o):=X2.out.cm.cell 0 rfl;have m1:w2.cell? ⟨w.heap.size+1,1,none⟩=some (.int .i64 c.p):=X2.out.cm.cell 1 rfl;have m2:w2.cell? ⟨w.heap.size+1,2,none⟩=some (.int .i64 c.a):=X2.out.cm.cell 2 rfl;have m3:w2.cell? ⟨w.heap.size+1,3,none⟩=some (.int .i64 c.b):=X2.out.cm.cell 3 rfl;have m4:w2.cell? ⟨w.heap.size+1,4,none⟩=some (.int .i64 c.k):=X2.out.cm.cell 4 rfl;go_wp2_with (refine ah Tryz.isR rfl _ rfl w.heap.size rfl _ rfl X2.out.st ?_)
 refine(CP.out _ X2.out.bl).mono ?_;rintro e w3 ⟨a,b,k,rfl,o3,b3⟩;obtain⟨ao,ac,rfl⟩:=o3.1.1.reads.form;obtain⟨bo,bc,rfl⟩:=o3.1.2.1.reads.form;obtain⟨ko,kc,rfl⟩:=o3.2.1.reads.form;unfold SRV;conv in srA (.slice ao dx.length ac) (.slice bo dy.length bc) (.slice ko hh.ks.length kc) hh=>unfold srA
 clear m0 m1 m2 m3 m4 CP;obtain⟨w4,hw4⟩:=eX (w3.alloc (.cells #[.slice ao dx.length ac,.slice bo dy.length bc,.slice ko hh.ks.length kc,.int .i64 hh.kd,.int .i64 hh.ho,.int .i64 hh.tu] 96))
 have b4:bB w3 w4:=by rw[hw4];exactbA
 have X4:Hid (Ds w w4 (.slice uo xs.length uc) (.slice vo ys.length vc) (.slice qo h.ks.length qc) h c):=(X2.out.next b3).next b4;have O4:Hid (aY w4 (w.heap.size+4) (.slice ao dx.length ac) (.slice bo dy.length bc) (.slice ko hh.ks.length kc) dx dy hh.ks/\StB w4 w3.heap.size 96 (srA (.slice ao dx.length ac) (.slice bo dy.length bc) (.slice ko hh.ks.length kc) hh)):=⟨(o3.mono X2.out.sz).below b4,by rw[hw4];exact StB.new _ _ _⟩
 clear X2 b3 b4 o3;go_upto_region 4 with fail
 rw[<-hw4];clear hw4;clear O4;go_wp2_with (refine ah Tryz.isR rfl _ rfl w.heap.size rfl _ rfl X4.out.st ?_)
 refine(CF.out _ X4.out.bl).mono ?_;rintro e w5 ⟨a5,b5',k5,rfl,o5,b5⟩;obtain⟨a5o,a5c,rfl⟩:=o5.1.1.reads.form;obtain⟨b5o,b5c,rfl⟩:=o5.1.2.1.reads.form;obtain⟨k5o,k5c,rfl⟩:=o5.2.1.reads.form;have X5:Hid (Ds w w5 (.slice uo xs.length uc) (.slice vo ys.length vc) (.slice qo h.ks.length qc) h c):=X4.out.next b5;have O5:Hid (aY w5 (w.heap.size+4) (.slice a5o xs.length a5c) (.slice b5o ys.length b5c) (.slice k5o h.ks.length k5c) xs ys h.ks):=o5.mono X4.out.sz;clear X4 b5 o5 CF;go_wp2_with fail
 refine(CS.out _ X5.out.bl).mono ?_;rintro e w6 ⟨rfl,b6⟩;have X6:Hid (Ds w w6 (.slice uo xs.length uc) (.slice vo ys.length vc) (.slice qo h.ks.length qc) h c):=X5.out.next b6;have O6:Hid (aY w6 (w.heap.size+4) (.slice a5o xs.length a5c) (.slice b5o ys.length b5c) (.slice k5o h.ks.length k5c) xs ys h.ks):=O5.out.below b6;clear X5 O5 b6 CS;go_wp2_with fail
 refine(CT.out _ X6.out.bl).mono ?_;rintro e w7 ⟨rfl,b7⟩;have X7:Hid (Ds w w7 (.slice uo xs.length uc) (.slice vo ys.length vc) (.slice qo h.ks.length qc) h c):=X6.out.next b7;have O7:Hid (aY w7 (w.heap.size+4) (.slice a5o xs.length a5c) (.slice b5o ys.length b5c) (.slice k5o h.ks.length k5c) xs ys h.ks):=O6.out.below b7;clear X6 O6 b7 CT;go_wp2_with (first
  |(refine ae Tryz.isR rfl _ _ rfl (w.heap.size+1+1) (srA (.slice a5o xs.length a5c) (.slice b5o ys.length b5c) (.slice k5o h.ks.length k5c) h) zeR rfl rfl rfl rfl (ec h rfl rfl rfl) X7.out.rs ?_;intro w8 s8 g8;have ra8:=X7.out.ra.kept g8 (by simp))
  |(refine ae Tryz.isA rfl _ _ rfl (w.heap.size+1+1+1) (anA ⟨st,tt⟩) (anA ⟨0,[]⟩) rfl rfl rfl rfl (by simp[anA,S,Value.oneCell']) ra8 ?_;intro w9 s9 g9))
 refine bodyPost_ret (fL rfl _ _ (w.heap.size+1+1) (w.heap.size+1+1+1) _ _ rfl rfl rfl rfl (s8.kept g9 (by simp)) s9) rfl ?_;exact⟨_,_,_,rfl,X7.out.fin O7.out (Nat.le_refl _) g8 g9⟩
theorem wo (u v q:Value) (xs ys:List Int) (h:Hd) (i:Int) (c:Cm) (w:World) (hu:ag w u xs) (hv:ag w v ys) (hq:ag w q h.ks) (gx:xs.length<=1099511627776) (gy:ys.length<=1099511627776) (gk:h.ks.length<=1099511627776) (hok:Sr.ok ⟨xs,ys,h⟩=false):
  Calls Tryz.prog 77 #[SRV u v q h,.int .i64 i,CV c] w fun e w'=>∃a b k,e=.returned (.tuple #[SRV a b k Hd.zero,AV ⟨7,[]⟩])/\aY w' w.heap.size a b k [] [] Hd.zero.ks/\bB w w':=by
 obtain⟨w1,hw1⟩:=eX ((((w.alloc (.cells (srA u v q h) 96)).alloc (.cells (cmA c) 66)).alloc (.cells zeR 96)).alloc (.cells (anA ⟨0,[]⟩) 44))
 have HX:Hid (Ds w w1 u v q h c):=by rw[hw1];exact Ds.start w u v q h c
 have c1:Calls Tryz.prog 63 #[.agg (srA u v q h)] w1 fun e w'=>e=.returned (.bool false)/\bB w1 w':=by
  have:=gl u v q xs ys h w1 (hu.below HX.out.bl (Nat.le_refl _)) (hv.below HX.out.bl (Nat.le_refl _)) (hq.below HX.out.bl (Nat.le_refl _)) gx gy gk;rw[hok]at this;exact this
 obtain⟨uo,uc,rfl⟩:=aa hu;obtain⟨vo,vc,rfl⟩:=aa hv;obtain⟨qo,qc,rfl⟩:=aa hq;clear hu hv hq gx gy gk hok;unfold SRV CV;conv in srA (.slice uo xs.length uc) (.slice vo ys.length vc) (.slice qo h.ks.length qc) _=>unfold srA
 unfold cmA;unfold srA cmA zeR anA S at hw1;go_enter Tryz.func77,Tryz.ntmps77;go_upto_region 1 with fail
 rw[<-hw1];clear hw1;go_wp2_with (refine ah Tryz.isR rfl _ rfl w.heap.size rfl _ rfl HX.out.st ?_)
 refine c1.mono ?_;rintro e w2 ⟨rfl,b2⟩;have X2:Hid (Ds w w2 (.slice uo xs.length uc) (.slice vo ys.length vc) (.slice qo h.ks.length qc) h c):=HX.out.next b2;clear HX b2 c1;go_wp2_with (first
  |(refine ae Tryz.isR rfl _ _ rfl (w.heap.size+1+1) zeR zeR rfl rfl rfl rfl (ec Hd.zero rfl rfl rfl) X2.out.rs ?_;intro w7 s7 g7;have ra7:=X2.out.ra.kept g7 (by simp))
  |(refine ae Tryz.isA rfl _ _ rfl (w.heap.size+1+1+1) (anA ⟨7,[]⟩) (anA ⟨0,[]⟩) rfl rfl rfl rfl (by simp[anA,S,Value.oneCell']) ra7 ?_;intro w8 s8 g8))
 refine bodyPost_ret (fL rfl _ _ (w.heap.size+1+1) (w.heap.size+1+1+1) _ _ rfl rfl rfl rfl (s7.kept g8 (by simp)) s8) rfl ?_;exact⟨_,_,_,rfl,X2.out.fin (aY.nil w2 (w.heap.size+4)) (Nat.le_refl _) g7 g8⟩
def nj (w:World):Prop:=Tab w/\∃f,Sen f w
theorem nj.below {w w':World} (h:nj w) (b:bB w w'):nj w':=by
 obtain⟨t,f,s⟩:=h;exact⟨t.below b,f,s.below b⟩
theorem pF (u v q:Value) (xs ys:List Int) (h:Hd) (i:Int) (c:Cm) (w:World) (hu:ag w u xs) (hv:ag w v ys) (hq:ag w q h.ks) (gx:xs.length<=1099511627776) (gy:ys.length<=1099511627776) (gk:h.ks.length<=1099511627776) (ht:nj w):
  Calls Tryz.prog 77 #[SRV u v q h,.int .i64 i,CV c] w fun e w'=>∃a b k,e=.returned (.tuple #[SRV a b k (Sr.did ⟨xs,ys,h⟩ i c).1.h,AV (Sr.did ⟨xs,ys,h⟩ i c).2])/\aY w' w.heap.size a b k (Sr.did ⟨xs,ys,h⟩ i c).1.xs (Sr.did ⟨xs,ys,h⟩ i c).1.ys (Sr.did ⟨xs,ys,h⟩ i c).1.h.ks/\bB w w':=by
 obtain⟨tb,f,S⟩:=ht;cases hok:Sr.ok ⟨xs,ys,h⟩with
 |false=>
  have e:Sr.did ⟨xs,ys,h⟩ i c=(Sr.zero,⟨7,[]⟩):=by unfold Sr.did;rw[hok];rfl
  rw[e];exact wo u v q xs ys h i c w hu hv hq gx gy gk hok
 |true=>
  have hbo:au xs ys=true/\h.ok=true:=by
   have e:(au xs ys&&h.ok)=true:=hok;exact Bool.and_eq_true_iff.1 e
  obtain⟨hb,ok⟩:=hbo;have ru:∀wx,bB w wx->ag wx u xs:=fun wx e=>hu.below e (Nat.le_refl _)
  have rv:∀wx,bB w wx->ag wx v ys:=fun wx e=>hv.below e (Nat.le_refl _)
  have rq:∀wx,bB w wx->ag wx q h.ks:=fun wx e=>hq.below e (Nat.le_refl _)
  cases hn:(inI i 0 3&&c.ok)with
  |false=>
   have e:Sr.did ⟨xs,ys,h⟩ i c=(⟨xs,ys,h⟩,⟨7,[]⟩):=by unfold Sr.did;rw[hok,hn];rfl
   rw[e];exact lh f u v q xs ys h i c w hu hv hq hb ok S 7 [] (.inr (.inr (.inr rfl))) [] [] Hd.zero [] (fun wx e=>rX f u v q xs ys h i c wx (ru wx e) (rv wx e) (rq wx e) (S.below e) hn)
  |true=>
   obtain⟨hi,hc⟩:=Bool.and_eq_true_iff.1 hn;have ed:Sr.did ⟨xs,ys,h⟩ i c=Sr.doing ⟨xs,ys,h⟩ i c:=by unfold Sr.did;rw[hok,hn];rfl
   rw[ed];have hrw:=Fc hc;by_cases h5:c.o<=5
   ·rw[decide_eq_true h5]at hrw
    have hbl:∀(dx dy:List Int) (hh:Hd) (tx:Bs) (EV:Value),(∀wx,bB w wx->Calls Tryz.prog 158 #[SRV u v q h,.int .i64 i,CV c] wx (gX wx dx dy hh tx EV))->∀wx,bB w wx->Calls Tryz.prog 117 #[SRV u v q h,.int .i64 i,CV c] wx (gX wx dx dy hh tx EV):=by
     intro dx dy hh tx EV CP wx e;have CP2:∀wy,bB wx wy->Calls Tryz.prog 158 #[SRV u v q h,.int .i64 i,CV c] wy (gX wy dx dy hh tx EV):=fun wy k=>CP wy (e.trans (k.mono e.size))
     cases hrd:c.rd with
     |true=>
      cases hwr:c.wr with
      |false=>exact rY f u v q xs ys h i c wx (ru wx e) (rv wx e) (rq wx e) (S.below e) hi hc hrd hwr dx dy hh tx EV CP2
      |true=>
       have e1:c.o=1:=by
        unfold Cm.rd at hrd;rw[hc]at hrd;simpa using hrd
       unfold Cm.wr at hwr;rw[hc,e1]at hwr;cases hwr
     |false=>
      have hwr:c.wr=true:=by rw[hrd]at hrw;simpa using hrw
      exact pG f u v q xs ys h i c wx (ru wx e) (rv wx e) (rq wx e) (S.below e) hi hc hrd hwr dx dy hh tx EV CP2
    cases hm:h.may i (decide (c.o≠1))with
    |false=>
     have e:Sr.doing ⟨xs,ys,h⟩ i c=(⟨xs,ys,h⟩,⟨3,[]⟩):=by
      unfold Sr.doing;rw[if_neg (by omega)];dsimp only;rw[hm,if_neg (by decide)]
     rw[e];have hM:h.May i c.wr=false:=by rw[ym ok hi,Dw hc h5];exact hm
     refine lh f u v q xs ys h i c w hu hv hq hb ok S 3 [] (.inr (.inr (.inl rfl))) [] [] Hd.zero [] (hbl _ _ _ _ _ (fun wx e=>?_));refine(wt f u v q xs ys h i c wx (ru wx e) (rv wx e) (rq wx e) hb ok (S.below e) hM).mono ?_;rintro e w' ⟨rfl,b⟩;exact⟨_,_,_,rfl,aY.nil _ _,b⟩
    |true=>
     have e:Sr.doing ⟨xs,ys,h⟩ i c=(⟨(bn xs ys c).1,(bn xs ys c).2.1,h⟩,(bn xs ys c).2.2):=by
      unfold Sr.doing;rw[if_neg (by omega)];dsimp only;rw[hm,if_pos rfl]
     have hM:h.May i c.wr=true:=by rw[ym ok hi,Dw hc h5];exact hm
     have hD:=BP hb hc h5;have hst:=BQ xs ys c;have CB:=fun wx (e:bB w wx)=>uf f u v q xs ys h i c wx (ru wx e) (rv wx e) (rq wx e) hb ok (S.below e) (tb.below e) hM (by rw[hD];exact hst)
     rw[hD]at CB;by_cases h0:(bn xs ys c).2.2.st=0
     ·have CP:=hbl (bn xs ys c).1 (bn xs ys c).2.1 h (bn xs ys c).2.2.tx .nilIface (fun wx e=>by have:=CB wx e;rw[h0,rU]at this;exact this)
      have:=ju f u v q xs ys h i c w hu hv hq hb ok S _ _ _ _ CP;rw[e];dsimp only;rw[show(bn xs ys c).2.2=⟨0,(bn xs ys c).2.2.tx⟩from by rw[<-h0]];exact this
     ·have ht4:(bn xs ys c).2.2.st=1∨(bn xs ys c).2.2.st=2∨(bn xs ys c).2.2.st=3∨(bn xs ys c).2.2.st=7:=by
       rcases hst with k|k|k|k
       ·exact absurd k h0
       ·exact .inl k.1
       ·exact .inr (.inl k)
       ·exact .inr (.inr (.inr k.1))
      have CP:=hbl (bn xs ys c).1 (bn xs ys c).2.1 h (bn xs ys c).2.2.tx (rfV f (bn xs ys c).2.2.st (bn xs ys c).2.2.tx) (fun wx e=>by have:=CB wx e;rw[ua f h0]at this;exact this);have:=lh f u v q xs ys h i c w hu hv hq hb ok S _ _ ht4 _ _ _ _ CP;have hsame:=Dj (s:=⟨xs,ys,h⟩) (i:=i) (c:=c) hok (by rw[ed,e];exact h0);rw[ed]at hsame;have h2:(Sr.doing ⟨xs,ys,h⟩ i c).2=(bn xs ys c).2.2:=by rw[e]
      rw[hsame,h2];exact this
   ·rw[decide_eq_false h5]at hrw
    have hrd:c.rd=false:=by cases e:c.rd with|false=>rfl|true=>rw[e]at hrw;cases hrw
    have hwr:c.wr=false:=by rw[hrd]at hrw;exact hrw
    have e:Sr.doing ⟨xs,ys,h⟩ i c=(⟨xs,ys,(h.act i c).1⟩,(h.act i c).2):=by unfold Sr.doing;rw[if_pos (by omega)]
    by_cases h11:c.o=11
    ·have ea:h.act i c=(h,⟨0,h.keysT⟩):=by unfold Hd.act;rw[h11];rfl
     rw[e,ea];exact ju f u v q xs ys h i c w hu hv hq hb ok S _ _ _ _ (fun wx e=>oC f u v q xs ys h i c wx (ru wx e) (rv wx e) (rq wx e) (S.below e) hb ok (tb.below e) hi hc hrd hwr h11)
    ·by_cases h12:c.o=12
     ·have ea:h.act i c=(h,⟨0,h.holdT⟩):=by unfold Hd.act;rw[h12];rfl
      rw[e,ea];exact ju f u v q xs ys h i c w hu hv hq hb ok S _ _ _ _ (fun wx e=>lY f u v q xs ys h i c wx (ru wx e) (rv wx e) (rq wx e) (S.below e) hb ok (tb.below e) hi hc hrd hwr h12)
     ·obtain⟨a1,a2,a3,a4⟩:=z8 ok hi hc (by omega) h11 h12
      have CB:=fun wx (e:bB w wx)=>rW f u v q xs ys h i c wx (ru wx e) (rv wx e) (rq wx e) hb ok (S.below e)
      rw[a1]at CB;by_cases h0:(h.act i c).2.st=0
      ·have CP:∀wx,bB w wx->Calls Tryz.prog 117 #[SRV u v q h,.int .i64 i,CV c] wx (gX wx xs ys (h.act i c).1 [] .nilIface):=fun wx e=>
        lm f u v q xs ys h i c wx (ru wx e) (rv wx e) (rq wx e) (S.below e) hi hc hrd hwr h11 h12 _ _ _ _ _ (fun wy k=>by have:=CB wy (e.trans (k.mono e.size));rw[h0,rU,a3 h0]at this;exact this)
       have:=ju f u v q xs ys h i c w hu hv hq hb ok S _ _ _ _ CP;rw[e];dsimp only;rw[show(h.act i c).2=⟨0,[]⟩from by rw[<-h0,<-a2]];exact this
      ·have ht4:(h.act i c).2.st=1∨(h.act i c).2.st=2∨(h.act i c).2.st=3∨(h.act i c).2.st=7:=by
        rcases a4 with k|k|k
        ·exact absurd k h0
        ·exact .inl k
        ·exact .inr (.inr (.inl k))
       have CP:∀wx,bB w wx->Calls Tryz.prog 117 #[SRV u v q h,.int .i64 i,CV c] wx (gX wx xs ys (h.after i c).1 [] (rfV f (h.act i c).2.st [])):=fun wx e=>
        lm f u v q xs ys h i c wx (ru wx e) (rv wx e) (rq wx e) (S.below e) hi hc hrd hwr h11 h12 _ _ _ _ _ (fun wy k=>by have:=CB wy (e.trans (k.mono e.size));rw[ua f h0]at this;exact this)
       have:=lh f u v q xs ys h i c w hu hv hq hb ok S _ _ ht4 _ _ _ _ CP;rw[e];dsimp only;rw[yl h0];rw[show(h.act i c).2=⟨(h.act i c).2.st,[]⟩from by rw[<-a2]];exact this
section
open Go.RowKit
def nT (l:List Int) (i j:Nat):List Int:=(l.set i (l.getD j 0)).set j (l.getD i 0)
theorem vD (l:List Int) (i j:Nat) (hi:i<l.length) (hj:j<l.length):(nT l i j).Perm l:=by
 have e1:l.getD i 0=l[i]:=by simp[hi]
 have e2:l.getD j 0=l[j]:=by simp[hj]
 unfold nT;rw[e1,e2];exact List.set_set_perm hi hj
def fh (s:Int) (k:Nat):List Int:=((List.range k).filter (fun j:Nat=>inB s (j:Int))).map (fun j:Nat=>(j:Int))
theorem jq (s:Int) (k:Nat):fh s (k+1)=if inB s (k:Int)then fh s k++[(k:Int)]else fh s k:=by
 unfold fh;rw[List.range_succ,List.filter_append];by_cases h:inB s (k:Int)=true
 ·simp[h]
 ·simp[h]
theorem iD {s:Int} {k:Nat} {x:Int} (h:x∈fh s k):0<=x/\x<k:=by
 unfold fh at h;simp only[List.mem_map,List.mem_filter,List.mem_range]at h;obtain⟨j,⟨h1, -⟩,rfl⟩:=h;omega
theorem AH (s:Int) (k:Nat) (x:Int):x∈fh s k↔0<=x/\x<k/\inB s x=true:=by
 unfold fh;simp only[List.mem_map,List.mem_filter,List.mem_range];constructor
 ·rintro⟨j,⟨h1,h2⟩,rfl⟩
  exact⟨by omega,by omega,h2⟩
 ·rintro⟨h1,h2,h3⟩
  exact⟨x.toNat,⟨by omega,by rw[Int.toNat_of_nonneg h1];exact h3⟩,by omega⟩
theorem vF (s:Int) (k:Nat):(fh s k).Nodup:=by
 induction k with
 |zero=>simp[fh]
 |succ k ih=>
  rw[jq];split
  ·rw[List.nodup_append]
   refine⟨ih,by simp,?_⟩;intro a ha b hb;have:=iD ha;simp at hb;omega
  ·exact ih
def iQ (l:List Int):Int:=l.foldl cq 0
theorem vG (l:List Int):∀s:Int,0<=s->s<256->(∀x∈l,0<=x/\x<8)->0<=l.foldl cq s/\l.foldl cq s<256/\∀k,inB (l.foldl cq s) k=(inB s k||decide (k∈l)):=by
 induction l with
 |nil=>intro s h0 h1 _;simp[h0,h1]
 |cons a l ih=>
  intro s h0 h1 hb;have ha:=hb a (by simp);have h2:=vj (i:=a) h0 h1;have h3:cq s a<256:=by
   obtain⟨n,rfl⟩:=dM h0;obtain⟨j,rfl⟩:=dM ha.1;have:=pj n (by omega) j (by omega);omega
  obtain⟨r0,r1,r2⟩:=ih (cq s a) h2 h3 (fun x hx=>hb x (by simp[hx]));refine⟨r0,r1,fun k=>?_⟩;rw[List.foldl_cons,r2,Dd h0 h1,Bool.eq_iff_iff];simp only[Bool.or_eq_true,Bool.and_eq_true,beq_iff_eq,decide_eq_true_eq,List.mem_cons];constructor
  ·rintro((h|⟨⟨h, -⟩, -⟩)|h)
   ·exact .inl h
   ·exact .inr (.inl h)
   ·exact .inr (.inr h)
  ·rintro(h|h|h)
   ·exact .inl (.inl h)
   ·exact .inl (.inr ⟨⟨h,ha.1⟩,ha.2⟩)
   ·exact .inr h
theorem xZ {l:List Int} (hb:∀x∈l,0<=x/\x<8):0<=iQ l/\iQ l<256/\∀k,inB (iQ l) k=decide (k∈l):=by
 obtain⟨h0,h1,h2⟩:=vG l 0 (by omega) (by omega) hb;refine⟨h0,h1,fun k=>?_⟩;unfold iQ;rw[h2];have:inB 0 k=false:=by
  by_cases hk:0<=k/\k<8
  ·obtain⟨m,rfl⟩:=dM hk.1
   have:∀m:Nat,m<8->inB 0 (m:Int)=false:=by decide+kernel
   exact this m (by omega)
  ·exact gV (by omega)
 rw[this];rfl
theorem qj:∀n:Nat,n<256->((List.range 8).foldl (fun a k=>a+if inN n k then 2^k else 0) 0)=n:=by decide+kernel
theorem Ck {a b:Int} (ha0:0<=a) (ha:a<256) (hb0:0<=b) (hb:b<256) (h:∀k:Nat,k<8->inB a k=inB b k):a=b:=by
 obtain⟨n,rfl⟩:=dM ha0;obtain⟨m,rfl⟩:=dM hb0;have e1:=qj n (by omega);have e2:=qj m (by omega);have h':∀k:Nat,k<8->inN n k=inN m k:=by
  intro k hk;have:=h k hk;rw[ig ha0 ha (by omega) (by omega),ig hb0 hb (by omega) (by omega)]at this;simpa using this
 have e3:((List.range 8).foldl (fun a k=>a+if inN n k then 2^k else 0) 0)=((List.range 8).foldl (fun a k=>a+if inN m k then 2^k else 0) 0):=by
  have f:∀(l:List Nat) (s:Nat),(∀k∈l,k<8)->l.foldl (fun a k=>a+if inN n k then 2^k else 0) s=l.foldl (fun a k=>a+if inN m k then 2^k else 0) s:=by
   intro l
   induction l with
   |nil=>intro s _;rfl
   |cons x l ih=>
    intro s hl;rw[List.foldl_cons,List.foldl_cons,h' x (hl x (by simp))];exact ih _ (fun k hk=>hl k (by simp[hk]))
  exact f _ 0 (fun k hk=>by simpa using hk)
 rw[e1,e2]at e3;rw[e3]
theorem tm (n k:Nat):inN n k=n.testBit k:=by
 unfold inN;rw[Nat.testBit_eq_decide_div_mod_eq];rw[Bool.eq_iff_iff];simp
theorem DN {a b:Int} (ha0:0<=a) (ha:a<256) (hb0:0<=b) (hb:b<256) (k:Nat) (hk:k<8):0<=orI a b/\orI a b<256/\inB (orI a b) k=(inB a k||inB b k):=by
 obtain⟨n,rfl⟩:=dM ha0;obtain⟨m,rfl⟩:=dM hb0;have l:n|||m<2^8:=Nat.or_lt_two_pow (by omega) (by omega)
 have e:orI (n:Int) (m:Int)=((n|||m:Nat):Int):=by simp[orI]
 rw[e];have h1:(0:Int)<=((n|||m:Nat):Int):=by omega
 have h2:((n|||m:Nat):Int)<256:=by omega
 refine⟨h1,h2,?_⟩;rw[ig h1 h2 (by omega) (by omega),ig ha0 ha (by omega) (by omega),ig hb0 hb (by omega) (by omega)];simp only[Int.toNat_natCast,tm,Nat.testBit_or]
structure dT (l:List Int) (s:Int) (k:Nat) (r:List Int):Prop where
 nodup:r.Nodup
 mem:∀x,x∈r↔x∈l∨x∈fh s k
 bag:l=[]->r=fh s k
theorem dT.start {l:List Int} (h:l.Nodup) (s:Int):dT l s 0 l:=⟨h,by simp[fh],fun e=>by simp[e,fh]⟩
theorem dT.skip {l r:List Int} {s:Int} {k:Nat} (h:dT l s k r) (hn:inB s (k:Int)=false):dT l s (k+1) r:=by
 have e:fh s (k+1)=fh s k:=by rw[jq,hn];rfl
 exact⟨h.nodup,by rw[e];exact h.mem,by rw[e];exact h.bag⟩
theorem dT.there {l r:List Int} {s:Int} {k:Nat} (h:dT l s k r) (hi:inB s (k:Int)=true) (hc:(k:Int)∈r):dT l s (k+1) r:=by
 have e:fh s (k+1)=fh s k++[(k:Int)]:=by rw[jq,hi];rfl
 refine⟨h.nodup,?_,?_⟩
 ·intro x
  rw[e,h.mem,List.mem_append,List.mem_singleton];constructor
  ·rintro(h1|h1)
   ·exact .inl h1
   ·exact .inr (.inl h1)
  ·rintro(h1|h1|h1)
   ·exact .inl h1
   ·exact .inr h1
   ·rw[h1];exact(h.mem _).1 hc
 ·intro el
  rw[h.bag el]at hc;have:=iD hc;omega
theorem dT.push {l r q:List Int} {s:Int} {k:Nat} (h:dT l s k r) (hi:inB s (k:Int)=true) (hc:(k:Int)∉r) (p:q.Perm (r++[(k:Int)])) (hs:(∀y∈r,y<=(k:Int))->q=r++[(k:Int)]):dT l s (k+1) q:=by
 have e:fh s (k+1)=fh s k++[(k:Int)]:=by rw[jq,hi];rfl
 refine⟨?_,?_,?_⟩
 ·rw[p.nodup_iff,List.nodup_append]
  refine⟨h.nodup,by simp,?_⟩;intro a ha b hb;simp at hb;rintro rfl;exact hc (hb▸ha)
 ·intro x
  rw[e,p.mem_iff,List.mem_append,List.mem_append,h.mem,or_assoc]
 ·intro el
  have hr:=h.bag el;rw[e,<-hr];refine hs (fun y hy=>?_);rw[hr]at hy;have:=iD hy;omega
theorem dT.bound {l r:List Int} {s:Int} {k:Nat} (h:dT l s k r) (hl:∀x∈l,0<=x/\x<8) (hk:k<=8):∀x∈r,0<=x/\x<8:=by
 intro x hx;rcases(h.mem x).1 hx with h1|h1
 ·exact hl x h1
 ·have:=iD h1
  omega
theorem tq {l:List Int} (h:l.Nodup) (hl:∀x∈l,0<=x/\x<8):l.length<=8:=by
 have h1:l ⊆ (List.range 8).map (fun j:Nat=>(j:Int)):=by
  intro x hx;have:=hl x hx;rw[List.mem_map];exact⟨x.toNat,by simp;omega,by omega⟩
 have:=h.length_le_of_subset h1;simpa using this
theorem El {s:Int} (x:Int):x∈fh s 8↔inB s x=true:=by
 rw[AH];constructor
 ·exact fun h=>h.2.2
 ·intro h
  have:=Dc h;exact⟨this.2.2.1,by omega,h⟩
theorem yO {d s:Int} {r:List Int} (hd0:0<=d) (hd:d<256) (hs0:0<=s) (hs:s<256) (h:dT (fh d 8) s 8 r):iQ r=orI d s:=by
 have hb:=h.bound (fun x hx=>by have:=iD hx;omega) (Nat.le_refl _);obtain⟨h0,h1,h2⟩:=xZ hb;have o:=fun k hk=>DN hd0 hd hs0 hs k hk
 refine Ck h0 h1 (o 0 (by omega)).1 (o 0 (by omega)).2.1 (fun k hk=>?_);rw[h2,(o k hk).2.2,Bool.eq_iff_iff];simp only[decide_eq_true_eq,Bool.or_eq_true];rw[h.mem,El,El]
theorem yP:∀i:Nat,i<8->(cq 0 (i:Int)).toNat<256/\0<=cq 0 (i:Int)/\∀n:Nat,n<256->orI n (cq 0 i)=cq n i:=by decide+kernel
theorem yQ (l:List Int) (j:Nat) (h:j<l.length):iQ (l.take (j+1))=cq (iQ (l.take j)) (l.getD j 0):=by
 unfold iQ;rw[List.take_succ_eq_append_getElem h,List.foldl_append];simp[h]
end
structure HpB (w:World) (base g:Nat) (v:Value) (l:List Int):Prop where
 st:StB w g 140 #[v]
 own:Own w base v l
 le:base<=g
theorem HpB.below {w w':World} {base g:Nat} {v:Value} {l:List Int} (h:HpB w base g v l) (b:bB w w'):HpB w' base g v l:=⟨h.st.below b,h.own.below b,h.le⟩
theorem HpB.drew {w w':World} {base g n:Nat} {v:Value} {l:List Int} (h:HpB w base g v l) (e:w'=w.drewN n):HpB w' base g v l:=by subst e;exact⟨h.st,h.own,h.le⟩
theorem HpB.cell {w:World} {base g:Nat} {v:Value} {l:List Int} (h:HpB w base g v l):w.cell? ⟨g,0,none⟩=some v:=h.st.cell 0 rfl
theorem HpB.grow {w w':World} {base g:Nat} {u v:Value} {l m:List Int} (h:HpB w base g v l) (o:Own w' base u m) (G:w.grownBy w' v.ownBlock):StB w' g 140 #[v]/\Own w' base u m/\Below base w w':=by
 refine⟨h.st.kept G (fun e=>h.own.ne h.st (by decide) e.symm),o,⟨G.os,G.tape,G.output,G.size,fun k hk=>G.block k ?_ (fun e=>?_)⟩⟩
 ·have:=h.st.lt;have:=h.le;omega
 ·have:=(h.own.lt k e.symm).1;omega
theorem HpB.put {w:World} {base g:Nat} {u v:Value} {m:List Int} (h:StB w g 140 #[v]) (o:Own w base u m) (hle:base<=g):HpB (w.setCell ⟨g,0,none⟩ u) base g u m/\Below base w (w.setCell ⟨g,0,none⟩ u):=
 ⟨⟨h.put 0 u rfl,o.putBy h (by decide) (ai w g 0 u),hle⟩,(Below.refl base w).setCell hle _⟩
theorem HpB.swap {w w':World} {base g:Nat} {v:Value} {l m:List Int} (h:HpB w base g v l) (o:Own w' base v m) (G:w.grownBy w' v.ownBlock):HpB w' base g v m/\Below base w w':=by
 refine⟨⟨h.st.kept G (fun e=>h.own.ne h.st (by decide) e.symm),o,h.le⟩,⟨G.os,G.tape,G.output,G.size,fun k hk=>G.block k ?_ (fun e=>?_)⟩⟩
 ·have:=h.st.lt;have:=h.le;omega
 ·have:=(h.own.lt k e.symm).1;omega
def AO (g:Nat):Value:=.iface 186 (.pointer (some ⟨g,0,none⟩))
theorem Tryz.nilLen (a:Addr) (w:World):(nilAhead 464 186 (.pointer (some a)) "Len").run Tryz.prog w=.ok (some false) w:=by kernel_rfl
theorem Tryz.nilLess (a:Addr) (w:World):(nilAhead 464 186 (.pointer (some a)) "Less").run Tryz.prog w=.ok (some false) w:=by kernel_rfl
theorem Tryz.nilSwap (a:Addr) (w:World):(nilAhead 464 186 (.pointer (some a)) "Swap").run Tryz.prog w=.ok (some false) w:=by kernel_rfl
theorem Tryz.nilPush (a:Addr) (w:World):(nilAhead 464 186 (.pointer (some a)) "Push").run Tryz.prog w=.ok (some false) w:=by kernel_rfl
theorem Tryz.methPush (a:Addr) (w:World):(method 464 186 (.pointer (some a)) "Push").run Tryz.prog w=.ok (319,.pointer (some a)) w:=by kernel_rfl
theorem Tryz.atLen (a:Addr) (w:World):(method 464 186 (.pointer (some a)) "Len").run Tryz.prog w=(Sem.load .plain a fun v=>.pure (312,v)).run Tryz.prog w:=by kernel_rfl
theorem Tryz.atLess (a:Addr) (w:World):(method 464 186 (.pointer (some a)) "Less").run Tryz.prog w=(Sem.load .plain a fun v=>.pure (313,v)).run Tryz.prog w:=by kernel_rfl
theorem Tryz.atSwap (a:Addr) (w:World):(method 464 186 (.pointer (some a)) "Swap").run Tryz.prog w=(Sem.load .plain a fun v=>.pure (314,v)).run Tryz.prog w:=by kernel_rfl
theorem Tryz.methLen {a:Addr} {w:World} {v:Value} (h:w.cell? a=some v):(method 464 186 (.pointer (some a)) "Len").run Tryz.prog w=.ok (312,v) w:=by
 rw[Tryz.atLen];simp[Sem.run,h]
theorem Tryz.methLess {a:Addr} {w:World} {v:Value} (h:w.cell? a=some v):(method 464 186 (.pointer (some a)) "Less").run Tryz.prog w=.ok (313,v) w:=by
 rw[Tryz.atLess];simp[Sem.run,h]
theorem Tryz.methSwap {a:Addr} {w:World} {v:Value} (h:w.cell? a=some v):(method 464 186 (.pointer (some a)) "Swap").run Tryz.prog w=.ok (314,v) w:=by
 rw[Tryz.atSwap];simp[Sem.run,h]
theorem Tryz.asInt (v:Value) (w:World):(Instr.typeAssert (.iface 2 v) 20 2 false).run Tryz.prog w=.ok v w:=by kernel_rfl
theorem yW (v:Value) (l:List Int) (i j:Nat) (w:World) (h:ag w v l) (hi:i<l.length) (hj:j<l.length):
  Calls Tryz.prog 313 #[v,.int .i64 i,.int .i64 j] w fun e w'=>e=.returned (.bool (decide (l.getD i 0<l.getD j 0)))/\∃n,w'=w.drewN n:=by
 obtain⟨ao,cap,rfl⟩:=aa h;obtain⟨-,hc1,hc2,hcell⟩:=aK h;unfold maxLen at hc2;obtain⟨b,off,rfl,k1⟩:=hcell i hi;obtain⟨b',off',e',k2⟩:=hcell j hj;cases e';obtain⟨x,hx⟩:=eX (l.getD i 0)
 obtain⟨y,hy⟩:=eX (l.getD j 0)
 rw[<-hx]at k1;rw[<-hy]at k2;rw[<-hx,<-hy];obtain⟨n,hn⟩:=eX l.length
 rw[<-hn]at hi hj hc1⊢;clear hcell h hx hy hn;go_enter Tryz.func313,Tryz.ntmps313;go_wp2
 go_quiet (fail)
 go_wp2;go_ret;exact⟨rfl,⟨_,rfl⟩⟩
theorem yX (v:Value) (l:List Int) (i j:Nat) (w:World) (base:Nat) (h:Own w base v l) (hi:i<l.length) (hj:j<l.length):
  Calls Tryz.prog 314 #[v,.int .i64 i,.int .i64 j] w fun e w'=>e=.returned (.tuple #[])/\Own w' base v (nT l i j)/\w.grownBy w' v.ownBlock:=by
 obtain⟨g,cap,rfl,hbg,hgl⟩:=World.ownsRow.form h (by omega);obtain⟨-,hc1,hc2,hcell⟩:=aK h.reads;unfold maxLen at hc2;obtain⟨b,off,e1,k1⟩:=hcell i hi;obtain⟨b',off',e2,k2⟩:=hcell j hj;cases e1;cases e2;simp only[Nat.zero_add]at k1 k2;obtain⟨f1, -,o1⟩:=h.put rfl i hi (l.getD j 0);have hl1:(l.set i (l.getD j 0)).length=l.length:=by simp
 obtain⟨f2,⟨y2,k3⟩,o2⟩:=Own.put o1 (by simp) j hj (l.getD i 0);have HO:Hid (Own ((w.setCell ⟨g,i,none⟩ (.int .i64 (l.getD j 0))).setCell ⟨g,j,none⟩ (.int .i64 (l.getD i 0))) base (.slice (some ⟨g,0,none⟩) l.length cap) (nT l i j)):=o2;have HG:Hid (w.grownBy ((w.setCell ⟨g,i,none⟩ (.int .i64 (l.getD j 0))).setCell ⟨g,j,none⟩ (.int .i64 (l.getD i 0))) (some g)):=(ai w g i _).trans (ai _ g j _);obtain⟨x,hx⟩:=eX (l.getD i 0)
 obtain⟨y,hy⟩:=eX (l.getD j 0)
 obtain⟨s,hs⟩:=eX (nT l i j)
 rw[<-hs]at HO⊢;rw[<-hx,<-hy]at HO HG;rw[<-hx]at k1;rw[<-hy]at k2 f2 k3;obtain⟨n,hn⟩:=eX l.length
 rw[<-hn]at hi hj hc1 HO⊢;clear hcell h hx hy hn o1 o2 hs hl1;go_enter Tryz.func314,Tryz.ntmps314;go_wp2
 go_region
 go_wp2
 go_end0
 refine⟨rfl,?_,?_⟩
 ·exact HO.out.below (Below.refl _ _).drew
 ·have:=HG.out
  exact⟨this.os,this.tape,this.output,this.size,this.block⟩
theorem Own.lst {w:World} {x:Int}:∀j,j<[x].length->(w.alloc (.cells #[.int .i64 x] 2)).cell? ⟨w.heap.size,j,none⟩=some (.int .i64 ([x].getD j 0)):=by
 intro j hj;have H:StB (w.alloc (.cells #[.int .i64 x] 2)) w.heap.size 2 #[.int .i64 x]:=StB.new _ _ _
 match j,hj with
 |0,_=>exact H.cell 0 rfl
theorem rR {ops:Array Oper} {o:Oper} {a:Act} {w:World} {K:Act->World->Prop} {Q:Exit->Act->World->Prop} {E:Prop} (hgd:o.guard=none) (s x:Operand)
  (ho:o.op=.call {callee:=.builtin .append,args:=#[s,x],argTypes:=#[140,140]}) (base:Nat) (v:Value) (l:List Int) (hs:a.eval s=v) (hown:Own w base v l)
  (g m c:Nat) (l2:List Int) (hx:a.eval x=.slice (some ⟨g,0,none⟩) m c) (hm:m=l2.length) (hnews:∀j,j<l2.length->w.cell? ⟨g,j,none⟩=some (.int .i64 (l2.getD j 0))) (hsm:l.length+l2.length<=10000000) (hbase:base<=w.heap.size)
  (h:∀v' w',Own w' base v' (l++l2)->w.grownBy w' v.ownBlock->K (a.put o.dst v') w'):if Region.wanted o (yielded ops a.tmps)=true then Oper.wp Tryz.prog o a w K Q else E:=by
 have hw:Region.wanted o (yielded ops a.tmps)=true:=by simp[Region.wanted,hgd]
 rw[if_pos hw];obtain⟨i0,hi,hz0,hz1,hz2⟩:=info_parts Tryz.infoI;subst hm;have hnews':∀j u,(l2.map (Value.int .i64))[j]?=some u->w.cell? ((⟨g,0,none⟩:Addr).add j)=some u:=by
  intro j u hj;have hlt:j<l2.length:=by
   rcases Nat.lt_or_ge j l2.length with h|h
   ·exact h
   ·rw[List.getElem?_eq_none (by simpa using h)]at hj;cases hj
  rw[show(⟨g,0,none⟩:Addr).add j=⟨g,j,none⟩ by unfold Addr.add;split<;>simp_all];rw[hnews j hlt];simpa[hlt]using hj
 have hone:∀u∈l2.map (Value.int .i64),u.oneCell'=true:=by
  intro u hu;obtain⟨y,_,rfl⟩:=List.mem_map.1 hu;rfl
 obtain⟨v',w',hrun,r1,r2, -⟩:=run_append_own (P:=Tryz.prog) w base 140 o.type 2 i0 (.int .i64 0) 1 8 Tryz.underlying140 hi hz0 hz1 hz2 rfl (by decide) _ l.length (l.map (Value.int .i64)) hown ⟨g,0,none⟩ l2.length c (l2.map (Value.int .i64)) (by simp) hnews' hone (by unfold maxLen;omega) (by omega) hbase;rw[<-List.map_append]at r1;unfold Oper.wp;simp[execOp,ho,resolve,invoke,builtin,hs,hx,hrun,Result.andThen];refine h v' w' ?_ r2;unfold Own;rw[List.length_append];exact r1
theorem yY (x:Int) (v:Value) (l:List Int) (base g:Nat) (w:World) (h:HpB w base g v l) (hl:l.length<=1000):
  Calls Tryz.prog 319 #[.pointer (some ⟨g,0,none⟩),.iface 2 (.int .i64 x)] w fun e w'=>e=.returned (.tuple #[])/\∃u,HpB w' base g u (l++[x])/\Below base w w':=by
 have k0:w.drew.cell? ⟨g,0,none⟩=some v:=h.cell;have hasI:=Tryz.asInt (.int .i64 x);have hle:base<=w.drew.heap.size:=by have:=h.st.lt;have:=h.le;exact Nat.le_trans h.le (Nat.le_of_lt h.st.lt)
 have HH:Hid (HpB w.drew base g v l):=h.drew (n:=1) rfl;have HL:Hid (l.length<=1000):=hl;obtain⟨ao,cap,rfl⟩:=aa h.own.reads;obtain⟨wa,hwa⟩:=eX ((w.alloc (.cells #[.int .i64 x] 2)).drew)
 have HA:Hid (HpB wa base g (.slice ao l.length cap) l/\Below base w wa/\base<=wa.heap.size):=by
  have b:bB w wa:=by rw[hwa];exactbA.drew
  exact⟨h.below b,b.mono hle,Nat.le_trans hle b.size⟩
 have HN:Hid (∀j,j<[x].length->wa.cell? ⟨w.heap.size,j,none⟩=some (.int .i64 ([x].getD j 0))):=by rw[hwa];exact Own.lst
 have k1:wa.cell? ⟨g,0,none⟩=some (.slice ao l.length cap):=HA.out.1.cell;rw[hwa]at k1;clear h hl;go_enter Tryz.func319,Tryz.ntmps319;go_upto_region 0 with fail
 go_region_law
  (first
   |(rw[<-hwa];refine rR rfl (.tmp 7) (.tmp 10) rfl base (.slice ao l.length cap) l (by simp[Act.eval]) HA.out.1.own w.heap.size 1 1 [x] (by simp[Act.eval]) rfl HN.out (by have:=HL.out;simp;omega) HA.out.2.2 ?_;intro v3 w3 o3 g3;obtain⟨S3,O3,B3⟩:=HA.out.1.grow o3 g3;obtain⟨ao3,cap3,rfl⟩:=aa o3.reads;have HP:Hid (StB w3 g 140 #[.slice ao l.length cap]/\Own w3 base (.slice ao3 (l++[x]).length cap3) (l++[x])/\Below base w w3):=⟨S3,O3,HA.out.2.1.trans B3⟩;have k2:w3.cell? ⟨g,0,none⟩=some (.slice ao l.length cap):=S3.cell 0 rfl;have f2:=S3.frozen 0;clear S3 O3 B3 o3 g3))
 all_goals
  go_end0
  have e1:(l++[x]).length=l.length+1:=by simp
  have h3:=HP.out;rw[e1]at h3;have q:=HpB.put h3.1 h3.2.1 HA.out.1.le;exact⟨rfl,_,q.1,h3.2.2.trans q.2⟩
theorem AP (v:Value) (l:List Int) (w:World) (h:ag w v l):
  Calls Tryz.prog 312 #[v] w fun e w'=>e=.returned (.int .i64 l.length)/\w'=w:=by
 obtain⟨ao,cap,rfl⟩:=aa h;clear h;go_enter Tryz.func312,Tryz.ntmps312;go_wp2;go_ret;exact⟨rfl,rfl⟩
theorem Own.cut {w:World} {base n cap:Nat} {ao:Option Addr} {l:List Int} {x:Int} (h:Own w base (.slice ao (n+1) cap) (l++[x])) (hn:n=l.length):Own w base (.slice ao n cap) l:=by
 subst hn;have h':w.ownsRow base 2 1 (.slice ao (l.length+1) cap) (l.length+1) ((l++[x]).map (Value.int .i64)):=by
  have:=h;unfold Own at this
  rwa[List.length_append]at this
 obtain⟨g,cap',e, -, -⟩:=World.ownsRow.form h' (by omega);cases e;rw[List.map_append]at h';exact ownsRow_pop (by simp) h'
end Go.Proofs.YthldeiojlllkdaaGreatDoor
