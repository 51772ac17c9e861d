/- The program's store by commands: DidStore. -/
import Derived.Test.YthldeiojlllkdaaGreatDoorM25
import Derived.Deep.RegionLaw
set_option maxRecDepth 20000
set_option maxHeartbeats 2000000
namespace Go.Proofs.YthldeiojlllkdaaGreatDoor
open Go.ChangeShapes Go.WideShapes Go.ChangeAt Go.RowKit
theorem jv (f:eO) (u v q:Value) (xs ys:List Int) (h:Hd) (i:Int) (c:Cm) (w:World) (hu:ag w u xs) (hv:ag w v ys) (hq:ag w q h.ks) (hb:au xs ys=true) (ok:h.ok=true) (S:Sen f w) (dx dy:List Int) (hh:Hd) (tx:Bs) (CP':∀wx,iO w wx->Calls Tryz.prog 117 #[SRV u v q h,.int .i64 i,CV c] wx (gW wx dx dy hh tx .nilIface)):
  Calls Tryz.prog 77 #[SRV u v q h,.int .i64 i,CV c] w fun e w'=>∃a b k,e=.returned (.tuple #[SRV a b k hh,AV ⟨0,tx⟩])/\aZ w' w.heap.size a b k dx dy hh.ks/\iO w w':=by
 obtain⟨w1,hw1⟩:=Fe ((((w.alloc (.cells (srA u v q h) 96)).alloc (.cells (cmA c) 66)).alloc (.cells zeR 96)).alloc (.cells (anA ⟨0,[]⟩) 44))
 have HX:Hid (Ds w w1 u v q h c):=by rw[hw1];exact Ds.start w u v q h c
 have HSN:Hid (Sen f w):=S;obtain⟨n1,n8,nl⟩:=cI hb;have gx:xs.length<=1099511627776:=by omega
 have gy:ys.length<=1099511627776:=by omega
 have hx1:1<=xs.length:=by omega
 have hy1:1<=ys.length:=by omega
 have hk4:=(Hd.ok_all ok).1;have hk1:1<=h.ks.length:=by omega
 have gk:h.ks.length<=1099511627776:=by omega
 have hok:Sr.ok ⟨xs,ys,h⟩=true:=by simp[Sr.ok,hb,ok]
 have c1:Calls Tryz.prog 63 #[.agg (srA u v q h)] w1 fun e w'=>e=.returned (.bool true)/\iO w1 w':=by
  have:=gj u v q xs ys h w1 (hu.below HX.out.bl (Nat.le_refl _)) (hv.below HX.out.bl (Nat.le_refl _)) (hq.below HX.out.bl (Nat.le_refl _)) gx gy gk;rw[hok]at this;exact this
 obtain⟨uo,uc,rfl⟩:=aa hu;obtain⟨vo,vc,rfl⟩:=aa hv;obtain⟨qo,qc,rfl⟩:=aa hq;have CP:Hid (∀wx,iO w wx->Calls Tryz.prog 117 #[.agg (srA (.slice uo xs.length uc) (.slice vo ys.length vc) (.slice qo h.ks.length qc) h),.int .i64 i,.agg #[.int .i64 c.o,.int .i64 c.p,.int .i64 c.a,.int .i64 c.b,.int .i64 c.k]] wx (fun e w'=>∃a b k,e=.returned (.tuple #[SRV a b k hh,.string ⟨tx.toArray⟩,.nilIface])/\aZ w' wx.heap.size a b k dx dy hh.ks/\iO wx w')):=CP';clear CP' hu hv hq S hb ok gx gy gk hx1 hy1 hk1 hk4 n1 n8 nl hok HSN;unfold SRV CV;conv in srA (.slice uo xs.length uc) (.slice vo ys.length vc) (.slice qo h.ks.length qc) _=>unfold srA
 unfold cmA;unfold srA cmA zeR anA S at hw1;go_enter Tryz.func77,Tryz.ntmps77;go_upto_region 1 with fail
 rw[<-hw1];clear hw1;go_wp2_with (refine ah GP rfl _ rfl w.heap.size rfl _ rfl HX.out.st ?_)
 refine c1.mono ?_;rintro e w2 ⟨rfl,b2⟩;have X2:Hid (Ds w w2 (.slice uo xs.length uc) (.slice vo ys.length vc) (.slice qo h.ks.length qc) h c):=HX.out.next b2;clear HX b2 c1;have m0:w2.cell? ⟨w.heap.size+1,0,none⟩=some (.int .i64 c.o):=X2.out.cm.cell 0 rfl;have m1:w2.cell? ⟨w.heap.size+1,1,none⟩=some (.int .i64 c.p):=X2.out.cm.cell 1 rfl;have m2:w2.cell? ⟨w.heap.size+1,2,none⟩=some (.int .i64 c.a):=X2.out.cm.cell 2 rfl;have m3:w2.cell? ⟨w.heap.size+1,3,none⟩=some (.int .i64 c.b):=X2.out.cm.cell 3 rfl;have m4:w2.cell? ⟨w.heap.size+1,4,none⟩=some (.int .i64 c.k):=X2.out.cm.cell 4 rfl;go_wp2_with (refine ah GP rfl _ rfl w.heap.size rfl _ rfl X2.out.st ?_)
 refine(CP.out _ X2.out.bl).mono ?_;rintro e w3 ⟨a,b,k,rfl,o3,b3⟩;obtain⟨ao,ac,rfl⟩:=o3.1.1.reads.form;obtain⟨bo,bc,rfl⟩:=o3.1.2.1.reads.form;obtain⟨ko,kc,rfl⟩:=o3.2.1.reads.form;unfold SRV;conv in srA (.slice ao dx.length ac) (.slice bo dy.length bc) (.slice ko hh.ks.length kc) hh=>unfold srA
 clear m0 m1 m2 m3 m4 CP;obtain⟨w4,hw4⟩:=Fe (w3.alloc (.cells #[.slice ao dx.length ac,.slice bo dy.length bc,.slice ko hh.ks.length kc,.int .i64 hh.kd,.int .i64 hh.ho,.int .i64 hh.tu] 96))
 have b4:iO w3 w4:=by rw[hw4];exact Fc
 have X4:Hid (Ds w w4 (.slice uo xs.length uc) (.slice vo ys.length vc) (.slice qo h.ks.length qc) h c):=(X2.out.next b3).next b4;have O4:Hid (aZ w4 (w.heap.size+4) (.slice ao dx.length ac) (.slice bo dy.length bc) (.slice ko hh.ks.length kc) dx dy hh.ks/\StB w4 w3.heap.size 96 (srA (.slice ao dx.length ac) (.slice bo dy.length bc) (.slice ko hh.ks.length kc) hh)):=⟨(o3.mono X2.out.sz).below b4,by rw[hw4];exact StB.new _ _ _⟩
 clear X2 b3 b4 o3;go_upto_region 4 with fail
 rw[<-hw4];clear hw4;obtain⟨g,hg⟩:=Fe w3.heap.size
 rw[<-hg]at O4⊢;clear hg;go_wp2_with (first
  |(refine ah GP rfl _ rfl g rfl _ rfl O4.out.2 ?_)
  |(refine ae GP rfl _ _ rfl (w.heap.size+1+1) (srA (.slice ao dx.length ac) (.slice bo dy.length bc) (.slice ko hh.ks.length kc) hh) zeR rfl rfl rfl rfl (ee hh rfl rfl rfl) X4.out.rs ?_;intro w7 s7 g7;have ra7:=X4.out.ra.kept g7 Fg)
  |(refine ae GC rfl _ _ rfl (w.heap.size+1+1+1) (anA ⟨0,tx⟩) (anA ⟨0,[]⟩) rfl rfl rfl rfl (by simp[anA,S,Value.oneCell']) ra7 ?_;intro w8 s8 g8))
 refine bodyPost_ret (fK rfl _ _ (w.heap.size+1+1) (w.heap.size+1+1+1) _ _ rfl rfl rfl rfl (s7.kept g8 Fg) s8) rfl ?_;exact⟨_,_,_,rfl,X4.out.fin O4.out.1 (Nat.le_refl _) g7 g8⟩
theorem lh (f:eO) (u v q:Value) (xs ys:List Int) (h:Hd) (i:Int) (c:Cm) (w:World) (hu:ag w u xs) (hv:ag w v ys) (hq:ag w q h.ks) (hb:au xs ys=true) (ok:h.ok=true) (S:Sen f w) (st:Int) (tt:Bs) (hs':st=1∨st=2∨st=3∨st=7) (dx dy:List Int) (hh:Hd) (tx:Bs) (CP':∀wx,iO w wx->Calls Tryz.prog 117 #[SRV u v q h,.int .i64 i,CV c] wx (gW wx dx dy hh tx (rfV f st tt))):
  Calls Tryz.prog 77 #[SRV u v q h,.int .i64 i,CV c] w fun e w'=>∃a b k,e=.returned (.tuple #[SRV a b k h,AV ⟨st,tt⟩])/\aZ w' w.heap.size a b k xs ys h.ks/\iO w w':=by
 obtain⟨w1,hw1⟩:=Fe ((((w.alloc (.cells (srA u v q h) 96)).alloc (.cells (cmA c) 66)).alloc (.cells zeR 96)).alloc (.cells (anA ⟨0,[]⟩) 44))
 have HX:Hid (Ds w w1 u v q h c):=by rw[hw1];exact Ds.start w u v q h c
 have HSN:Hid (Sen f w):=S;obtain⟨n1,n8,nl⟩:=cI hb;have gx:xs.length<=1099511627776:=by omega
 have gy:ys.length<=1099511627776:=by omega
 have hx1:1<=xs.length:=by omega
 have hy1:1<=ys.length:=by omega
 have hk4:=(Hd.ok_all ok).1;have hk1:1<=h.ks.length:=by omega
 have gk:h.ks.length<=1099511627776:=by omega
 have hok:Sr.ok ⟨xs,ys,h⟩=true:=by simp[Sr.ok,hb,ok]
 have c1:Calls Tryz.prog 63 #[.agg (srA u v q h)] w1 fun e w'=>e=.returned (.bool true)/\iO w1 w':=by
  have:=gj u v q xs ys h w1 (hu.below HX.out.bl (Nat.le_refl _)) (hv.below HX.out.bl (Nat.le_refl _)) (hq.below HX.out.bl (Nat.le_refl _)) gx gy gk;rw[hok]at this;exact this
 have CF:Hid (∀wx,iO w wx->Calls Tryz.prog 72 #[.agg (srA u v q h)] wx fun e w'=>∃a b k,e=.returned (.agg (srA a b k h))/\aZ w' wx.heap.size a b k xs ys h.ks/\iO wx w'):=fun wx e=>eS u v q xs ys h wx (hu.below e (Nat.le_refl _)) (hv.below e (Nat.le_refl _)) (hq.below e (Nat.le_refl _)) hx1 hy1 hk1 gx gy gk
 have CS':=fun wx (e:iO w wx)=>ue f st tt wx (S.below e) hs'
 have CT':=fun wx (e:iO w wx)=>zu f st tt wx (S.below e)
 obtain⟨EV,hEV⟩:=Fe (rfV f st tt)
 have hI:∃t p,EV=.iface t p:=⟨_,_,hEV⟩
 rw[<-hEV]at CS' CT' CP';obtain⟨et,ep,rfl⟩:=hI;have CS:Hid (∀wx,iO w wx->Calls Tryz.prog 118 #[.iface et ep] wx fun e w'=>e=.returned (.int .i64 st)/\iO wx w'):=CS';have CT:Hid (∀wx,iO w wx->Calls Tryz.prog 119 #[.iface et ep] wx fun e w'=>e=.returned (.string ⟨tt.toArray⟩)/\iO wx w'):=CT';obtain⟨uo,uc,rfl⟩:=aa hu;obtain⟨vo,vc,rfl⟩:=aa hv;obtain⟨qo,qc,rfl⟩:=aa hq;have CP:Hid (∀wx,iO w wx->Calls Tryz.prog 117 #[.agg (srA (.slice uo xs.length uc) (.slice vo ys.length vc) (.slice qo h.ks.length qc) h),.int .i64 i,.agg #[.int .i64 c.o,.int .i64 c.p,.int .i64 c.a,.int .i64 c.b,.int .i64 c.k]] wx (fun e w'=>∃a b k,e=.returned (.tuple #[SRV a b k hh,.string ⟨tx.toArray⟩,.iface et ep])/\aZ w' wx.heap.size a b k dx dy hh.ks/\iO wx w')):=CP';clear CP' CS' CT' hEV hs' hu hv hq S hb ok gx gy gk hx1 hy1 hk1 hk4 n1 n8 nl hok HSN;unfold SRV CV;conv in srA (.slice uo xs.length uc) (.slice vo ys.length vc) (.slice qo h.ks.length qc) _=>unfold srA
 unfold cmA;unfold srA cmA zeR anA S at hw1;go_enter Tryz.func77,Tryz.ntmps77;go_upto_region 1 with fail
 rw[<-hw1];clear hw1;go_wp2_with (refine ah GP rfl _ rfl w.heap.size rfl _ rfl HX.out.st ?_)
 refine c1.mono ?_;rintro e w2 ⟨rfl,b2⟩;have X2:Hid (Ds w w2 (.slice uo xs.length uc) (.slice vo ys.length vc) (.slice qo h.ks.length qc) h c):=HX.out.next b2;clear HX b2 c1;have m0:w2.cell? ⟨w.heap.size+1,0,none⟩=some (.int .i64 c.o):=X2.out.cm.cell 0 rfl;have m1:w2.cell? ⟨w.heap.size+1,1,none⟩=some (.int .i64 c.p):=X2.out.cm.cell 1 rfl;have m2:w2.cell? ⟨w.heap.size+1,2,none⟩=some (.int .i64 c.a):=X2.out.cm.cell 2 rfl;have m3:w2.cell? ⟨w.heap.size+1,3,none⟩=some (.int .i64 c.b):=X2.out.cm.cell 3 rfl;have m4:w2.cell? ⟨w.heap.size+1,4,none⟩=some (.int .i64 c.k):=X2.out.cm.cell 4 rfl;go_wp2_with (refine ah GP rfl _ rfl w.heap.size rfl _ rfl X2.out.st ?_)
 refine(CP.out _ X2.out.bl).mono ?_;rintro e w3 ⟨a,b,k,rfl,o3,b3⟩;obtain⟨ao,ac,rfl⟩:=o3.1.1.reads.form;obtain⟨bo,bc,rfl⟩:=o3.1.2.1.reads.form;obtain⟨ko,kc,rfl⟩:=o3.2.1.reads.form;unfold SRV;conv in srA (.slice ao dx.length ac) (.slice bo dy.length bc) (.slice ko hh.ks.length kc) hh=>unfold srA
 clear m0 m1 m2 m3 m4 CP;obtain⟨w4,hw4⟩:=Fe (w3.alloc (.cells #[.slice ao dx.length ac,.slice bo dy.length bc,.slice ko hh.ks.length kc,.int .i64 hh.kd,.int .i64 hh.ho,.int .i64 hh.tu] 96))
 have b4:iO w3 w4:=by rw[hw4];exact Fc
 have X4:Hid (Ds w w4 (.slice uo xs.length uc) (.slice vo ys.length vc) (.slice qo h.ks.length qc) h c):=(X2.out.next b3).next b4;have O4:Hid (aZ w4 (w.heap.size+4) (.slice ao dx.length ac) (.slice bo dy.length bc) (.slice ko hh.ks.length kc) dx dy hh.ks/\StB w4 w3.heap.size 96 (srA (.slice ao dx.length ac) (.slice bo dy.length bc) (.slice ko hh.ks.length kc) hh)):=⟨(o3.mono X2.out.sz).below b4,by rw[hw4];exact StB.new _ _ _⟩
 clear X2 b3 b4 o3;go_upto_region 4 with fail
 rw[<-hw4];clear hw4;clear O4;go_wp2_with (refine ah GP rfl _ rfl w.heap.size rfl _ rfl X4.out.st ?_)
 refine(CF.out _ X4.out.bl).mono ?_;rintro e w5 ⟨a5,b5',k5,rfl,o5,b5⟩;obtain⟨a5o,a5c,rfl⟩:=o5.1.1.reads.form;obtain⟨b5o,b5c,rfl⟩:=o5.1.2.1.reads.form;obtain⟨k5o,k5c,rfl⟩:=o5.2.1.reads.form;have X5:Hid (Ds w w5 (.slice uo xs.length uc) (.slice vo ys.length vc) (.slice qo h.ks.length qc) h c):=X4.out.next b5;have O5:Hid (aZ w5 (w.heap.size+4) (.slice a5o xs.length a5c) (.slice b5o ys.length b5c) (.slice k5o h.ks.length k5c) xs ys h.ks):=o5.mono X4.out.sz;clear X4 b5 o5 CF;go_wp2_with fail
 refine(CS.out _ X5.out.bl).mono ?_;rintro e w6 ⟨rfl,b6⟩;have X6:Hid (Ds w w6 (.slice uo xs.length uc) (.slice vo ys.length vc) (.slice qo h.ks.length qc) h c):=X5.out.next b6;have O6:Hid (aZ w6 (w.heap.size+4) (.slice a5o xs.length a5c) (.slice b5o ys.length b5c) (.slice k5o h.ks.length k5c) xs ys h.ks):=O5.out.below b6;clear X5 O5 b6 CS;go_wp2_with fail
 refine(CT.out _ X6.out.bl).mono ?_;rintro e w7 ⟨rfl,b7⟩;have X7:Hid (Ds w w7 (.slice uo xs.length uc) (.slice vo ys.length vc) (.slice qo h.ks.length qc) h c):=X6.out.next b7;have O7:Hid (aZ w7 (w.heap.size+4) (.slice a5o xs.length a5c) (.slice b5o ys.length b5c) (.slice k5o h.ks.length k5c) xs ys h.ks):=O6.out.below b7;clear X6 O6 b7 CT;go_wp2_with (first
  |(refine ae GP rfl _ _ rfl (w.heap.size+1+1) (srA (.slice a5o xs.length a5c) (.slice b5o ys.length b5c) (.slice k5o h.ks.length k5c) h) zeR rfl rfl rfl rfl (ee h rfl rfl rfl) X7.out.rs ?_;intro w8 s8 g8;have ra8:=X7.out.ra.kept g8 Fg)
  |(refine ae GC rfl _ _ rfl (w.heap.size+1+1+1) (anA ⟨st,tt⟩) (anA ⟨0,[]⟩) rfl rfl rfl rfl (by simp[anA,S,Value.oneCell']) ra8 ?_;intro w9 s9 g9))
 refine bodyPost_ret (fK rfl _ _ (w.heap.size+1+1) (w.heap.size+1+1+1) _ _ rfl rfl rfl rfl (s8.kept g9 Fg) s9) rfl ?_;exact⟨_,_,_,rfl,X7.out.fin O7.out (Nat.le_refl _) g8 g9⟩
theorem wo (u v q:Value) (xs ys:List Int) (h:Hd) (i:Int) (c:Cm) (w:World) (hu:ag w u xs) (hv:ag w v ys) (hq:ag w q h.ks) (gx:xs.length<=1099511627776) (gy:ys.length<=1099511627776) (gk:h.ks.length<=1099511627776) (hok:Sr.ok ⟨xs,ys,h⟩=false):
  Calls Tryz.prog 77 #[SRV u v q h,.int .i64 i,CV c] w fun e w'=>∃a b k,e=.returned (.tuple #[SRV a b k Hd.zero,AV ⟨7,[]⟩])/\aZ w' w.heap.size a b k [] [] Hd.zero.ks/\iO w w':=by
 obtain⟨w1,hw1⟩:=Fe ((((w.alloc (.cells (srA u v q h) 96)).alloc (.cells (cmA c) 66)).alloc (.cells zeR 96)).alloc (.cells (anA ⟨0,[]⟩) 44))
 have HX:Hid (Ds w w1 u v q h c):=by rw[hw1];exact Ds.start w u v q h c
 have c1:Calls Tryz.prog 63 #[.agg (srA u v q h)] w1 fun e w'=>e=.returned (.bool false)/\iO w1 w':=by
  have:=gj u v q xs ys h w1 (hu.below HX.out.bl (Nat.le_refl _)) (hv.below HX.out.bl (Nat.le_refl _)) (hq.below HX.out.bl (Nat.le_refl _)) gx gy gk;rw[hok]at this;exact this
 obtain⟨uo,uc,rfl⟩:=aa hu;obtain⟨vo,vc,rfl⟩:=aa hv;obtain⟨qo,qc,rfl⟩:=aa hq;clear hu hv hq gx gy gk hok;unfold SRV CV;conv in srA (.slice uo xs.length uc) (.slice vo ys.length vc) (.slice qo h.ks.length qc) _=>unfold srA
 unfold cmA;unfold srA cmA zeR anA S at hw1;go_enter Tryz.func77,Tryz.ntmps77;go_upto_region 1 with fail
 rw[<-hw1];clear hw1;go_wp2_with (refine ah GP rfl _ rfl w.heap.size rfl _ rfl HX.out.st ?_)
 refine c1.mono ?_;rintro e w2 ⟨rfl,b2⟩;have X2:Hid (Ds w w2 (.slice uo xs.length uc) (.slice vo ys.length vc) (.slice qo h.ks.length qc) h c):=HX.out.next b2;clear HX b2 c1;go_wp2_with (first
  |(refine ae GP rfl _ _ rfl (w.heap.size+1+1) zeR zeR rfl rfl rfl rfl (ee Hd.zero rfl rfl rfl) X2.out.rs ?_;intro w7 s7 g7;have ra7:=X2.out.ra.kept g7 Fg)
  |(refine ae GC rfl _ _ rfl (w.heap.size+1+1+1) (anA ⟨7,[]⟩) (anA ⟨0,[]⟩) rfl rfl rfl rfl (by simp[anA,S,Value.oneCell']) ra7 ?_;intro w8 s8 g8))
 refine bodyPost_ret (fK rfl _ _ (w.heap.size+1+1) (w.heap.size+1+1+1) _ _ rfl rfl rfl rfl (s7.kept g8 Fg) s8) rfl ?_;exact⟨_,_,_,rfl,X2.out.fin (aZ.nil w2 (w.heap.size+4)) (Nat.le_refl _) g7 g8⟩
def ni (w:World):Prop:=Tab w/\∃f,Sen f w
theorem ni.below {w w':World} (h:ni w) (b:iO w w'):ni w':=by
 obtain⟨t,f,s⟩:=h;exact⟨t.below b,f,s.below b⟩
theorem pE (u v q:Value) (xs ys:List Int) (h:Hd) (i:Int) (c:Cm) (w:World) (hu:ag w u xs) (hv:ag w v ys) (hq:ag w q h.ks) (gx:xs.length<=1099511627776) (gy:ys.length<=1099511627776) (gk:h.ks.length<=1099511627776) (ht:ni w):
  Calls Tryz.prog 77 #[SRV u v q h,.int .i64 i,CV c] w fun e w'=>∃a b k,e=.returned (.tuple #[SRV a b k (Sr.did ⟨xs,ys,h⟩ i c).1.h,AV (Sr.did ⟨xs,ys,h⟩ i c).2])/\aZ w' w.heap.size a b k (Sr.did ⟨xs,ys,h⟩ i c).1.xs (Sr.did ⟨xs,ys,h⟩ i c).1.ys (Sr.did ⟨xs,ys,h⟩ i c).1.h.ks/\iO w w':=by
 obtain⟨tb,f,S⟩:=ht;cases hok:Sr.ok ⟨xs,ys,h⟩with
 |false=>
  have e:Sr.did ⟨xs,ys,h⟩ i c=(Sr.zero,⟨7,[]⟩):=by unfold Sr.did;rw[hok];rfl
  rw[e];exact wo u v q xs ys h i c w hu hv hq gx gy gk hok
 |true=>
  have hbo:au xs ys=true/\h.ok=true:=by
   have e:(au xs ys&&h.ok)=true:=hok;exact Bool.and_eq_true_iff.1 e
  obtain⟨hb,ok⟩:=hbo;have ru:∀wx,iO w wx->ag wx u xs:=fun wx e=>hu.below e (Nat.le_refl _)
  have rv:∀wx,iO w wx->ag wx v ys:=fun wx e=>hv.below e (Nat.le_refl _)
  have rq:∀wx,iO w wx->ag wx q h.ks:=fun wx e=>hq.below e (Nat.le_refl _)
  cases hn:(inI i 0 3&&c.ok)with
  |false=>
   have e:Sr.did ⟨xs,ys,h⟩ i c=(⟨xs,ys,h⟩,⟨7,[]⟩):=by unfold Sr.did;rw[hok,hn];rfl
   rw[e];exact lh f u v q xs ys h i c w hu hv hq hb ok S 7 [] (.inr (.inr (.inr rfl))) [] [] Hd.zero [] (fun wx e=>rX f u v q xs ys h i c wx (ru wx e) (rv wx e) (rq wx e) (S.below e) hn)
  |true=>
   obtain⟨hi,hc⟩:=Bool.and_eq_true_iff.1 hn;have ed:Sr.did ⟨xs,ys,h⟩ i c=Sr.doing ⟨xs,ys,h⟩ i c:=by unfold Sr.did;rw[hok,hn];rfl
   rw[ed];have hrw:=Fb hc;by_cases h5:c.o<=5
   ·rw[decide_eq_true h5]at hrw
    have hbl:∀(dx dy:List Int) (hh:Hd) (tx:Bs) (EV:Value),(∀wx,iO w wx->Calls Tryz.prog 158 #[SRV u v q h,.int .i64 i,CV c] wx (gW wx dx dy hh tx EV))->∀wx,iO w wx->Calls Tryz.prog 117 #[SRV u v q h,.int .i64 i,CV c] wx (gW wx dx dy hh tx EV):=by
     intro dx dy hh tx EV CP wx e;have CP2:∀wy,iO wx wy->Calls Tryz.prog 158 #[SRV u v q h,.int .i64 i,CV c] wy (gW wy dx dy hh tx EV):=fun wy k=>CP wy (e.trans (k.mono e.size))
     cases hrd:c.rd with
     |true=>
      cases hwr:c.wr with
      |false=>exact rY f u v q xs ys h i c wx (ru wx e) (rv wx e) (rq wx e) (S.below e) hi hc hrd hwr dx dy hh tx EV CP2
      |true=>
       have e1:c.o=1:=by
        unfold Cm.rd at hrd;rw[hc]at hrd;simpa using hrd
       unfold Cm.wr at hwr;rw[hc,e1]at hwr;cases hwr
     |false=>
      have hwr:c.wr=true:=by rw[hrd]at hrw;simpa using hrw
      exact pF f u v q xs ys h i c wx (ru wx e) (rv wx e) (rq wx e) (S.below e) hi hc hrd hwr dx dy hh tx EV CP2
    cases hm:h.may i (decide (c.o≠1))with
    |false=>
     have e:Sr.doing ⟨xs,ys,h⟩ i c=(⟨xs,ys,h⟩,⟨3,[]⟩):=by
      unfold Sr.doing;rw[if_neg Ff];dsimp only;rw[hm,if_neg Fh]
     rw[e];have hM:h.May i c.wr=false:=by rw[yl ok hi,Dw hc h5];exact hm
     refine lh f u v q xs ys h i c w hu hv hq hb ok S 3 [] (.inr (.inr (.inl rfl))) [] [] Hd.zero [] (hbl _ _ _ _ _ (fun wx e=>?_));refine(wt f u v q xs ys h i c wx (ru wx e) (rv wx e) (rq wx e) hb ok (S.below e) hM).mono ?_;rintro e w' ⟨rfl,b⟩;exact⟨_,_,_,rfl,aZ.nil _ _,b⟩
    |true=>
     have e:Sr.doing ⟨xs,ys,h⟩ i c=(⟨(bC xs ys c).1,(bC xs ys c).2.1,h⟩,(bC xs ys c).2.2):=by
      unfold Sr.doing;rw[if_neg Ff];dsimp only;rw[hm,if_pos rfl]
     have hM:h.May i c.wr=true:=by rw[yl ok hi,Dw hc h5];exact hm
     have hD:=BO hb hc h5;have hst:=BP xs ys c;have CB:=fun wx (e:iO w wx)=>uf f u v q xs ys h i c wx (ru wx e) (rv wx e) (rq wx e) hb ok (S.below e) (tb.below e) hM (by rw[hD];exact hst)
     rw[hD]at CB;by_cases h0:(bC xs ys c).2.2.st=0
     ·have CP:=hbl (bC xs ys c).1 (bC xs ys c).2.1 h (bC xs ys c).2.2.tx .nilIface (fun wx e=>by have:=CB wx e;rw[h0,rU]at this;exact this)
      have:=jv f u v q xs ys h i c w hu hv hq hb ok S _ _ _ _ CP;rw[e];dsimp only;rw[show(bC xs ys c).2.2=⟨0,(bC xs ys c).2.2.tx⟩from by rw[<-h0]];exact this
     ·have ht4:(bC xs ys c).2.2.st=1∨(bC xs ys c).2.2.st=2∨(bC xs ys c).2.2.st=3∨(bC xs ys c).2.2.st=7:=by
       rcases hst with k|k|k|k
       ·exact absurd k h0
       ·exact .inl k.1
       ·exact .inr (.inl k)
       ·exact .inr (.inr (.inr k.1))
      have CP:=hbl (bC xs ys c).1 (bC xs ys c).2.1 h (bC xs ys c).2.2.tx (rfV f (bC xs ys c).2.2.st (bC xs ys c).2.2.tx) (fun wx e=>by have:=CB wx e;rw[ua f h0]at this;exact this);have:=lh f u v q xs ys h i c w hu hv hq hb ok S _ _ ht4 _ _ _ _ CP;have hsame:=Dj (s:=⟨xs,ys,h⟩) (i:=i) (c:=c) hok (by rw[ed,e];exact h0);rw[ed]at hsame;have h2:(Sr.doing ⟨xs,ys,h⟩ i c).2=(bC xs ys c).2.2:=by rw[e]
      rw[hsame,h2];exact this
   ·rw[decide_eq_false h5]at hrw
    have hrd:c.rd=false:=by cases e:c.rd with|false=>rfl|true=>rw[e]at hrw;cases hrw
    have hwr:c.wr=false:=by rw[hrd]at hrw;exact hrw
    have e:Sr.doing ⟨xs,ys,h⟩ i c=(⟨xs,ys,(h.act i c).1⟩,(h.act i c).2):=by unfold Sr.doing;rw[if_pos Ff]
    by_cases h11:c.o=11
    ·have ea:h.act i c=(h,⟨0,h.keysT⟩):=by unfold Hd.act;rw[h11];rfl
     rw[e,ea];exact jv f u v q xs ys h i c w hu hv hq hb ok S _ _ _ _ (fun wx e=>oB f u v q xs ys h i c wx (ru wx e) (rv wx e) (rq wx e) (S.below e) hb ok (tb.below e) hi hc hrd hwr h11)
    ·by_cases h12:c.o=12
     ·have ea:h.act i c=(h,⟨0,h.holdT⟩):=by unfold Hd.act;rw[h12];rfl
      rw[e,ea];exact jv f u v q xs ys h i c w hu hv hq hb ok S _ _ _ _ (fun wx e=>lX f u v q xs ys h i c wx (ru wx e) (rv wx e) (rq wx e) (S.below e) hb ok (tb.below e) hi hc hrd hwr h12)
     ·obtain⟨a1,a2,a3,a4⟩:=z7 ok hi hc Ff h11 h12
      have CB:=fun wx (e:iO w wx)=>rW f u v q xs ys h i c wx (ru wx e) (rv wx e) (rq wx e) hb ok (S.below e)
      rw[a1]at CB;by_cases h0:(h.act i c).2.st=0
      ·have CP:∀wx,iO w wx->Calls Tryz.prog 117 #[SRV u v q h,.int .i64 i,CV c] wx (gW wx xs ys (h.act i c).1 [] .nilIface):=fun wx e=>
        lm f u v q xs ys h i c wx (ru wx e) (rv wx e) (rq wx e) (S.below e) hi hc hrd hwr h11 h12 _ _ _ _ _ (fun wy k=>by have:=CB wy (e.trans (k.mono e.size));rw[h0,rU,a3 h0]at this;exact this)
       have:=jv f u v q xs ys h i c w hu hv hq hb ok S _ _ _ _ CP;rw[e];dsimp only;rw[show(h.act i c).2=⟨0,[]⟩from by rw[<-h0,<-a2]];exact this
      ·have ht4:(h.act i c).2.st=1∨(h.act i c).2.st=2∨(h.act i c).2.st=3∨(h.act i c).2.st=7:=by
        rcases a4 with k|k|k
        ·exact absurd k h0
        ·exact .inl k
        ·exact .inr (.inr (.inl k))
       have CP:∀wx,iO w wx->Calls Tryz.prog 117 #[SRV u v q h,.int .i64 i,CV c] wx (gW wx xs ys (h.after i c).1 [] (rfV f (h.act i c).2.st [])):=fun wx e=>
        lm f u v q xs ys h i c wx (ru wx e) (rv wx e) (rq wx e) (S.below e) hi hc hrd hwr h11 h12 _ _ _ _ _ (fun wy k=>by have:=CB wy (e.trans (k.mono e.size));rw[ua f h0]at this;exact this)
       have:=lh f u v q xs ys h i c w hu hv hq hb ok S _ _ ht4 _ _ _ _ CP;rw[e];dsimp only;rw[yk h0];rw[show(h.act i c).2=⟨(h.act i c).2.st,[]⟩from by rw[<-a2]];exact this
section
open Go.RowKit
def nS (l:List Int) (i j:Nat):List Int:=(l.set i (l.getD j 0)).set j (l.getD i 0)
theorem vD (l:List Int) (i j:Nat) (hi:i<l.length) (hj:j<l.length):(nS l i j).Perm l:=by
 have e1:l.getD i 0=l[i]:=by simp[hi]
 have e2:l.getD j 0=l[j]:=by simp[hj]
 unfold nS;rw[e1,e2];exact List.set_set_perm hi hj
def fh (s:Int) (k:Nat):List Int:=((List.range k).filter (fun j:Nat=>inB s (j:Int))).map (fun j:Nat=>(j:Int))
theorem jr (s:Int) (k:Nat):fh s (k+1)=if inB s (k:Int)then fh s k++[(k:Int)]else fh s k:=by
 unfold fh;rw[List.range_succ,List.filter_append];by_cases h:inB s (k:Int)=true
 ·simp[h]
 ·simp[h]
theorem iD {s:Int} {k:Nat} {x:Int} (h:x∈fh s k):0<=x/\x<k:=by
 unfold fh at h;simp only[List.mem_map,List.mem_filter,List.mem_range]at h;obtain⟨j,⟨h1, -⟩,rfl⟩:=h;omega
theorem AG (s:Int) (k:Nat) (x:Int):x∈fh s k↔0<=x/\x<k/\inB s x=true:=by
 unfold fh;simp only[List.mem_map,List.mem_filter,List.mem_range];constructor
 ·rintro⟨j,⟨h1,h2⟩,rfl⟩
  exact⟨by omega,by omega,h2⟩
 ·rintro⟨h1,h2,h3⟩
  exact⟨x.toNat,⟨by omega,by rw[Int.toNat_of_nonneg h1];exact h3⟩,by omega⟩
theorem vF (s:Int) (k:Nat):(fh s k).Nodup:=by
 induction k with
 |zero=>simp[fh]
 |succ k ih=>
  rw[jr];split
  ·rw[List.nodup_append]
   refine⟨ih,by simp,?_⟩;intro a ha b hb;have:=iD ha;simp at hb;omega
  ·exact ih
def iS (l:List Int):Int:=l.foldl cv 0
theorem vG (l:List Int):∀s:Int,0<=s->s<256->(∀x∈l,0<=x/\x<8)->0<=l.foldl cv s/\l.foldl cv s<256/\∀k,inB (l.foldl cv s) k=(inB s k||decide (k∈l)):=by
 induction l with
 |nil=>intro s h0 h1 _;simp[h0,h1]
 |cons a l ih=>
  intro s h0 h1 hb;have ha:=hb a Fg;have h2:=vj (i:=a) h0 h1;have h3:cv s a<256:=by
   obtain⟨n,rfl⟩:=dM h0;obtain⟨j,rfl⟩:=dM ha.1;have:=pi n Ff j Ff;omega
  obtain⟨r0,r1,r2⟩:=ih (cv s a) h2 h3 (fun x hx=>hb x (by simp[hx]));refine⟨r0,r1,fun k=>?_⟩;rw[List.foldl_cons,r2,Dd h0 h1,Bool.eq_iff_iff];simp only[Bool.or_eq_true,Bool.and_eq_true,beq_iff_eq,decide_eq_true_eq,List.mem_cons];constructor
  ·rintro((h|⟨⟨h, -⟩, -⟩)|h)
   ·exact .inl h
   ·exact .inr (.inl h)
   ·exact .inr (.inr h)
  ·rintro(h|h|h)
   ·exact .inl (.inl h)
   ·exact .inl (.inr ⟨⟨h,ha.1⟩,ha.2⟩)
   ·exact .inr h
theorem xZ {l:List Int} (hb:∀x∈l,0<=x/\x<8):0<=iS l/\iS l<256/\∀k,inB (iS l) k=decide (k∈l):=by
 obtain⟨h0,h1,h2⟩:=vG l 0 Ff Ff hb;refine⟨h0,h1,fun k=>?_⟩;unfold iS;rw[h2];have:inB 0 k=false:=by
  by_cases hk:0<=k/\k<8
  ·obtain⟨m,rfl⟩:=dM hk.1
   have:∀m:Nat,m<8->inB 0 (m:Int)=false:=by decide+kernel
   exact this m Ff
  ·exact gU Ff
 rw[this];rfl
theorem qi:∀n:Nat,n<256->((List.range 8).foldl (fun a k=>a+if inN n k then 2^k else 0) 0)=n:=by decide+kernel
theorem Cj {a b:Int} (ha0:0<=a) (ha:a<256) (hb0:0<=b) (hb:b<256) (h:∀k:Nat,k<8->inB a k=inB b k):a=b:=by
 obtain⟨n,rfl⟩:=dM ha0;obtain⟨m,rfl⟩:=dM hb0;have e1:=qi n Ff;have e2:=qi m Ff;have h':∀k:Nat,k<8->inN n k=inN m k:=by
  intro k hk;have:=h k hk;rw[ie ha0 ha Ff Ff,ie hb0 hb Ff Ff]at this;simpa using this
 have e3:((List.range 8).foldl (fun a k=>a+if inN n k then 2^k else 0) 0)=((List.range 8).foldl (fun a k=>a+if inN m k then 2^k else 0) 0):=by
  have f:∀(l:List Nat) (s:Nat),(∀k∈l,k<8)->l.foldl (fun a k=>a+if inN n k then 2^k else 0) s=l.foldl (fun a k=>a+if inN m k then 2^k else 0) s:=by
   intro l
   induction l with
   |nil=>intro s _;rfl
   |cons x l ih=>
    intro s hl;rw[List.foldl_cons,List.foldl_cons,h' x (hl x Fg)];exact ih _ (fun k hk=>hl k (by simp[hk]))
  exact f _ 0 (fun k hk=>by simpa using hk)
 rw[e1,e2]at e3;rw[e3]
theorem tm (n k:Nat):inN n k=n.testBit k:=by
 unfold inN;rw[Nat.testBit_eq_decide_div_mod_eq];rw[Bool.eq_iff_iff];simp
theorem DN {a b:Int} (ha0:0<=a) (ha:a<256) (hb0:0<=b) (hb:b<256) (k:Nat) (hk:k<8):0<=orI a b/\orI a b<256/\inB (orI a b) k=(inB a k||inB b k):=by
 obtain⟨n,rfl⟩:=dM ha0;obtain⟨m,rfl⟩:=dM hb0;have l:n|||m<2^8:=Nat.or_lt_two_pow Ff Ff
 have e:orI (n:Int) (m:Int)=((n|||m:Nat):Int):=by simp[orI]
 rw[e];have h1:(0:Int)<=((n|||m:Nat):Int):=by omega
 have h2:((n|||m:Nat):Int)<256:=by omega
 refine⟨h1,h2,?_⟩;rw[ie h1 h2 Ff Ff,ie ha0 ha Ff Ff,ie hb0 hb Ff Ff];simp only[Int.toNat_natCast,tm,Nat.testBit_or]
structure dU (l:List Int) (s:Int) (k:Nat) (r:List Int):Prop where
 nodup:r.Nodup
 mem:∀x,x∈r↔x∈l∨x∈fh s k
 bag:l=[]->r=fh s k
theorem dU.start {l:List Int} (h:l.Nodup) (s:Int):dU l s 0 l:=⟨h,by simp[fh],fun e=>by simp[e,fh]⟩
theorem dU.skip {l r:List Int} {s:Int} {k:Nat} (h:dU l s k r) (hn:inB s (k:Int)=false):dU l s (k+1) r:=by
 have e:fh s (k+1)=fh s k:=by rw[jr,hn];rfl
 exact⟨h.nodup,by rw[e];exact h.mem,by rw[e];exact h.bag⟩
theorem dU.there {l r:List Int} {s:Int} {k:Nat} (h:dU l s k r) (hi:inB s (k:Int)=true) (hc:(k:Int)∈r):dU l s (k+1) r:=by
 have e:fh s (k+1)=fh s k++[(k:Int)]:=by rw[jr,hi];rfl
 refine⟨h.nodup,?_,?_⟩
 ·intro x
  rw[e,h.mem,List.mem_append,List.mem_singleton];constructor
  ·rintro(h1|h1)
   ·exact .inl h1
   ·exact .inr (.inl h1)
  ·rintro(h1|h1|h1)
   ·exact .inl h1
   ·exact .inr h1
   ·rw[h1];exact(h.mem _).1 hc
 ·intro el
  rw[h.bag el]at hc;have:=iD hc;omega
theorem dU.push {l r q:List Int} {s:Int} {k:Nat} (h:dU l s k r) (hi:inB s (k:Int)=true) (hc:(k:Int)∉r) (p:q.Perm (r++[(k:Int)])) (hs:(∀y∈r,y<=(k:Int))->q=r++[(k:Int)]):dU l s (k+1) q:=by
 have e:fh s (k+1)=fh s k++[(k:Int)]:=by rw[jr,hi];rfl
 refine⟨?_,?_,?_⟩
 ·rw[p.nodup_iff,List.nodup_append]
  refine⟨h.nodup,by simp,?_⟩;intro a ha b hb;simp at hb;rintro rfl;exact hc (hb▸ha)
 ·intro x
  rw[e,p.mem_iff,List.mem_append,List.mem_append,h.mem,or_assoc]
 ·intro el
  have hr:=h.bag el;rw[e,<-hr];refine hs (fun y hy=>?_);rw[hr]at hy;have:=iD hy;omega
theorem dU.bound {l r:List Int} {s:Int} {k:Nat} (h:dU l s k r) (hl:∀x∈l,0<=x/\x<8) (hk:k<=8):∀x∈r,0<=x/\x<8:=by
 intro x hx;rcases(h.mem x).1 hx with h1|h1
 ·exact hl x h1
 ·have:=iD h1
  omega
theorem tq {l:List Int} (h:l.Nodup) (hl:∀x∈l,0<=x/\x<8):l.length<=8:=by
 have h1:l ⊆ (List.range 8).map (fun j:Nat=>(j:Int)):=by
  intro x hx;have:=hl x hx;rw[List.mem_map];exact⟨x.toNat,by simp;omega,by omega⟩
 have:=h.length_le_of_subset h1;simpa using this
theorem Ek {s:Int} (x:Int):x∈fh s 8↔inB s x=true:=by
 rw[AG];constructor
 ·exact fun h=>h.2.2
 ·intro h
  have:=Dc h;exact⟨this.2.2.1,by omega,h⟩
theorem yN {d s:Int} {r:List Int} (hd0:0<=d) (hd:d<256) (hs0:0<=s) (hs:s<256) (h:dU (fh d 8) s 8 r):iS r=orI d s:=by
 have hb:=h.bound (fun x hx=>by have:=iD hx;omega) (Nat.le_refl _);obtain⟨h0,h1,h2⟩:=xZ hb;have o:=fun k hk=>DN hd0 hd hs0 hs k hk
 refine Cj h0 h1 (o 0 Ff).1 (o 0 Ff).2.1 (fun k hk=>?_);rw[h2,(o k hk).2.2,Bool.eq_iff_iff];simp only[decide_eq_true_eq,Bool.or_eq_true];rw[h.mem,Ek,Ek]
theorem yO:∀i:Nat,i<8->(cv 0 (i:Int)).toNat<256/\0<=cv 0 (i:Int)/\∀n:Nat,n<256->orI n (cv 0 i)=cv n i:=by decide+kernel
theorem yP (l:List Int) (j:Nat) (h:j<l.length):iS (l.take (j+1))=cv (iS (l.take j)) (l.getD j 0):=by
 unfold iS;rw[List.take_succ_eq_append_getElem h,List.foldl_append];simp[h]
end
structure HpB (w:World) (base g:Nat) (v:Value) (l:List Int):Prop where
 st:StB w g 140 #[v]
 own:Own w base v l
 le:base<=g
theorem HpB.below {w w':World} {base g:Nat} {v:Value} {l:List Int} (h:HpB w base g v l) (b:iO w w'):HpB w' base g v l:=⟨h.st.below b,h.own.below b,h.le⟩
theorem HpB.drew {w w':World} {base g n:Nat} {v:Value} {l:List Int} (h:HpB w base g v l) (e:w'=w.drewN n):HpB w' base g v l:=by subst e;exact⟨h.st,h.own,h.le⟩
theorem HpB.cell {w:World} {base g:Nat} {v:Value} {l:List Int} (h:HpB w base g v l):w.cell? ⟨g,0,none⟩=some v:=h.st.cell 0 rfl
theorem HpB.grow {w w':World} {base g:Nat} {u v:Value} {l m:List Int} (h:HpB w base g v l) (o:Own w' base u m) (G:w.grownBy w' v.ownBlock):StB w' g 140 #[v]/\Own w' base u m/\Below base w w':=by
 refine⟨h.st.kept G (fun e=>h.own.ne h.st Fh e.symm),o,⟨G.os,G.tape,G.output,G.size,fun k hk=>G.block k ?_ (fun e=>?_)⟩⟩
 ·have:=h.st.lt;have:=h.le;omega
 ·have:=(h.own.lt k e.symm).1;omega
theorem HpB.put {w:World} {base g:Nat} {u v:Value} {m:List Int} (h:StB w g 140 #[v]) (o:Own w base u m) (hle:base<=g):HpB (w.setCell ⟨g,0,none⟩ u) base g u m/\Below base w (w.setCell ⟨g,0,none⟩ u):=
 ⟨⟨h.put 0 u rfl,o.putBy h Fh (ai w g 0 u),hle⟩,(Below.refl base w).setCell hle _⟩
theorem HpB.swap {w w':World} {base g:Nat} {v:Value} {l m:List Int} (h:HpB w base g v l) (o:Own w' base v m) (G:w.grownBy w' v.ownBlock):HpB w' base g v m/\Below base w w':=by
 refine⟨⟨h.st.kept G (fun e=>h.own.ne h.st Fh e.symm),o,h.le⟩,⟨G.os,G.tape,G.output,G.size,fun k hk=>G.block k ?_ (fun e=>?_)⟩⟩
 ·have:=h.st.lt;have:=h.le;omega
 ·have:=(h.own.lt k e.symm).1;omega
def AN (g:Nat):Value:=.iface 186 (.pointer (some ⟨g,0,none⟩))
theorem Hc (a:Addr) (w:World):(nilAhead 464 186 (.pointer (some a)) "Len").run Tryz.prog w=.ok (some false) w:=by kernel_rfl
theorem He (a:Addr) (w:World):(nilAhead 464 186 (.pointer (some a)) "Less").run Tryz.prog w=.ok (some false) w:=by kernel_rfl
theorem Hg (a:Addr) (w:World):(nilAhead 464 186 (.pointer (some a)) "Swap").run Tryz.prog w=.ok (some false) w:=by kernel_rfl
theorem Hf (a:Addr) (w:World):(nilAhead 464 186 (.pointer (some a)) "Push").run Tryz.prog w=.ok (some false) w:=by kernel_rfl
theorem G8 (a:Addr) (w:World):(method 464 186 (.pointer (some a)) "Push").run Tryz.prog w=.ok (319,.pointer (some a)) w:=by kernel_rfl
theorem Gb (a:Addr) (w:World):(method 464 186 (.pointer (some a)) "Len").run Tryz.prog w=(Sem.load .plain a fun v=>.pure (312,v)).run Tryz.prog w:=by kernel_rfl
theorem Gc (a:Addr) (w:World):(method 464 186 (.pointer (some a)) "Less").run Tryz.prog w=(Sem.load .plain a fun v=>.pure (313,v)).run Tryz.prog w:=by kernel_rfl
theorem Gd (a:Addr) (w:World):(method 464 186 (.pointer (some a)) "Swap").run Tryz.prog w=(Sem.load .plain a fun v=>.pure (314,v)).run Tryz.prog w:=by kernel_rfl
theorem GY {a:Addr} {w:World} {v:Value} (h:w.cell? a=some v):(method 464 186 (.pointer (some a)) "Len").run Tryz.prog w=.ok (312,v) w:=by
 rw[Gb];simp[Sem.run,h]
theorem GZ {a:Addr} {w:World} {v:Value} (h:w.cell? a=some v):(method 464 186 (.pointer (some a)) "Less").run Tryz.prog w=.ok (313,v) w:=by
 rw[Gc];simp[Sem.run,h]
theorem Ha {a:Addr} {w:World} {v:Value} (h:w.cell? a=some v):(method 464 186 (.pointer (some a)) "Swap").run Tryz.prog w=.ok (314,v) w:=by
 rw[Gd];simp[Sem.run,h]
theorem Fu (v:Value) (w:World):(Instr.typeAssert (.iface 2 v) 20 2 false).run Tryz.prog w=.ok v w:=by kernel_rfl
theorem yV (v:Value) (l:List Int) (i j:Nat) (w:World) (h:ag w v l) (hi:i<l.length) (hj:j<l.length):
  Calls Tryz.prog 313 #[v,.int .i64 i,.int .i64 j] w fun e w'=>e=.returned (.bool (decide (l.getD i 0<l.getD j 0)))/\∃n,w'=w.drewN n:=by
 obtain⟨ao,cap,rfl⟩:=aa h;obtain⟨-,hc1,hc2,hcell⟩:=aL h;unfold maxLen at hc2;obtain⟨b,off,rfl,k1⟩:=hcell i hi;obtain⟨b',off',e',k2⟩:=hcell j hj;cases e';obtain⟨x,hx⟩:=Fe (l.getD i 0)
 obtain⟨y,hy⟩:=Fe (l.getD j 0)
 rw[<-hx]at k1;rw[<-hy]at k2;rw[<-hx,<-hy];obtain⟨n,hn⟩:=Fe l.length
 rw[<-hn]at hi hj hc1⊢;clear hcell h hx hy hn;go_enter Tryz.func313,Tryz.ntmps313;go_wp2
 go_quiet (fail)
 go_wp2;go_ret;exact⟨rfl,⟨_,rfl⟩⟩
theorem yW (v:Value) (l:List Int) (i j:Nat) (w:World) (base:Nat) (h:Own w base v l) (hi:i<l.length) (hj:j<l.length):
  Calls Tryz.prog 314 #[v,.int .i64 i,.int .i64 j] w fun e w'=>e=.returned (.tuple #[])/\Own w' base v (nS l i j)/\w.grownBy w' v.ownBlock:=by
 obtain⟨g,cap,rfl,hbg,hgl⟩:=World.ownsRow.form h Ff;obtain⟨-,hc1,hc2,hcell⟩:=aL h.reads;unfold maxLen at hc2;obtain⟨b,off,e1,k1⟩:=hcell i hi;obtain⟨b',off',e2,k2⟩:=hcell j hj;cases e1;cases e2;simp only[Nat.zero_add]at k1 k2;obtain⟨f1, -,o1⟩:=h.put rfl i hi (l.getD j 0);have hl1:(l.set i (l.getD j 0)).length=l.length:=by simp
 obtain⟨f2,⟨y2,k3⟩,o2⟩:=Own.put o1 Fg j hj (l.getD i 0);have HO:Hid (Own ((w.setCell ⟨g,i,none⟩ (.int .i64 (l.getD j 0))).setCell ⟨g,j,none⟩ (.int .i64 (l.getD i 0))) base (.slice (some ⟨g,0,none⟩) l.length cap) (nS l i j)):=o2;have HG:Hid (w.grownBy ((w.setCell ⟨g,i,none⟩ (.int .i64 (l.getD j 0))).setCell ⟨g,j,none⟩ (.int .i64 (l.getD i 0))) (some g)):=(ai w g i _).trans (ai _ g j _);obtain⟨x,hx⟩:=Fe (l.getD i 0)
 obtain⟨y,hy⟩:=Fe (l.getD j 0)
 obtain⟨s,hs⟩:=Fe (nS l i j)
 rw[<-hs]at HO⊢;rw[<-hx,<-hy]at HO HG;rw[<-hx]at k1;rw[<-hy]at k2 f2 k3;obtain⟨n,hn⟩:=Fe l.length
 rw[<-hn]at hi hj hc1 HO⊢;clear hcell h hx hy hn o1 o2 hs hl1;go_enter Tryz.func314,Tryz.ntmps314;go_wp2
 go_region
 go_wp2
 go_end0
 refine⟨rfl,?_,?_⟩
 ·exact HO.out.below (Below.refl _ _).drew
 ·have:=HG.out
  exact⟨this.os,this.tape,this.output,this.size,this.block⟩
theorem Own.lst {w:World} {x:Int}:∀j,j<[x].length->(w.alloc (.cells #[.int .i64 x] 2)).cell? ⟨w.heap.size,j,none⟩=some (.int .i64 ([x].getD j 0)):=by
 intro j hj;have H:StB (w.alloc (.cells #[.int .i64 x] 2)) w.heap.size 2 #[.int .i64 x]:=StB.new _ _ _
 match j,hj with
 |0,_=>exact H.cell 0 rfl
theorem rR {ops:Array Oper} {o:Oper} {a:Act} {w:World} {K:Act->World->Prop} {Q:Exit->Act->World->Prop} {E:Prop} (hgd:o.guard=none) (s x:Operand)
  (ho:o.op=.call {callee:=.builtin .append,args:=#[s,x],argTypes:=#[140,140]}) (base:Nat) (v:Value) (l:List Int) (hs:a.eval s=v) (hown:Own w base v l)
  (g m c:Nat) (l2:List Int) (hx:a.eval x=.slice (some ⟨g,0,none⟩) m c) (hm:m=l2.length) (hnews:∀j,j<l2.length->w.cell? ⟨g,j,none⟩=some (.int .i64 (l2.getD j 0))) (hsm:l.length+l2.length<=10000000) (hbase:base<=w.heap.size)
  (h:∀v' w',Own w' base v' (l++l2)->w.grownBy w' v.ownBlock->K (a.put o.dst v') w'):if Region.wanted o (yielded ops a.tmps)=true then Oper.wp Tryz.prog o a w K Q else E:=by
 have hw:Region.wanted o (yielded ops a.tmps)=true:=by simp[Region.wanted,hgd]
 rw[if_pos hw];obtain⟨i0,hi,hz0,hz1,hz2⟩:=info_parts Gz;subst hm;have hnews':∀j u,(l2.map (Value.int .i64))[j]?=some u->w.cell? ((⟨g,0,none⟩:Addr).add j)=some u:=by
  intro j u hj;have hlt:j<l2.length:=by
   rcases Nat.lt_or_ge j l2.length with h|h
   ·exact h
   ·rw[List.getElem?_eq_none (by simpa using h)]at hj;cases hj
  rw[show(⟨g,0,none⟩:Addr).add j=⟨g,j,none⟩ by unfold Addr.add;split<;>simp_all];rw[hnews j hlt];simpa[hlt]using hj
 have hone:∀u∈l2.map (Value.int .i64),u.oneCell'=true:=by
  intro u hu;obtain⟨y,_,rfl⟩:=List.mem_map.1 hu;rfl
 obtain⟨v',w',hrun,r1,r2, -⟩:=run_append_own (P:=Tryz.prog) w base 140 o.type 2 i0 (.int .i64 0) 1 8 Tryz.underlying140 hi hz0 hz1 hz2 rfl Fh _ l.length (l.map (Value.int .i64)) hown ⟨g,0,none⟩ l2.length c (l2.map (Value.int .i64)) Fg hnews' hone (by unfold maxLen;omega) Ff hbase;rw[<-List.map_append]at r1;unfold Oper.wp;simp[execOp,ho,resolve,invoke,builtin,hs,hx,hrun,Result.andThen];refine h v' w' ?_ r2;unfold Own;rw[List.length_append];exact r1
theorem yX (x:Int) (v:Value) (l:List Int) (base g:Nat) (w:World) (h:HpB w base g v l) (hl:l.length<=1000):
  Calls Tryz.prog 319 #[.pointer (some ⟨g,0,none⟩),.iface 2 (.int .i64 x)] w fun e w'=>e=.returned (.tuple #[])/\∃u,HpB w' base g u (l++[x])/\Below base w w':=by
 have k0:w.drew.cell? ⟨g,0,none⟩=some v:=h.cell;have hasI:=Fu (.int .i64 x);have hle:base<=w.drew.heap.size:=by have:=h.st.lt;have:=h.le;exact Nat.le_trans h.le (Nat.le_of_lt h.st.lt)
 have HH:Hid (HpB w.drew base g v l):=h.drew (n:=1) rfl;have HL:Hid (l.length<=1000):=hl;obtain⟨ao,cap,rfl⟩:=aa h.own.reads;obtain⟨wa,hwa⟩:=Fe ((w.alloc (.cells #[.int .i64 x] 2)).drew)
 have HA:Hid (HpB wa base g (.slice ao l.length cap) l/\Below base w wa/\base<=wa.heap.size):=by
  have b:iO w wa:=by rw[hwa];exact Fc.drew
  exact⟨h.below b,b.mono hle,Nat.le_trans hle b.size⟩
 have HN:Hid (∀j,j<[x].length->wa.cell? ⟨w.heap.size,j,none⟩=some (.int .i64 ([x].getD j 0))):=by rw[hwa];exact Own.lst
 have k1:wa.cell? ⟨g,0,none⟩=some (.slice ao l.length cap):=HA.out.1.cell;rw[hwa]at k1;clear h hl;go_enter Tryz.func319,Tryz.ntmps319;go_upto_region 0 with fail
 go_region_law
  (first
   |(rw[<-hwa];refine rR rfl (.tmp 7) (.tmp 10) rfl base (.slice ao l.length cap) l (by simp[Act.eval]) HA.out.1.own w.heap.size 1 1 [x] (by simp[Act.eval]) rfl HN.out (by have:=HL.out;simp;omega) HA.out.2.2 ?_;intro v3 w3 o3 g3;obtain⟨S3,O3,B3⟩:=HA.out.1.grow o3 g3;obtain⟨ao3,cap3,rfl⟩:=aa o3.reads;have HP:Hid (StB w3 g 140 #[.slice ao l.length cap]/\Own w3 base (.slice ao3 (l++[x]).length cap3) (l++[x])/\Below base w w3):=⟨S3,O3,HA.out.2.1.trans B3⟩;have k2:w3.cell? ⟨g,0,none⟩=some (.slice ao l.length cap):=S3.cell 0 rfl;have f2:=S3.frozen 0;clear S3 O3 B3 o3 g3))
 all_goals
  go_end0
  have e1:(l++[x]).length=l.length+1:=by simp
  have h3:=HP.out;rw[e1]at h3;have q:=HpB.put h3.1 h3.2.1 HA.out.1.le;exact⟨rfl,_,q.1,h3.2.2.trans q.2⟩
theorem AO (v:Value) (l:List Int) (w:World) (h:ag w v l):
  Calls Tryz.prog 312 #[v] w fun e w'=>e=.returned (.int .i64 l.length)/\w'=w:=by
 obtain⟨ao,cap,rfl⟩:=aa h;clear h;go_enter Tryz.func312,Tryz.ntmps312;go_wp2;go_ret;exact⟨rfl,rfl⟩
theorem Own.cut {w:World} {base n cap:Nat} {ao:Option Addr} {l:List Int} {x:Int} (h:Own w base (.slice ao (n+1) cap) (l++[x])) (hn:n=l.length):Own w base (.slice ao n cap) l:=by
 subst hn;have h':w.ownsRow base 2 1 (.slice ao (l.length+1) cap) (l.length+1) ((l++[x]).map (Value.int .i64)):=by
  have:=h;unfold Own at this
  rwa[List.length_append]at this
 obtain⟨g,cap',e, -, -⟩:=World.ownsRow.form h' Ff;cases e;rw[List.map_append]at h';exact ownsRow_pop Fg h'
theorem Cr (v:Value) (l:List Int) (base g j0:Nat) (w:World) (h:HpB w base g v l) (hj:j0<l.length) (hl:l.length<=1000):
  Calls Tryz.prog 210 #[AN g,.int .i64 j0] w fun e w'=>e=.returned (.tuple #[])/\∃m,HpB w' base g v m/\m.Perm l/\((∀y∈l,y<=l.getD j0 0)->m=l)/\Below base w w':=by
 have HH:Hid (HpB w base g v l):=h;obtain⟨n,hn⟩:=Fe l.length
 have HN:Hid (n=l.length):=hn;rw[<-hn]at hj hl;clear h hn;unfold AN;go_enter Tryz.func210,Tryz.ntmps210;go_wp2;go_loopw [1] (fun j wr=>∃(k:Nat) (m:List Int),j=.int .i64 k/\k<n/\Hid (HpB wr base g v m/\m.Perm l/\((∀y∈l,y<=l.getD j0 0)->m=l/\k=j0)/\Below base w wr)) (fun j _=>(intOf j).toNat)
 case atStart=>exact⟨j0,l,rfl,hj,HH.out,List.Perm.refl _,fun _=>⟨rfl,rfl⟩,Below.refl _ _⟩
 case round=>
  obtain⟨k,m,rfl,hk,HR⟩:=hrel;have k0:wr.cell? ⟨g,0,none⟩=some v:=HR.out.1.cell;have n1:=He ⟨g,0,none⟩;have n2:=Hg ⟨g,0,none⟩;have m1:=GZ k0;have hml:m.length=n:=by rw[HN.out];exact HR.out.2.1.length_eq
  rcases Nat.eq_zero_or_pos k with rfl|hpos
  ·have eq0:((0:Int)==0)=true:=rfl
   go_wp2
   go_end0
   exact⟨rfl,m,HR.out.1,HR.out.2.1,fun hy=>(HR.out.2.2.1 hy).1,HR.out.2.2.2⟩
  ·obtain⟨p,rfl⟩:∃p,k=p+1:=⟨k-1,by omega⟩
   have hq:((((p+1:Nat):Int)-1).tdiv 2)=((p/2:Nat):Int):=by
    rw[show(((p+1:Nat):Int)-1)=(p:Int) by omega];rfl
   clear hq;have e1:((p+1:Nat):Int)=(p:Int)+1:=by omega
   have e2:((p/2:Nat):Int)=(p:Int)/2:=by omega
   have c1:=yV v m (p+1) (p/2) wr HR.out.1.own.reads Ff Ff;rw[e1,e2]at c1;have HB:Hid (decide (m.getD (p+1) 0<m.getD (p/2) 0)=true->¬∀y∈l,y<=l.getD j0 0):=by
    intro hlt hy;obtain⟨em,ek⟩:=HR.out.2.2.1 hy;have hlt':=of_decide_eq_true hlt;rw[em,ek]at hlt';have:=hy (l.getD (p/2) 0) (by
     have hp:p/2<l.length:=by have:=HN.out;omega
     simp only[List.getD_eq_getElem?_getD,List.getElem?_eq_getElem hp,Option.getD_some];exact List.getElem_mem hp)
    omega
   obtain⟨b,hb⟩:=Fe (decide (m.getD (p+1) 0<m.getD (p/2) 0))
   rw[<-hb]at c1 HB;clear hb;go_wp2_with fail
   refine c1.mono ?_;rintro e wq ⟨rfl,q,hq⟩;have HQ:Hid (HpB wq base g v m/\Below base wr wq):=⟨HR.out.1.drew hq,by rw[hq];exact below_drewN (Below.refl _ _) q⟩
   clear c1 hq m1 k0;cases b with
   |false=>
    go_wp2
    go_end0
    exact⟨rfl,m,HQ.out.1,HR.out.2.1,fun hy=>(HR.out.2.2.1 hy).1,HR.out.2.2.2.trans HQ.out.2⟩
   |true=>
    have HF:Hid (¬∀y∈l,y<=l.getD j0 0):=HB.out rfl;clear HB;have c2:=yW v m (p/2) (p+1) wq base HQ.out.1.own Ff Ff;rw[e1,e2]at c2;have m2:=Ha HQ.out.1.cell;go_wp2_with fail
    refine c2.mono ?_;rintro e wz ⟨rfl,o2,g2⟩;obtain⟨z1,z2⟩:=HQ.out.1.swap o2 g2;have HZ:Hid (HpB wz base g v (nS m (p/2) (p+1))/\(nS m (p/2) (p+1)).Perm l/\Below base w wz):=⟨z1,(vD m (p/2) (p+1) Ff Ff).trans HR.out.2.1,(HR.out.2.2.2.trans HQ.out.2).trans z2⟩
    clear c2 o2 g2 z1 z2 m2 HQ;go_wp2;go_roundw
    case rel=>exact⟨p/2,_,by rw[e2],by omega,HZ.out.1,HZ.out.2.1,fun hy=>absurd hy HF.out,HZ.out.2.2⟩
    case measure=>simp[intOf];omega
theorem rS (x:Int) (v:Value) (l:List Int) (base g:Nat) (w:World) (h:HpB w base g v l) (hl:l.length<=900):
  Calls Tryz.prog 166 #[AN g,.iface 2 (.int .i64 x)] w fun e w'=>e=.returned (.tuple #[])/\∃u m,HpB w' base g u m/\m.Perm (l++[x])/\((∀y∈l,y<=x)->m=l++[x])/\Below base w w':=by
 have c1:=yX x v l base g w h Ff;have n1:=Hf ⟨g,0,none⟩;have n2:=Hc ⟨g,0,none⟩;have m1:=G8 ⟨g,0,none⟩;have c3:∀u w',HpB w' base g u (l++[x])->_:=fun u w' h'=>Cr u (l++[x]) base g l.length w' h' Fg (by simp;omega)
 have c2:∀u w',HpB w' base g u (l++[x])->_:=fun u w' h'=>AO u (l++[x]) w' h'.own.reads
 have e1:(((l++[x]).length:Nat):Int)=(l.length:Int)+1:=by simp
 rw[e1]at c2;have HC:Hid _:=c3;have HD:Hid _:=c2;clear h c3 c2 e1;unfold AN at HC⊢;have hl':(l.length:Int)<=900:=by omega
 go_enter Tryz.func166,Tryz.ntmps166;go_wp2_with fail
 refine c1.mono ?_;rintro e w1 ⟨rfl,u,h1,b1⟩;have m2:=GY h1.cell;have c2:=HD.out u w1 h1;have c3:=HC.out u w1 h1;have HB:Hid (Below base w w1):=b1;clear HC HD c1 m1 h1 b1;go_wp2_with fail
 refine c2.mono ?_;rintro e w2 ⟨rfl,hw⟩;subst w2;clear c2 m2;have e3:(l.length:Int)+1-1=l.length:=by omega
 go_wp2_with fail
 refine c3.mono ?_;rintro e w3 ⟨rfl,m,h3,p3,s3,b3⟩;have HE:Hid (HpB w3 base g u m/\m.Perm (l++[x])/\((∀y∈l++[x],y<=(l++[x]).getD l.length 0)->m=l++[x])/\Below base w1 w3):=⟨h3,p3,s3,b3⟩
 clear h3 p3 s3 b3 c3;go_wp2
 go_end0
 refine⟨rfl,u,m,HE.out.1,HE.out.2.1,fun hy=>HE.out.2.2.1 ?_,HB.out.trans HE.out.2.2.2⟩;intro y hm;have e4:(l++[x]).getD l.length 0=x:=by simp
 rw[e4];rcases List.mem_append.1 hm with h|h
 ·exact hy y h
 ·simp at h;omega
section
open Go.ChangeShapes Go.WideShapes Go.ChangeAt Go.RowKit
end
theorem pB {l:List Int} {x:Int} {j:Nat} (h:j<l.length) (h0:x∉l.take j) (hx:x≠l.getD j 0):x∉l.take (j+1):=by
 rw[List.take_succ_eq_append_getElem h,List.mem_append];rintro(h1|h1)
 ·exact h0 h1
 ·simp at h1
  apply hx;rw[h1];simp[h]
theorem qj {l:List Int} {j:Nat} (h:j<l.length):l.getD j 0∈l:=by
 simp only[List.getD_eq_getElem?_getD,List.getElem?_eq_getElem h,Option.getD_some];exact List.getElem_mem h
theorem vR (v:Value) (l:List Int) (x:Int) (w:World) (h:ag w v l):
  Calls Tryz.prog 209 #[v,.int .i64 x] w fun e w'=>∃y:Int,e=.returned (.int .i64 y)/\decide (0<=y)=decide (x∈l)/\w'=w:=by
 obtain⟨ao,cap,rfl⟩:=aa h;obtain⟨-,hc1,hc2,hcell⟩:=aL h;unfold maxLen at hc2;obtain⟨n,hn⟩:=Fe l.length
 rw[<-hn]at hc1 hcell⊢;have HN:Hid (n=l.length):=hn;clear h hn;go_enter Tryz.func209,Tryz.ntmps209;go_wp2;go_loop [8] (fun i=>∃j:Nat,j<=n/\i=.int .i64 j/\Hid (x∉l.take j)) (fun i=>n-(intOf i).toNat)
 case atStart=>exact⟨0,Nat.zero_le _,rfl,by simp[Hid]⟩
 case round=>
  obtain⟨j,hj,rfl,HT⟩:=hrel;by_cases hlt:(j:Int)<(n:Int)
  ·obtain⟨b,off,rfl,hcj⟩:=hcell j Ff
   clear hcell;have hjl:j<l.length:=by have:=HN.out;omega
   have HM:Hid (l.getD j 0∈l):=qj hjl;have HZ:Hid (x≠l.getD j 0->x∉l.take (j+1)):=pB hjl HT.out;obtain⟨z,hz⟩:=Fe (l.getD j 0)
   rw[<-hz]at hcj HM HZ;clear hz hjl;by_cases e:x=z
   ·have HU:Hid (decide (x∈l)=true):=by rw[Hid,e];exact decide_eq_true HM.out
    have eb:(x==z)=true:=by simpa using e
    clear e HM HZ;go_wp2;go_ret;exact⟨_,rfl,⟨fun _=>of_decide_eq_true HU.out,fun _=>by omega⟩,rfl⟩
   ·have eb:(x==z)=false:=by simpa using e
    have HU:Hid (x∉l.take (j+1)):=HZ.out e;clear e HM HZ;go_wp2
    go_round
    case rel=>exact⟨j+1,by omega,by go_num,HU⟩
    case measure=>simp[intOf];omega
  ·have HU:Hid (decide (x∈l)=false):=by
    have:=HT.out;rw[List.take_of_length_le (by have:=HN.out;omega)]at this;exact decide_eq_false this
   clear hcell;go_wp2;go_ret;exact⟨_,rfl,⟨fun h=>by omega,fun h=>absurd h (of_decide_eq_false HU.out)⟩,rfl⟩
theorem pC (v:Value) (l:List Int) (x:Int) (w:World) (h:ag w v l):
  Calls Tryz.prog 165 #[v,.int .i64 x] w fun e w'=>e=.returned (.bool (decide (x∈l)))/\w'=w:=by
 have c1:=vR v l x w h;clear h;go_enter Tryz.func165,Tryz.ntmps165;go_wp2_with fail
 refine c1.mono ?_;rintro e w' ⟨y,rfl,hy,hw⟩;subst w';have HY:Hid (decide (0<=y)=decide (x∈l)):=hy;clear hy c1;go_wp2;go_ret;exact⟨af HY.out,rfl⟩
theorem vS (s i:Int) (w:World) (h0:0<=s) (h1:s<256) (h2:0<=i) (h3:i<8):
  Calls Tryz.prog 168 #[.int .i64 s,.int .i64 i] w fun e w'=>e=.returned (.int .i64 (cv s i))/\w'=w:=by
 go_enter Tryz.func168,Tryz.ntmps168;go_wp2;go_ret;exact⟨cZ (BH h0 h1 h2 h3),rfl⟩
theorem AP (v:Value) (l:List Int) (w:World) (h:ag w v l) (hb:∀x∈l,0<=x/\x<8):
  Calls Tryz.prog 124 #[v] w fun e w'=>e=.returned (.int .i64 (iS l))/\w'=w:=by
 obtain⟨ao,cap,rfl⟩:=aa h;obtain⟨-,hc1,hc2,hcell⟩:=aL h;unfold maxLen at hc2;obtain⟨n,hn⟩:=Fe l.length
 rw[<-hn]at hc1 hcell⊢;have HN:Hid (n=l.length):=hn;have HB:Hid (∀x∈l,0<=x/\x<8):=hb;have HD:Hid (∀j,0<=iS (l.take j)/\iS (l.take j)<256):=fun j=>by
  have:=xZ (l:=l.take j) (fun x hx=>hb x (List.mem_of_mem_take hx));exact⟨this.1,this.2.1⟩
 clear h hn hb;go_enter Tryz.func124,Tryz.ntmps124;go_wp2;go_loop [3,8] (fun q i=>∃j:Nat,j<=n/\i=.int .i64 j/\∃y:Int,q=.int .i64 y/\Hid (y=iS (l.take j))) (fun _ i=>n-(intOf i).toNat)
 case atStart=>exact⟨0,Nat.zero_le _,rfl,0,rfl,by simp[Hid,iS]⟩
 case round=>
  obtain⟨j,hj,rfl,y,rfl,HY⟩:=hrel;by_cases hlt:(j:Int)<(n:Int)
  ·obtain⟨b,off,rfl,hcj⟩:=hcell j Ff
   clear hcell;have hjl:j<l.length:=by have:=HN.out;omega
   have hm:=HB.out _ (qj hjl);have hd:=HD.out j;rw[<-HY.out]at hd;have HZ:Hid (cv y (l.getD j 0)=iS (l.take (j+1))):=by rw[Hid,HY.out];exact(yP l j hjl).symm
   have c1:=fun wx=>vS y (l.getD j 0) wx hd.1 hd.2 hm.1 hm.2
   obtain⟨z,hz⟩:=Fe (l.getD j 0)
   rw[<-hz]at hcj HZ;simp only[<-hz]at c1;obtain⟨q,hq⟩:=Fe (cv y z)
   rw[<-hq]at HZ;simp only[<-hq]at c1;clear hz hjl hm hd hq HY;go_wp2_with fail
   refine Fd (c1 _) ?_;clear c1;go_wp2
   go_round
   case rel=>exact⟨j+1,by omega,by go_num,q,rfl,HZ⟩
   case measure=>simp[intOf];omega
  ·have HU:Hid (y=iS l):=by
    have:=HY.out
    rwa[List.take_of_length_le (by have:=HN.out;omega)]at this
   clear hcell HY;go_wp2;go_ret;exact⟨cZ HU.out,rfl⟩
theorem tF (v:Value) (l:List Int) (s:Int) (base g:Nat) (w:World) (h:HpB w base g v l) (hd:l.Nodup) (hb:∀x∈l,0<=x/\x<8):
  Calls Tryz.prog 122 #[.pointer (some ⟨g,0,none⟩),.int .i64 s] w fun e w'=>e=.returned (.tuple #[])/\∃u m,HpB w' base g u m/\dU l s 8 m/\Below base w w':=by
 have HH:Hid (HpB w base g v l):=h;have HD:Hid (l.Nodup):=hd;have HB:Hid (∀x∈l,0<=x/\x<8):=hb;clear h hd hb;go_enter Tryz.func122,Tryz.ntmps122;go_wp2;go_loopw [5] (fun i wr=>∃(k:Nat) (u:Value) (m:List Int),i=.int .i64 k/\k<=8/\Hid (HpB wr base g u m/\dU l s k m/\Below base w wr)) (fun i _=>8-(intOf i).toNat)
 case atStart=>exact⟨0,v,l,rfl,by omega,HH.out,dU.start HD.out s,Below.refl _ _⟩
 case round=>
  obtain⟨k,u,m,rfl,hk,HR⟩:=hrel;have k0:wr.cell? ⟨g,0,none⟩=some u:=HR.out.1.cell;by_cases hlt:(k:Int)<8
  ·have c1:=D7 s k wr
   have HS:Hid (inB s k=false->dU l s (k+1) m):=HR.out.2.1.skip;have HT:Hid (inB s k=true->(k:Int)∈m->dU l s (k+1) m):=HR.out.2.1.there;have HP:Hid (∀q:List Int,inB s k=true->(k:Int)∉m->q.Perm (m++[(k:Int)])->((∀y∈m,y<=(k:Int))->q=m++[(k:Int)])->dU l s (k+1) q):=fun q=>HR.out.2.1.push
   have hlm:m.length<=8:=tq HR.out.2.1.nodup (HR.out.2.1.bound HB.out Ff);have c2:=pC u m k wr HR.out.1.own.reads;have c3:=rS k u m base g wr HR.out.1 Ff;obtain⟨bi,hbi⟩:=Fe (inB s k)
   rw[<-hbi]at c1 HS HT HP;have HC:Hid (decide ((k:Int)∈m)=true->(k:Int)∈m):=of_decide_eq_true;have HC':Hid (decide ((k:Int)∈m)=false->(k:Int)∉m):=of_decide_eq_false;obtain⟨bc,hbc⟩:=Fe (decide ((k:Int)∈m))
   rw[<-hbc]at c2 HC HC';unfold AN at c3;clear hbi hbc hlm;go_wp2_with fail
   refine Fd c1 ?_;clear c1;cases bi with
   |false=>
    have HA:Hid (dU l s (k+1) m):=HS.out rfl;clear HS HT HP HC HC' c2 c3;go_wp2;go_roundw
    case rel=>exact⟨k+1,u,m,by go_num,by omega,HR.out.1,HA.out,HR.out.2.2⟩
    case measure=>simp[intOf];omega
   |true=>
    have HT':Hid ((k:Int)∈m->dU l s (k+1) m):=HT.out rfl;have HP':Hid (∀q:List Int,(k:Int)∉m->q.Perm (m++[(k:Int)])->((∀y∈m,y<=(k:Int))->q=m++[(k:Int)])->dU l s (k+1) q):=fun q=>HP.out q rfl
    clear HT HP HS;go_wp2_with fail
    refine Fd c2 ?_;clear c2;cases bc with
    |true=>
     have HA:Hid (dU l s (k+1) m):=HT'.out (HC.out rfl);clear HT' HP' HC HC' c3;go_wp2;go_roundw
     case rel=>exact⟨k+1,u,m,by go_num,by omega,HR.out.1,HA.out,HR.out.2.2⟩
     case measure=>simp[intOf];omega
    |false=>
     have HA:Hid ((k:Int)∉m):=HC'.out rfl;clear HT' HC HC';go_wp2_with fail
     refine c3.mono ?_;rintro e w3 ⟨rfl,u3,q,h3,p3,s3,b3⟩;have HZ:Hid (HpB w3 base g u3 q/\dU l s (k+1) q/\Below base w w3):=⟨h3,HP'.out q HA.out p3 s3,HR.out.2.2.trans b3⟩
     clear c3 h3 p3 s3 b3 HP' HA;go_wp2;go_roundw
     case rel=>exact⟨k+1,u3,q,by go_num,by omega,HZ.out⟩
     case measure=>simp[intOf];omega
  ·have hk8:k=8:=by omega
   clear k0;go_wp2
   go_end0
   have:=HR.out;rw[hk8]at this;exact⟨rfl,u,m,this⟩
theorem vT (v:Value) (c:Cp) (w:World) (hr:ag w v c.ts):
  Calls Tryz.prog 121 #[CpV v c] w fun e w'=>∃u,e=.returned u/\Own w' w.heap.size u (fh c.di 8)/\iO w w':=by
 obtain⟨ao,cap,rfl⟩:=aa hr;obtain⟨w1,hw1⟩:=Fe (w.alloc (.cells (cpA (.slice ao c.ts.length cap) c) 39))
 obtain⟨w2,hw2⟩:=Fe (w1.alloc (.cells #[] 2))
 obtain⟨w3,hw3⟩:=Fe (w2.alloc (.cells #[.slice (some ⟨w.heap.size+1,0,none⟩) 0 0] 140))
 have z1:w1.heap.size=w.heap.size+1:=by rw[hw1,World.size_alloc]
 have z2:w2.heap.size=w.heap.size+1+1:=by rw[hw2,World.size_alloc,z1]
 have b1:iO w w1:=by rw[hw1];exact Fc
 have b2:iO w1 w2:=by rw[hw2];exact Fc
 have b3:iO w2 w3:=by rw[hw3];exact Fc
 have s1:StB w3 w.heap.size 39 (cpA (.slice ao c.ts.length cap) c):=by
  have:StB w1 w.heap.size 39 (cpA (.slice ao c.ts.length cap) c):=by rw[hw1];exact StB.new _ _ _
  exact(this.below b2).below b3
 have o2:Own w2 w.heap.size (.slice (some ⟨w.heap.size+1,0,none⟩) 0 0) []:=by
  rw[<-z1,hw2];exact Own.mono (World.ownsRow_lit w1 #[] 0 (Nat.le_refl _) (Nat.zero_le _) rfl) Ff
 have h3:HpB w3 w.heap.size (w.heap.size+1+1) (.slice (some ⟨w.heap.size+1,0,none⟩) 0 0) []:=by
  refine⟨?_,o2.below b3,by omega⟩;rw[<-z2,hw3];exact StB.new _ _ _
 have B3:Hid (iO w w3):=(b1.trans (b2.mono b1.size)).trans (b3.mono (Nat.le_trans b1.size b2.size));have c1:=tF _ [] c.di w.heap.size (w.heap.size+1+1) w3 h3 List.nodup_nil Fg;have k2:w3.cell? ⟨w.heap.size,2,none⟩=some (.int .i64 c.di):=s1.cell 2 rfl;have HW:Hid (w3=((w.alloc (.cells #[.int .i64 c.tr,.bool c.op,.int .i64 c.di,.int .i64 c.wa,.slice ao c.ts.length cap] 39)).alloc (.cells #[] 2)).alloc (.cells #[.slice (some ⟨w.heap.size+1,0,none⟩) 0 0] 140)):=by rw[Hid,hw3,hw2,hw1];rfl
 clear hr hw1 hw2 hw3 z1 z2 b1 b2 b3 s1 o2 h3;unfold CpV cpA;go_enter Tryz.func121,Tryz.ntmps121;go_upto_region 2 with fail
 rw[<-HW.out];clear HW;go_wp2_with fail
 refine c1.mono ?_;rintro e w4 ⟨rfl,u,m,h4,a4,b4⟩;have k4:=h4.cell;obtain⟨ao4,cap4,rfl⟩:=aa h4.own.reads;have HE:Hid (Own w4 w.heap.size (.slice ao4 m.length cap4) (fh c.di 8)/\iO w w4):=⟨by rw[<-a4.bag rfl];exact h4.own,B3.out.trans b4⟩
 clear c1 h4 a4 b4 B3 k2;go_wp2;go_ret;exact⟨_,rfl,HE.out⟩
end Go.Proofs.YthldeiojlllkdaaGreatDoor
