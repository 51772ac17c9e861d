import Derived.Test.YtpdggofaobmnlaaGreatDoorIStoH
import Derived.Test.YtpdggofaobmnlaaGreatDoorSStore4
import Derived.Test.YtpdggofaobmnlaaGreatDoorM17
import Derived.Test.YtpdggofaobmnlaaGreatDoorM26
import Derived.LaidMore
import Derived.Stop.Joined
import Derived.Stop.LaidErr
import Derived.Lib.LaidTab
import Derived.ProofKit
import Derived.LaidHandle
import Derived.OpenVars
/- The program's store by commands: DidStore. -/
set_option maxRecDepth 20000
set_option maxHeartbeats 2000000
namespace Go.Proofs.YtpdggofaobmnlaaGreatDoor
open Go.ChangeShapes Go.WideShapes Go.ChangeAt Go.RowKit
theorem idid_good (f:Four) (u v q:Value) (xs ys:List Int) (h:Hd) (i:Int) (c:Cm) (w:World) (hu:Reads w u xs) (hv:Reads w v ys) (hq:Reads w q h.ks) (hb:bothOk xs ys=true) (ok:h.ok=true) (S:Sen f w) (dx dy:List Int) (hh:Hd) (tx:Bs) (CP':∀wx,Below w.heap.size w wx→Calls Tryz.prog 31 #[SRV u v q h,.int .i64 i,CV c] wx (Cres wx dx dy hh tx .nilIface)):
  Calls Tryz.prog 7 #[SRV u v q h,.int .i64 i,CV c] w fun e w'=>∃a b k,e=.returned (.tuple #[SRV a b k hh,AV ⟨0,tx⟩])∧OwnR w' w.heap.size a b k dx dy hh.ks∧Below w.heap.size w w':=by
 obtain⟨w1,hw1⟩:∃w1,w1=(((w.alloc (.cells (srA u v q h) 30)).alloc (.cells (cmA c) 32)).alloc (.cells zeR 30)).alloc (.cells (anA ⟨0,[]⟩) 36):=⟨_,rfl⟩
 have HX:Hid (Ds w w1 u v q h c):=by rw[hw1];exact Ds.start w u v q h c
 have HSN:Hid (Sen f w):=S
 obtain⟨n1,n8,nl⟩:=vol_len hb
 have gx:xs.length≤1099511627776:=by omega
 have gy:ys.length≤1099511627776:=by omega
 have hx1:1≤xs.length:=by omega
 have hy1:1≤ys.length:=by omega
 have hk4:=(Hd.ok_all ok).1
 have hk1:1≤h.ks.length:=by omega
 have gk:h.ks.length≤1099511627776:=by omega
 have hok:Sr.ok ⟨xs,ys,h⟩=true:=by simp[Sr.ok,hb,ok]
 have c1:Calls Tryz.prog 12 #[.agg (srA u v q h)] w1 fun e w'=>e=.returned (.bool true)∧Below w1.heap.size w1 w':=by
  have:=istoreok_any u v q xs ys h w1 (hu.below HX.out.bl (Nat.le_refl _)) (hv.below HX.out.bl (Nat.le_refl _)) (hq.below HX.out.bl (Nat.le_refl _)) gx gy gk
  rw[hok]at this
  exact this
 obtain⟨uo,uc,rfl⟩:=reads_form hu
 obtain⟨vo,vc,rfl⟩:=reads_form hv
 obtain⟨qo,qc,rfl⟩:=reads_form hq
 have CP:Hid (∀wx,Below w.heap.size w wx→Calls Tryz.prog 31 #[.agg (srA (.slice uo xs.length uc) (.slice vo ys.length vc) (.slice qo h.ks.length qc) h),.int .i64 i,.agg #[.int .i64 c.o,.int .i64 c.p,.int .i64 c.a,.int .i64 c.b,.int .i64 c.k]] wx (fun e w'=>∃a b k,e=.returned (.tuple #[SRV a b k hh,.string ⟨tx.toArray⟩,.nilIface])∧OwnR w' wx.heap.size a b k dx dy hh.ks∧Below wx.heap.size wx w')):=CP'
 clear CP' hu hv hq S hb ok gx gy gk hx1 hy1 hk1 hk4 n1 n8 nl hok HSN
 unfold SRV CV
 conv in srA (.slice uo xs.length uc) (.slice vo ys.length vc) (.slice qo h.ks.length qc) _=>unfold srA
 unfold cmA
 unfold srA cmA zeR anA S at hw1
 go_enter Tryz.func7,Tryz.ntmps7
 go_upto_region 1 with fail
 rw[←hw1]
 clear hw1
 go_wp2_with (refine wpList_getS Tryz.isR rfl _ rfl w.heap.size rfl _ rfl HX.out.st ?_)
 refine c1.mono ?_
 rintro e w2 ⟨rfl,b2⟩
 have X2:Hid (Ds w w2 (.slice uo xs.length uc) (.slice vo ys.length vc) (.slice qo h.ks.length qc) h c):=HX.out.next b2
 clear HX b2 c1
 have m0:w2.cell? ⟨w.heap.size+1,0,none⟩=some (.int .i64 c.o):=X2.out.cm.cell 0 rfl
 have m1:w2.cell? ⟨w.heap.size+1,1,none⟩=some (.int .i64 c.p):=X2.out.cm.cell 1 rfl
 have m2:w2.cell? ⟨w.heap.size+1,2,none⟩=some (.int .i64 c.a):=X2.out.cm.cell 2 rfl
 have m3:w2.cell? ⟨w.heap.size+1,3,none⟩=some (.int .i64 c.b):=X2.out.cm.cell 3 rfl
 have m4:w2.cell? ⟨w.heap.size+1,4,none⟩=some (.int .i64 c.k):=X2.out.cm.cell 4 rfl
 go_wp2_with (refine wpList_getS Tryz.isR rfl _ rfl w.heap.size rfl _ rfl X2.out.st ?_)
 refine(CP.out _ X2.out.bl).mono ?_
 rintro e w3 ⟨a,b,k,rfl,o3,b3⟩
 obtain⟨ao,ac,rfl⟩:=o3.1.1.reads.form
 obtain⟨bo,bc,rfl⟩:=o3.1.2.1.reads.form
 obtain⟨ko,kc,rfl⟩:=o3.2.1.reads.form
 unfold SRV
 conv in srA (.slice ao dx.length ac) (.slice bo dy.length bc) (.slice ko hh.ks.length kc) hh=>unfold srA
 clear m0 m1 m2 m3 m4 CP
 obtain⟨w4,hw4⟩:∃w4,w4=w3.alloc (.cells #[.slice ao dx.length ac,.slice bo dy.length bc,.slice ko hh.ks.length kc,.int .i64 hh.kd,.int .i64 hh.ho,.int .i64 hh.tu] 30):=⟨_,rfl⟩
 have b4:Below w3.heap.size w3 w4:=by rw[hw4];exact(Below.refl _ _).alloc (Nat.le_refl _) _
 have X4:Hid (Ds w w4 (.slice uo xs.length uc) (.slice vo ys.length vc) (.slice qo h.ks.length qc) h c):=(X2.out.next b3).next b4
 have O4:Hid (OwnR w4 (w.heap.size+4) (.slice ao dx.length ac) (.slice bo dy.length bc) (.slice ko hh.ks.length kc) dx dy hh.ks∧StB w4 w3.heap.size 30 (srA (.slice ao dx.length ac) (.slice bo dy.length bc) (.slice ko hh.ks.length kc) hh)):=⟨(o3.mono X2.out.sz).below b4,by rw[hw4];exact StB.new _ _ _⟩
 clear X2 b3 b4 o3
 go_upto_region 4 with fail
 rw[←hw4]
 clear hw4
 obtain⟨g,hg⟩:∃g,g=w3.heap.size:=⟨_,rfl⟩
 rw[←hg]at O4⊢
 clear hg
 go_wp2_with (first
  |(refine wpList_getS Tryz.isR rfl _ rfl g rfl _ rfl O4.out.2 ?_)
  |(refine wpList_putS Tryz.isR rfl _ _ rfl (w.heap.size+1+1) (srA (.slice ao dx.length ac) (.slice bo dy.length bc) (.slice ko hh.ks.length kc) hh) zeR rfl rfl rfl rfl (srA_one hh rfl rfl rfl) X4.out.rs ?_;intro w7 s7 g7;have ra7:=X4.out.ra.kept g7 (by simp))
  |(refine wpList_putS Tryz.isA rfl _ _ rfl (w.heap.size+1+1+1) (anA ⟨0,tx⟩) (anA ⟨0,[]⟩) rfl rfl rfl rfl (by simp[anA,S,Value.oneCell']) ra7 ?_;intro w8 s8 g8))
 refine bodyPost_ret (results_RA rfl _ _ (w.heap.size+1+1) (w.heap.size+1+1+1) _ _ rfl rfl rfl rfl (s7.kept g8 (by simp)) s8) rfl ?_
 exact⟨_,_,_,rfl,X4.out.fin O4.out.1 (Nat.le_refl _) g7 g8⟩
theorem idid_bad (f:Four) (u v q:Value) (xs ys:List Int) (h:Hd) (i:Int) (c:Cm) (w:World) (hu:Reads w u xs) (hv:Reads w v ys) (hq:Reads w q h.ks) (hb:bothOk xs ys=true) (ok:h.ok=true) (S:Sen f w) (st:Int) (tt:Bs) (hs':st=1∨st=2∨st=3∨st=7) (dx dy:List Int) (hh:Hd) (tx:Bs) (CP':∀wx,Below w.heap.size w wx→Calls Tryz.prog 31 #[SRV u v q h,.int .i64 i,CV c] wx (Cres wx dx dy hh tx (rfV f st tt))):
  Calls Tryz.prog 7 #[SRV u v q h,.int .i64 i,CV c] w fun e w'=>∃a b k,e=.returned (.tuple #[SRV a b k h,AV ⟨st,tt⟩])∧OwnR w' w.heap.size a b k xs ys h.ks∧Below w.heap.size w w':=by
 obtain⟨w1,hw1⟩:∃w1,w1=(((w.alloc (.cells (srA u v q h) 30)).alloc (.cells (cmA c) 32)).alloc (.cells zeR 30)).alloc (.cells (anA ⟨0,[]⟩) 36):=⟨_,rfl⟩
 have HX:Hid (Ds w w1 u v q h c):=by rw[hw1];exact Ds.start w u v q h c
 have HSN:Hid (Sen f w):=S
 obtain⟨n1,n8,nl⟩:=vol_len hb
 have gx:xs.length≤1099511627776:=by omega
 have gy:ys.length≤1099511627776:=by omega
 have hx1:1≤xs.length:=by omega
 have hy1:1≤ys.length:=by omega
 have hk4:=(Hd.ok_all ok).1
 have hk1:1≤h.ks.length:=by omega
 have gk:h.ks.length≤1099511627776:=by omega
 have hok:Sr.ok ⟨xs,ys,h⟩=true:=by simp[Sr.ok,hb,ok]
 have c1:Calls Tryz.prog 12 #[.agg (srA u v q h)] w1 fun e w'=>e=.returned (.bool true)∧Below w1.heap.size w1 w':=by
  have:=istoreok_any u v q xs ys h w1 (hu.below HX.out.bl (Nat.le_refl _)) (hv.below HX.out.bl (Nat.le_refl _)) (hq.below HX.out.bl (Nat.le_refl _)) gx gy gk
  rw[hok]at this
  exact this
 have CF:Hid (∀wx,Below w.heap.size w wx→Calls Tryz.prog 32 #[.agg (srA u v q h)] wx fun e w'=>∃a b k,e=.returned (.agg (srA a b k h))∧OwnR w' wx.heap.size a b k xs ys h.ks∧Below wx.heap.size wx w'):=fun wx e=>ifreshStore_any u v q xs ys h wx (hu.below e (Nat.le_refl _)) (hv.below e (Nat.le_refl _)) (hq.below e (Nat.le_refl _)) hx1 hy1 hk1 gx gy gk
 have CS':=fun wx (e:Below w.heap.size w wx)=>istatus_any f st tt wx (S.below e) hs'
 have CT':=fun wx (e:Below w.heap.size w wx)=>itext_any f st tt wx (S.below e)
 obtain⟨EV,hEV⟩:∃EV,EV=rfV f st tt:=⟨_,rfl⟩
 have hI:∃t p,EV=.iface t p:=⟨_,_,hEV⟩
 rw[←hEV]at CS' CT' CP'
 obtain⟨et,ep,rfl⟩:=hI
 have CS:Hid (∀wx,Below w.heap.size w wx→Calls Tryz.prog 33 #[.iface et ep] wx fun e w'=>e=.returned (.int .i64 st)∧Below wx.heap.size wx w'):=CS'
 have CT:Hid (∀wx,Below w.heap.size w wx→Calls Tryz.prog 34 #[.iface et ep] wx fun e w'=>e=.returned (.string ⟨tt.toArray⟩)∧Below wx.heap.size wx w'):=CT'
 obtain⟨uo,uc,rfl⟩:=reads_form hu
 obtain⟨vo,vc,rfl⟩:=reads_form hv
 obtain⟨qo,qc,rfl⟩:=reads_form hq
 have CP:Hid (∀wx,Below w.heap.size w wx→Calls Tryz.prog 31 #[.agg (srA (.slice uo xs.length uc) (.slice vo ys.length vc) (.slice qo h.ks.length qc) h),.int .i64 i,.agg #[.int .i64 c.o,.int .i64 c.p,.int .i64 c.a,.int .i64 c.b,.int .i64 c.k]] wx (fun e w'=>∃a b k,e=.returned (.tuple #[SRV a b k hh,.string ⟨tx.toArray⟩,.iface et ep])∧OwnR w' wx.heap.size a b k dx dy hh.ks∧Below wx.heap.size wx w')):=CP'
 clear CP' CS' CT' hEV hs' hu hv hq S hb ok gx gy gk hx1 hy1 hk1 hk4 n1 n8 nl hok HSN
 unfold SRV CV
 conv in srA (.slice uo xs.length uc) (.slice vo ys.length vc) (.slice qo h.ks.length qc) _=>unfold srA
 unfold cmA
 unfold srA cmA zeR anA S at hw1
 go_enter Tryz.func7,Tryz.ntmps7
 go_upto_region 1 with fail
 rw[←hw1]
 clear hw1
 go_wp2_with (refine wpList_getS Tryz.isR rfl _ rfl w.heap.size rfl _ rfl HX.out.st ?_)
 refine c1.mono ?_
 rintro e w2 ⟨rfl,b2⟩
 have X2:Hid (Ds w w2 (.slice uo xs.length uc) (.slice vo ys.length vc) (.slice qo h.ks.length qc) h c):=HX.out.next b2
 clear HX b2 c1
 have m0:w2.cell? ⟨w.heap.size+1,0,none⟩=some (.int .i64 c.o):=X2.out.cm.cell 0 rfl
 have m1:w2.cell? ⟨w.heap.size+1,1,none⟩=some (.int .i64 c.p):=X2.out.cm.cell 1 rfl
 have m2:w2.cell? ⟨w.heap.size+1,2,none⟩=some (.int .i64 c.a):=X2.out.cm.cell 2 rfl
 have m3:w2.cell? ⟨w.heap.size+1,3,none⟩=some (.int .i64 c.b):=X2.out.cm.cell 3 rfl
 have m4:w2.cell? ⟨w.heap.size+1,4,none⟩=some (.int .i64 c.k):=X2.out.cm.cell 4 rfl
 go_wp2_with (refine wpList_getS Tryz.isR rfl _ rfl w.heap.size rfl _ rfl X2.out.st ?_)
 refine(CP.out _ X2.out.bl).mono ?_
 rintro e w3 ⟨a,b,k,rfl,o3,b3⟩
 obtain⟨ao,ac,rfl⟩:=o3.1.1.reads.form
 obtain⟨bo,bc,rfl⟩:=o3.1.2.1.reads.form
 obtain⟨ko,kc,rfl⟩:=o3.2.1.reads.form
 unfold SRV
 conv in srA (.slice ao dx.length ac) (.slice bo dy.length bc) (.slice ko hh.ks.length kc) hh=>unfold srA
 clear m0 m1 m2 m3 m4 CP
 obtain⟨w4,hw4⟩:∃w4,w4=w3.alloc (.cells #[.slice ao dx.length ac,.slice bo dy.length bc,.slice ko hh.ks.length kc,.int .i64 hh.kd,.int .i64 hh.ho,.int .i64 hh.tu] 30):=⟨_,rfl⟩
 have b4:Below w3.heap.size w3 w4:=by rw[hw4];exact(Below.refl _ _).alloc (Nat.le_refl _) _
 have X4:Hid (Ds w w4 (.slice uo xs.length uc) (.slice vo ys.length vc) (.slice qo h.ks.length qc) h c):=(X2.out.next b3).next b4
 have O4:Hid (OwnR w4 (w.heap.size+4) (.slice ao dx.length ac) (.slice bo dy.length bc) (.slice ko hh.ks.length kc) dx dy hh.ks∧StB w4 w3.heap.size 30 (srA (.slice ao dx.length ac) (.slice bo dy.length bc) (.slice ko hh.ks.length kc) hh)):=⟨(o3.mono X2.out.sz).below b4,by rw[hw4];exact StB.new _ _ _⟩
 clear X2 b3 b4 o3
 go_upto_region 4 with fail
 rw[←hw4]
 clear hw4
 clear O4
 go_wp2_with (refine wpList_getS Tryz.isR rfl _ rfl w.heap.size rfl _ rfl X4.out.st ?_)
 refine(CF.out _ X4.out.bl).mono ?_
 rintro e w5 ⟨a5,b5',k5,rfl,o5,b5⟩
 obtain⟨a5o,a5c,rfl⟩:=o5.1.1.reads.form
 obtain⟨b5o,b5c,rfl⟩:=o5.1.2.1.reads.form
 obtain⟨k5o,k5c,rfl⟩:=o5.2.1.reads.form
 have X5:Hid (Ds w w5 (.slice uo xs.length uc) (.slice vo ys.length vc) (.slice qo h.ks.length qc) h c):=X4.out.next b5
 have O5:Hid (OwnR w5 (w.heap.size+4) (.slice a5o xs.length a5c) (.slice b5o ys.length b5c) (.slice k5o h.ks.length k5c) xs ys h.ks):=o5.mono X4.out.sz
 clear X4 b5 o5 CF
 go_wp2_with fail
 refine(CS.out _ X5.out.bl).mono ?_
 rintro e w6 ⟨rfl,b6⟩
 have X6:Hid (Ds w w6 (.slice uo xs.length uc) (.slice vo ys.length vc) (.slice qo h.ks.length qc) h c):=X5.out.next b6
 have O6:Hid (OwnR w6 (w.heap.size+4) (.slice a5o xs.length a5c) (.slice b5o ys.length b5c) (.slice k5o h.ks.length k5c) xs ys h.ks):=O5.out.below b6
 clear X5 O5 b6 CS
 go_wp2_with fail
 refine(CT.out _ X6.out.bl).mono ?_
 rintro e w7 ⟨rfl,b7⟩
 have X7:Hid (Ds w w7 (.slice uo xs.length uc) (.slice vo ys.length vc) (.slice qo h.ks.length qc) h c):=X6.out.next b7
 have O7:Hid (OwnR w7 (w.heap.size+4) (.slice a5o xs.length a5c) (.slice b5o ys.length b5c) (.slice k5o h.ks.length k5c) xs ys h.ks):=O6.out.below b7
 clear X6 O6 b7 CT
 go_wp2_with (first
  |(refine wpList_putS Tryz.isR rfl _ _ rfl (w.heap.size+1+1) (srA (.slice a5o xs.length a5c) (.slice b5o ys.length b5c) (.slice k5o h.ks.length k5c) h) zeR rfl rfl rfl rfl (srA_one h rfl rfl rfl) X7.out.rs ?_;intro w8 s8 g8;have ra8:=X7.out.ra.kept g8 (by simp))
  |(refine wpList_putS Tryz.isA rfl _ _ rfl (w.heap.size+1+1+1) (anA ⟨st,tt⟩) (anA ⟨0,[]⟩) rfl rfl rfl rfl (by simp[anA,S,Value.oneCell']) ra8 ?_;intro w9 s9 g9))
 refine bodyPost_ret (results_RA rfl _ _ (w.heap.size+1+1) (w.heap.size+1+1+1) _ _ rfl rfl rfl rfl (s8.kept g9 (by simp)) s9) rfl ?_
 exact⟨_,_,_,rfl,X7.out.fin O7.out (Nat.le_refl _) g8 g9⟩
theorem idid_wrong (u v q:Value) (xs ys:List Int) (h:Hd) (i:Int) (c:Cm) (w:World) (hu:Reads w u xs) (hv:Reads w v ys) (hq:Reads w q h.ks) (gx:xs.length≤1099511627776) (gy:ys.length≤1099511627776) (gk:h.ks.length≤1099511627776) (hok:Sr.ok ⟨xs,ys,h⟩=false):
  Calls Tryz.prog 7 #[SRV u v q h,.int .i64 i,CV c] w fun e w'=>∃a b k,e=.returned (.tuple #[SRV a b k Hd.zero,AV ⟨7,[]⟩])∧OwnR w' w.heap.size a b k [] [] Hd.zero.ks∧Below w.heap.size w w':=by
 obtain⟨w1,hw1⟩:∃w1,w1=(((w.alloc (.cells (srA u v q h) 30)).alloc (.cells (cmA c) 32)).alloc (.cells zeR 30)).alloc (.cells (anA ⟨0,[]⟩) 36):=⟨_,rfl⟩
 have HX:Hid (Ds w w1 u v q h c):=by rw[hw1];exact Ds.start w u v q h c
 have c1:Calls Tryz.prog 12 #[.agg (srA u v q h)] w1 fun e w'=>e=.returned (.bool false)∧Below w1.heap.size w1 w':=by
  have:=istoreok_any u v q xs ys h w1 (hu.below HX.out.bl (Nat.le_refl _)) (hv.below HX.out.bl (Nat.le_refl _)) (hq.below HX.out.bl (Nat.le_refl _)) gx gy gk
  rw[hok]at this
  exact this
 obtain⟨uo,uc,rfl⟩:=reads_form hu
 obtain⟨vo,vc,rfl⟩:=reads_form hv
 obtain⟨qo,qc,rfl⟩:=reads_form hq
 clear hu hv hq gx gy gk hok
 unfold SRV CV
 conv in srA (.slice uo xs.length uc) (.slice vo ys.length vc) (.slice qo h.ks.length qc) _=>unfold srA
 unfold cmA
 unfold srA cmA zeR anA S at hw1
 go_enter Tryz.func7,Tryz.ntmps7
 go_upto_region 1 with fail
 rw[←hw1]
 clear hw1
 go_wp2_with (refine wpList_getS Tryz.isR rfl _ rfl w.heap.size rfl _ rfl HX.out.st ?_)
 refine c1.mono ?_
 rintro e w2 ⟨rfl,b2⟩
 have X2:Hid (Ds w w2 (.slice uo xs.length uc) (.slice vo ys.length vc) (.slice qo h.ks.length qc) h c):=HX.out.next b2
 clear HX b2 c1
 go_wp2_with (first
  |(refine wpList_putS Tryz.isR rfl _ _ rfl (w.heap.size+1+1) zeR zeR rfl rfl rfl rfl (srA_one Hd.zero rfl rfl rfl) X2.out.rs ?_;intro w7 s7 g7;have ra7:=X2.out.ra.kept g7 (by simp))
  |(refine wpList_putS Tryz.isA rfl _ _ rfl (w.heap.size+1+1+1) (anA ⟨7,[]⟩) (anA ⟨0,[]⟩) rfl rfl rfl rfl (by simp[anA,S,Value.oneCell']) ra7 ?_;intro w8 s8 g8))
 refine bodyPost_ret (results_RA rfl _ _ (w.heap.size+1+1) (w.heap.size+1+1+1) _ _ rfl rfl rfl rfl (s7.kept g8 (by simp)) s8) rfl ?_
 exact⟨_,_,_,rfl,X2.out.fin (OwnR.nil w2 (w.heap.size+4)) (Nat.le_refl _) g7 g8⟩
def TabS (w:World):Prop:=Tab w∧∃f,Sen f w
theorem TabS.below {w w':World} (h:TabS w) (b:Below w.heap.size w w'):TabS w':=by
 obtain⟨t,f,s⟩:=h
 exact⟨t.below b,f,s.below b⟩
theorem iDidStore_any (u v q:Value) (xs ys:List Int) (h:Hd) (i:Int) (c:Cm) (w:World) (hu:Reads w u xs) (hv:Reads w v ys) (hq:Reads w q h.ks) (gx:xs.length≤1099511627776) (gy:ys.length≤1099511627776) (gk:h.ks.length≤1099511627776) (ht:TabS w):
  Calls Tryz.prog 7 #[SRV u v q h,.int .i64 i,CV c] w fun e w'=>∃a b k,e=.returned (.tuple #[SRV a b k (Sr.did ⟨xs,ys,h⟩ i c).1.h,AV (Sr.did ⟨xs,ys,h⟩ i c).2])∧OwnR w' w.heap.size a b k (Sr.did ⟨xs,ys,h⟩ i c).1.xs (Sr.did ⟨xs,ys,h⟩ i c).1.ys (Sr.did ⟨xs,ys,h⟩ i c).1.h.ks∧Below w.heap.size w w':=by
 obtain⟨tb,f,S⟩:=ht
 cases hok:Sr.ok ⟨xs,ys,h⟩with
 |false=>
  have e:Sr.did ⟨xs,ys,h⟩ i c=(Sr.zero,⟨7,[]⟩):=by unfold Sr.did;rw[hok];rfl
  rw[e]
  exact idid_wrong u v q xs ys h i c w hu hv hq gx gy gk hok
 |true=>
  have hbo:bothOk xs ys=true∧h.ok=true:=by
   have e:(bothOk xs ys&&h.ok)=true:=hok
   exact Bool.and_eq_true_iff.1 e
  obtain⟨hb,ok⟩:=hbo
  have ru:∀wx,Below w.heap.size w wx→Reads wx u xs:=fun wx e=>hu.below e (Nat.le_refl _)
  have rv:∀wx,Below w.heap.size w wx→Reads wx v ys:=fun wx e=>hv.below e (Nat.le_refl _)
  have rq:∀wx,Below w.heap.size w wx→Reads wx q h.ks:=fun wx e=>hq.below e (Nat.le_refl _)
  cases hn:(inI i 0 3&&c.ok)with
  |false=>
   have e:Sr.did ⟨xs,ys,h⟩ i c=(⟨xs,ys,h⟩,⟨7,[]⟩):=by unfold Sr.did;rw[hok,hn];rfl
   rw[e]
   exact idid_bad f u v q xs ys h i c w hu hv hq hb ok S 7 [] (.inr (.inr (.inr rfl))) [] [] Hd.zero [] (fun wx e=>icmdNone_any f u v q xs ys h i c wx (ru wx e) (rv wx e) (rq wx e) (S.below e) hn)
  |true=>
   obtain⟨hi,hc⟩:=Bool.and_eq_true_iff.1 hn
   have ed:Sr.did ⟨xs,ys,h⟩ i c=Sr.doing ⟨xs,ys,h⟩ i c:=by unfold Sr.did;rw[hok,hn];rfl
   rw[ed]
   have hrw:=rdwr hc
   by_cases h5:c.o≤5
   ·rw[decide_eq_true h5]at hrw
    have hbl:∀(dx dy:List Int) (hh:Hd) (tx:Bs) (EV:Value),(∀wx,Below w.heap.size w wx→Calls Tryz.prog 75 #[SRV u v q h,.int .i64 i,CV c] wx (Cres wx dx dy hh tx EV))→∀wx,Below w.heap.size w wx→Calls Tryz.prog 31 #[SRV u v q h,.int .i64 i,CV c] wx (Cres wx dx dy hh tx EV):=by
     intro dx dy hh tx EV CP wx e
     have CP2:∀wy,Below wx.heap.size wx wy→Calls Tryz.prog 75 #[SRV u v q h,.int .i64 i,CV c] wy (Cres wy dx dy hh tx EV):=fun wy k=>CP wy (e.trans (k.mono e.size))
     cases hrd:c.rd with
     |true=>
      cases hwr:c.wr with
      |false=>exact icmdRead_any f u v q xs ys h i c wx (ru wx e) (rv wx e) (rq wx e) (S.below e) hi hc hrd hwr dx dy hh tx EV CP2
      |true=>
       have e1:c.o=1:=by
        unfold Cm.rd at hrd
        rw[hc]at hrd
        simpa using hrd
       unfold Cm.wr at hwr
       rw[hc,e1]at hwr
       cases hwr
     |false=>
      have hwr:c.wr=true:=by rw[hrd]at hrw;simpa using hrw
      exact icmdWrite_any f u v q xs ys h i c wx (ru wx e) (rv wx e) (rq wx e) (S.below e) hi hc hrd hwr dx dy hh tx EV CP2
    cases hm:h.may i (decide (c.o≠1))with
    |false=>
     have e:Sr.doing ⟨xs,ys,h⟩ i c=(⟨xs,ys,h⟩,⟨3,[]⟩):=by
      unfold Sr.doing
      rw[if_neg (by omega)]
      dsimp only
      rw[hm,if_neg (by decide)]
     rw[e]
     have hM:h.May i c.wr=false:=by rw[may_May ok hi,wr_ne hc h5];exact hm
     refine idid_bad f u v q xs ys h i c w hu hv hq hb ok S 3 [] (.inr (.inr (.inl rfl))) [] [] Hd.zero [] (hbl _ _ _ _ _ (fun wx e=>?_))
     refine(iblkNo_any f u v q xs ys h i c wx (ru wx e) (rv wx e) (rq wx e) hb ok (S.below e) hM).mono ?_
     rintro e w' ⟨rfl,b⟩
     exact⟨_,_,_,rfl,OwnR.nil _ _,b⟩
    |true=>
     have e:Sr.doing ⟨xs,ys,h⟩ i c=(⟨(didI xs ys c).1,(didI xs ys c).2.1,h⟩,(didI xs ys c).2.2):=by
      unfold Sr.doing
      rw[if_neg (by omega)]
      dsimp only
      rw[hm,if_pos rfl]
     have hM:h.May i c.wr=true:=by rw[may_May ok hi,wr_ne hc h5];exact hm
     have hD:=didD_low hb hc h5
     have hst:=didI_sts xs ys c
     have CB:=fun wx (e:Below w.heap.size w wx)=>iblkYes_any f u v q xs ys h i c wx (ru wx e) (rv wx e) (rq wx e) hb ok (S.below e) (tb.below e) hM (by rw[hD];exact hst)
     rw[hD]at CB
     by_cases h0:(didI xs ys c).2.2.st=0
     ·have CP:=hbl (didI xs ys c).1 (didI xs ys c).2.1 h (didI xs ys c).2.2.tx .nilIface (fun wx e=>by have:=CB wx e;rw[h0,errV_no]at this;exact this)
      have:=idid_good f u v q xs ys h i c w hu hv hq hb ok S _ _ _ _ CP
      rw[e]
      dsimp only
      rw[show(didI xs ys c).2.2=⟨0,(didI xs ys c).2.2.tx⟩from by rw[←h0]]
      exact this
     ·have ht4:(didI xs ys c).2.2.st=1∨(didI xs ys c).2.2.st=2∨(didI xs ys c).2.2.st=3∨(didI xs ys c).2.2.st=7:=by
       rcases hst with k|k|k|k
       ·exact absurd k h0
       ·exact .inl k.1
       ·exact .inr (.inl k)
       ·exact .inr (.inr (.inr k.1))
      have CP:=hbl (didI xs ys c).1 (didI xs ys c).2.1 h (didI xs ys c).2.2.tx (rfV f (didI xs ys c).2.2.st (didI xs ys c).2.2.tx) (fun wx e=>by have:=CB wx e;rw[errV_yes f h0]at this;exact this)
      have:=idid_bad f u v q xs ys h i c w hu hv hq hb ok S _ _ ht4 _ _ _ _ CP
      have hsame:=did_bad (s:=⟨xs,ys,h⟩) (i:=i) (c:=c) hok (by rw[ed,e];exact h0)
      rw[ed]at hsame
      have h2:(Sr.doing ⟨xs,ys,h⟩ i c).2=(didI xs ys c).2.2:=by rw[e]
      rw[hsame,h2]
      exact this
   ·rw[decide_eq_false h5]at hrw
    have hrd:c.rd=false:=by cases e:c.rd with|false=>rfl|true=>rw[e]at hrw;cases hrw
    have hwr:c.wr=false:=by rw[hrd]at hrw;exact hrw
    have e:Sr.doing ⟨xs,ys,h⟩ i c=(⟨xs,ys,(h.act i c).1⟩,(h.act i c).2):=by unfold Sr.doing;rw[if_pos (by omega)]
    by_cases h11:c.o=11
    ·have ea:h.act i c=(h,⟨0,h.keysT⟩):=by unfold Hd.act;rw[h11];rfl
     rw[e,ea]
     exact idid_good f u v q xs ys h i c w hu hv hq hb ok S _ _ _ _ (fun wx e=>icmdKeysOf_any f u v q xs ys h i c wx (ru wx e) (rv wx e) (rq wx e) (S.below e) hb ok (tb.below e) hi hc hrd hwr h11)
    ·by_cases h12:c.o=12
     ·have ea:h.act i c=(h,⟨0,h.holdT⟩):=by unfold Hd.act;rw[h12];rfl
      rw[e,ea]
      exact idid_good f u v q xs ys h i c w hu hv hq hb ok S _ _ _ _ (fun wx e=>icmdHolderOf_any f u v q xs ys h i c wx (ru wx e) (rv wx e) (rq wx e) (S.below e) hb ok (tb.below e) hi hc hrd hwr h12)
     ·obtain⟨a1,a2,a3,a4⟩:=after_act ok hi hc (by omega) h11 h12
      have CB:=fun wx (e:Below w.heap.size w wx)=>iholdCmd_any f u v q xs ys h i c wx (ru wx e) (rv wx e) (rq wx e) hb ok (S.below e)
      rw[a1]at CB
      by_cases h0:(h.act i c).2.st=0
      ·have CP:∀wx,Below w.heap.size w wx→Calls Tryz.prog 31 #[SRV u v q h,.int .i64 i,CV c] wx (Cres wx xs ys (h.act i c).1 [] .nilIface):=fun wx e=>
        icmdHold_any f u v q xs ys h i c wx (ru wx e) (rv wx e) (rq wx e) (S.below e) hi hc hrd hwr h11 h12 _ _ _ _ _ (fun wy k=>by have:=CB wy (e.trans (k.mono e.size));rw[h0,errV_no,a3 h0]at this;exact this)
       have:=idid_good f u v q xs ys h i c w hu hv hq hb ok S _ _ _ _ CP
       rw[e]
       dsimp only
       rw[show(h.act i c).2=⟨0,[]⟩from by rw[←h0,←a2]]
       exact this
      ·have ht4:(h.act i c).2.st=1∨(h.act i c).2.st=2∨(h.act i c).2.st=3∨(h.act i c).2.st=7:=by
        rcases a4 with k|k|k
        ·exact absurd k h0
        ·exact .inl k
        ·exact .inr (.inr (.inl k))
       have CP:∀wx,Below w.heap.size w wx→Calls Tryz.prog 31 #[SRV u v q h,.int .i64 i,CV c] wx (Cres wx xs ys (h.after i c).1 [] (rfV f (h.act i c).2.st [])):=fun wx e=>
        icmdHold_any f u v q xs ys h i c wx (ru wx e) (rv wx e) (rq wx e) (S.below e) hi hc hrd hwr h11 h12 _ _ _ _ _ (fun wy k=>by have:=CB wy (e.trans (k.mono e.size));rw[errV_yes f h0]at this;exact this)
       have:=idid_bad f u v q xs ys h i c w hu hv hq hb ok S _ _ ht4 _ _ _ _ CP
       rw[e]
       dsimp only
       rw[act_bad h0]
       rw[show(h.act i c).2=⟨(h.act i c).2.st,[]⟩from by rw[←a2]]
       exact this
end Go.Proofs.YtpdggofaobmnlaaGreatDoor
namespace Go.Proofs.YtpdggofaobmnlaaGreatDoor
open Go.ChangeShapes Go.WideShapes Go.ChangeAt Go.RowKit
theorem pow_is:(Rows.laid_internal_strconv_uint64pow10:DataW Unit)=Lib.tabData .u64 Lib.pow10Tab:=by kernel_rfl
theorem tab_third {W:World} {a b:String×DataW Unit} {rest:List (String×DataW Unit)} (h:laidMet Tryz.prog (a::b::("internal/strconv.uint64pow10",Rows.laid_internal_strconv_uint64pow10)::rest) W):Tab W:=by
 have h3:laidMet Tryz.prog (("internal/strconv.uint64pow10",Lib.tabData .u64 Lib.pow10Tab)::rest) W:=by
  have:=h.tail.tail
  rw[pow_is]at this
  exact this
 exact Lib.tabIs_of_head (show Tryz.prog.globalNamed "internal/strconv.uint64pow10"=some 5 by kernel_rfl) (show(Tryz.prog.globals[5]?).map (·.type)=some 233 by kernel_rfl) Tryz.underlying233 Tryz.underlying216 (by kernel_rfl) (by kernel_rfl) h3
end Go.Proofs.YtpdggofaobmnlaaGreatDoor
namespace Go.Proofs.YtpdggofaobmnlaaGreatDoor
open Go.ChangeShapes Go.WideShapes Go.ChangeAt Go.RowKit
theorem Tryz.cellsES:Tryz.prog.cellsOf 266=1:=by kernel_rfl
theorem Tryz.cellsSt:Tryz.prog.cellsOf 9=1:=by kernel_rfl
theorem Tryz.starES: "*"++ "errors.errorString"= "*errors.errorString":=by decide
theorem Tryz.rowES (u:TypeId) (h:Tryz.prog.typeName? 3 u=some "*errors.errorString"):u=247:=
 typeName_ptr_named (nm:= "errors.errorString") (by rw[Tryz.starES];kernel_rfl) (by kernel_rfl) (by decide) u (by rw[Tryz.starES];exact h)
theorem laid_four {P:Program} {n0 n1 n2 n3 nm:String} {x0 x1 x2 x3:List UInt8} {r:List (String×DataW Unit)} {W:World} {g0 g1 g2 g3:Nat} {ti tp te ts:TypeId} {ms:Array (String×TypeId)} {f:Field}
  (h:laidMet P ((n0,.iface nm (.ptr (.agg [.lit (.string x0)])))::(n1,.iface nm (.ptr (.agg [.lit (.string x1)])))::(n2,.iface nm (.ptr (.agg [.lit (.string x2)])))::(n3,.iface nm (.ptr (.agg [.lit (.string x3)])))::r) W)
  (hg0:P.globalNamed n0=some g0) (ht0:(P.globals[g0]?).map (·.type)=some ti) (hg1:P.globalNamed n1=some g1) (ht1:(P.globals[g1]?).map (·.type)=some ti)
  (hg2:P.globalNamed n2=some g2) (ht2:(P.globals[g2]?).map (·.type)=some ti) (hg3:P.globalNamed n3=some g3) (ht3:(P.globals[g3]?).map (·.type)=some ti)
  (hi:P.underlying ti=some (.interface ms)) (hrow:∀u,P.typeName? 3 u=some nm→u=tp)
  (hp:P.underlying tp=some (.pointer te)) (he:P.underlying te=some (.struct #[f])) (hft:f.type=ts) (hfo:f.offset=0) (hs:P.underlying ts=some .string) (hc:P.cellsOf te=1) (hcs:P.cellsOf ts=1):
  ∃a0 a1 a2 a3:Addr,W.cell? ⟨g0,0,none⟩=some (.iface tp (.pointer (some a0)))∧W.cell? ⟨g1,0,none⟩=some (.iface tp (.pointer (some a1)))∧W.cell? ⟨g2,0,none⟩=some (.iface tp (.pointer (some a2)))∧W.cell? ⟨g3,0,none⟩=some (.iface tp (.pointer (some a3)))∧
   Held W a0∧Held W a1∧Held W a2∧Held W a3∧a0≠a1∧a0≠a2∧a0≠a3∧a1≠a2∧a1≠a3∧a2≠a3:=by
 obtain⟨ps,⟨g0',t0',cs0,f0,p0,q0,hg0',ht0',hv0,hd0,⟨g1',t1',cs1,f1,p1,q1,hg1',ht1',hv1,hd1,⟨g2',t2',cs2,f2,p2,q2,hg2',ht2',hv2,hd2,⟨g3',t3',cs3,f3,p3,q3,hg3',ht3',hv3,hd3,_,e3⟩,e2⟩,e1⟩,e0⟩,hnd,hrows⟩:=h
 obtain rfl:=Option.some.inj (hg0.symm.trans hg0')
 obtain rfl:=Option.some.inj (hg1.symm.trans hg1')
 obtain rfl:=Option.some.inj (hg2.symm.trans hg2')
 obtain rfl:=Option.some.inj (hg3.symm.trans hg3')
 obtain rfl:=Option.some.inj (ht0.symm.trans ht0')
 obtain rfl:=Option.some.inj (ht1.symm.trans ht1')
 obtain rfl:=Option.some.inj (ht2.symm.trans ht2')
 obtain rfl:=Option.some.inj (ht3.symm.trans ht3')
 subst e3
 subst e2
 subst e1
 subst e0
 obtain⟨l0⟩:=cs0
 obtain⟨l1⟩:=cs1
 obtain⟨l2⟩:=cs2
 obtain⟨l3⟩:=cs3
 have ok0:∀u v,l0=[.iface u v]→Value.okWide P W .any 0 u v:=fun u v e=>by
  subst e
  exact(hrows g0 0 (by simp[MemPlace.row])).2 u v (by simpa using World.var?_cell hg0' hv0 0)
 have ok1:∀u v,l1=[.iface u v]→Value.okWide P W .any 0 u v:=fun u v e=>by
  subst e
  exact(hrows g1 0 (by simp[MemPlace.row])).2 u v (by simpa using World.var?_cell hg1' hv1 0)
 have ok2:∀u v,l2=[.iface u v]→Value.okWide P W .any 0 u v:=fun u v e=>by
  subst e
  exact(hrows g2 0 (by simp[MemPlace.row])).2 u v (by simpa using World.var?_cell hg2' hv2 0)
 have ok3:∀u v,l3=[.iface u v]→Value.okWide P W .any 0 u v:=fun u v e=>by
  subst e
  exact(hrows g3 0 (by simp[MemPlace.row])).2 u v (by simpa using World.var?_cell hg3' hv3 0)
 obtain⟨a0,s0,rfl, -, -, -,rfl⟩:=errorString_of_trod hi hrow hp he hft hfo hs hc hcs hd0 ok0
 obtain⟨a1,s1,rfl, -, -, -,rfl⟩:=errorString_of_trod hi hrow hp he hft hfo hs hc hcs hd1 ok1
 obtain⟨a2,s2,rfl, -, -, -,rfl⟩:=errorString_of_trod hi hrow hp he hft hfo hs hc hcs hd2 ok2
 obtain⟨a3,s3,rfl, -, -, -,rfl⟩:=errorString_of_trod hi hrow hp he hft hfo hs hc hcs hd3 ok3
 refine⟨a0,a1,a2,a3,by simpa using World.var?_cell hg0' hv0 0,by simpa using World.var?_cell hg1' hv1 0,by simpa using World.var?_cell hg2' hv2 0,by simpa using World.var?_cell hg3' hv3 0,(hrows a0.block a0.off (by simp[MemPlace.row])).1,(hrows a1.block a1.off (by simp[MemPlace.row])).1,(hrows a2.block a2.off (by simp[MemPlace.row])).1,(hrows a3.block a3.off (by simp[MemPlace.row])).1,?_,?_,?_,?_,?_,?_⟩<;>(rintro rfl;simp[MemPlace.row]at hnd)
theorem vars4 {H:Type} {enc:TypeId×Value→H} {P:Program} {w:World} {sp:Nat→Bool} {n1 n2 n3 n4:String} {gs:List (DataW H)} {ps:List MemPlace} (h:DataW.TrodVars enc P w sp [n1,n2,n3,n4] gs ps):∃a b c d,gs=[a,b,c,d]:=by
 rcases gs with _|⟨a,_|⟨b,_|⟨c,_|⟨d,_|⟨e,r⟩⟩⟩⟩⟩<;>simp_all [DataW.TrodVars]
theorem Tryz.etG:Tryz.prog.globalNamed "errors.errorType"=some 4:=by kernel_rfl
theorem Tryz.rtG:(Tryz.prog.cutTypes.find? (·.1== "internal/reflectlite.rtype")).map (·.2)=some 168:=by kernel_rfl
theorem Tryz.sizeT:Tryz.prog.types.size=278:=by kernel_rfl
theorem Tryz.oneRow:((List.range 278).filter fun t=>Tryz.prog.rowNamed t [101,114,114,111,114])=[66]:=by kernel_rfl
theorem handle_of {W:World} (h:handlesMet Tryz.prog [("errors.errorType",Rows.laid_errors_errorType)] W):W.cell? ⟨4,0,none⟩=some (.iface 168 (.agg #[.pointer (some ⟨9,66,none⟩)])):=by
 obtain⟨name,u,ty,e1,e2,e3,e4,e5⟩:=h _ (List.mem_singleton.2 rfl)
 have en:name=[101,114,114,111,114]:=(Option.some.inj e1).symm
 subst en
 obtain rfl:=Option.some.inj (Tryz.rtG.symm.trans e2)
 have hm:ty∈(List.range 278).filter fun t=>Tryz.prog.rowNamed t [101,114,114,111,114]:=List.mem_filter.2 ⟨List.mem_range.2 (by rw[←Tryz.sizeT];exact e3),e4⟩
 rw[Tryz.oneRow]at hm
 obtain rfl:=List.mem_singleton.1 hm
 have hh:typeHandle Tryz.prog 66=.pointer (some ⟨9,66,none⟩):=by kernel_rfl
 rw[hh]at e5
 simpa using World.var?_cell Tryz.etG e5 0
theorem tabS_of {W:World} {a b:String×DataW Unit} (h:laidMet Tryz.prog (a::b::("internal/strconv.uint64pow10",Rows.laid_internal_strconv_uint64pow10)::("loop.example/g00354/impl.errRange",Rows.laid_loop_example_g00354_impl_errRange)::("loop.example/g00354/impl.errUnlike",Rows.laid_loop_example_g00354_impl_errUnlike)::("loop.example/g00354/impl.errConflict",Rows.laid_loop_example_g00354_impl_errConflict)::("loop.example/g00354/impl.errNone",Rows.laid_loop_example_g00354_impl_errNone)::[]) W)
  (h':handlesMet Tryz.prog [("errors.errorType",Rows.laid_errors_errorType)] W):TabS W:=by
 obtain⟨a0,a1,a2,a3,c0,c1,c2,c3,h0,h1,h2,h3,n01,n02,n03,n12,n13,n23⟩:=laid_four h.tail.tail.tail (show Tryz.prog.globalNamed "loop.example/g00354/impl.errRange"=some 1 by kernel_rfl) (by kernel_rfl) (show Tryz.prog.globalNamed "loop.example/g00354/impl.errUnlike"=some 2 by kernel_rfl) (by kernel_rfl) (show Tryz.prog.globalNamed "loop.example/g00354/impl.errConflict"=some 3 by kernel_rfl) (by kernel_rfl) (show Tryz.prog.globalNamed "loop.example/g00354/impl.errNone"=some 0 by kernel_rfl) (by kernel_rfl) Tryz.underlying66 Tryz.rowES Tryz.underlying247 Tryz.underlying266 rfl rfl Tryz.underlying9 Tryz.cellsES Tryz.cellsSt
 exact⟨tab_third h,⟨a3,a0,a1,a2⟩,⟨c3,c0,c1,c2,handle_of h',h3,h0,h1,h2,Ne.symm n03,Ne.symm n13,Ne.symm n23,Ne.symm n01,Ne.symm n02,Ne.symm n12⟩⟩
theorem tab_fnExactDidStore {W:World} (h:laidMetH Tryz.prog Rows.fnExactDidStoreRow.laid W):TabS W:=by
 have h':laidMet Tryz.prog [("math/bits.deBruijn32tab",Rows.laid_math_bits_deBruijn32tab),("math/bits.deBruijn64tab",Rows.laid_math_bits_deBruijn64tab),("internal/strconv.uint64pow10",Rows.laid_internal_strconv_uint64pow10),("loop.example/g00354/impl.errRange",Rows.laid_loop_example_g00354_impl_errRange),("loop.example/g00354/impl.errUnlike",Rows.laid_loop_example_g00354_impl_errUnlike),("loop.example/g00354/impl.errConflict",Rows.laid_loop_example_g00354_impl_errConflict),("loop.example/g00354/impl.errNone",Rows.laid_loop_example_g00354_impl_errNone)] W∧handlesMet Tryz.prog [("errors.errorType",Rows.laid_errors_errorType)] W:=h
 exact tabS_of h'.1 h'.2
theorem met_fnExactDidStore (os:Os) (args:Array Value):laidMetH Tryz.prog Rows.fnExactDidStoreRow.laid ((World.doorLaid Tryz.prog 1000 os).forCall (fun _ _=>0) ⟨#[],args,[]⟩).memory:=
 laidMetH_of_parts3 (fuel:=8) (laidMet_of_run' 8 (by kernel_rfl) (by kernel_rfl)) (by kernel_rfl) (by kernel_rfl)
theorem tab_fnStore {W:World} (h:laidMetH Tryz.prog Rows.fnStoreRow.laid W):TabS W:=by
 have h':laidMet Tryz.prog [("math/bits.deBruijn32tab",Rows.laid_math_bits_deBruijn32tab),("math/bits.deBruijn64tab",Rows.laid_math_bits_deBruijn64tab),("internal/strconv.uint64pow10",Rows.laid_internal_strconv_uint64pow10),("loop.example/g00354/impl.errRange",Rows.laid_loop_example_g00354_impl_errRange),("loop.example/g00354/impl.errUnlike",Rows.laid_loop_example_g00354_impl_errUnlike),("loop.example/g00354/impl.errConflict",Rows.laid_loop_example_g00354_impl_errConflict),("loop.example/g00354/impl.errNone",Rows.laid_loop_example_g00354_impl_errNone)] W∧handlesMet Tryz.prog [("errors.errorType",Rows.laid_errors_errorType)] W:=h
 exact tabS_of h'.1 h'.2
theorem met_fnStore (os:Os) (args:Array Value):laidMetH Tryz.prog Rows.fnStoreRow.laid ((World.doorLaid Tryz.prog 1000 os).forCall (fun _ _=>0) ⟨#[],args,[]⟩).memory:=
 laidMetH_of_parts3 (fuel:=8) (laidMet_of_run' 8 (by kernel_rfl) (by kernel_rfl)) (by kernel_rfl) (by kernel_rfl)
end Go.Proofs.YtpdggofaobmnlaaGreatDoor
