import Derived.Test.YtpdggofaobmnlaaGreatDoorM34
/- The program's store by commands, on: commanded. -/
set_option maxRecDepth 20000
set_option maxHeartbeats 2000000
namespace Go.Proofs.YtpdggofaobmnlaaGreatDoor
open Go.ChangeShapes Go.WideShapes Go.ChangeAt Go.RowKit
def Cres (w:World) (dx dy:List Int) (hh:Hd) (tx:Bs) (EV:Value) (e:Ending) (w':World):Prop:=
 ∃a b k,e=.returned (.tuple #[SRV a b k hh,.string ⟨tx.toArray⟩,EV])∧OwnR w' w.heap.size a b k dx dy hh.ks∧Below w.heap.size w w'
theorem icmdNone_any (f:Four) (u v q:Value) (xs ys:List Int) (h:Hd) (i:Int) (c:Cm) (w:World) (hu:Reads w u xs) (hv:Reads w v ys) (hq:Reads w q h.ks) (S:Sen f w) (hn:(inI i 0 3&&c.ok)=false):
  Calls Tryz.prog 31 #[SRV u v q h,.int .i64 i,CV c] w (Cres w [] [] Hd.zero [] (rfV f 7 [])):=by
 obtain⟨w1,hw1⟩:∃w1,w1=((w.alloc (.cells (srA u v q h) 30)).alloc (.cells (cmA c) 32)).alloc (.cells zeR 30):=⟨_,rfl⟩
 have HX:Hid (Cx w w1 u v q h c):=by rw[hw1];exact Cx.start w u v q h c
 have HRD:Hid (Reads w u xs∧Reads w v ys∧Reads w q h.ks):=⟨hu,hv,hq⟩
 have HSN:Hid (Sen f w):=S
 obtain⟨uo,uc,rfl⟩:=reads_form hu
 obtain⟨vo,vc,rfl⟩:=reads_form hv
 obtain⟨qo,qc,rfl⟩:=reads_form hq
 have CO:Hid (∀wx,Calls Tryz.prog 71 #[.agg #[.int .i64 c.o,.int .i64 c.p,.int .i64 c.a,.int .i64 c.b,.int .i64 c.k]] wx fun e w'=>e=.returned (.bool c.ok)∧Below wx.heap.size wx w'):=fun wx=>icmdok_any c wx
 clear hu hv hq S HRD
 unfold Cres
 rw[show rfV f 7 []=.iface 99 (.agg #[.iface 247 (.pointer (some f.n)),.string ⟨#[]⟩])from rfl]
 have cp:=fun wx=>iperson_any i wx
 cases hi:inI i 0 3 with
 |false=>
  rw[hi]at cp
  have kn:=(HSN.out.below HX.out.bl).n
  clear hn hi CO
  unfold SRV CV
  conv in srA (.slice uo xs.length uc) (.slice vo ys.length vc) (.slice qo h.ks.length qc) _=>unfold srA
  unfold cmA
  unfold srA cmA zeR at hw1
  have m0:w1.cell? ⟨w.heap.size+1,0,none⟩=some (.int .i64 c.o):=HX.out.cm.cell 0 rfl
  have m1:w1.cell? ⟨w.heap.size+1,1,none⟩=some (.int .i64 c.p):=HX.out.cm.cell 1 rfl
  have m2:w1.cell? ⟨w.heap.size+1,2,none⟩=some (.int .i64 c.a):=HX.out.cm.cell 2 rfl
  have m3:w1.cell? ⟨w.heap.size+1,3,none⟩=some (.int .i64 c.b):=HX.out.cm.cell 3 rfl
  have m4:w1.cell? ⟨w.heap.size+1,4,none⟩=some (.int .i64 c.k):=HX.out.cm.cell 4 rfl
  go_enter Tryz.func31,Tryz.ntmps31
  go_upto_region 1 with fail
  rw[←hw1]
  clear hw1
  go_wp2_with (first
   |(go_at_call 70;refine(cp _).mono ?_;rintro e w' ⟨rfl,hw'⟩;subst w')
   |(go_at_call 72;refine(irefusedFor_any _ _ _).mono ?_;rintro e w' ⟨rfl,hw'⟩;subst w')
   |(refine wpList_putS Tryz.isR rfl _ _ rfl (w.heap.size+1+1) zeR zeR rfl rfl rfl rfl (srA_one Hd.zero rfl rfl rfl) HX.out.rs ?_;intro w5 s5 g5))
  refine bodyPost_ret (results_S3 Tryz.isR rfl _ _ (w.heap.size+1+1) _ _ _ rfl rfl rfl rfl s5) rfl ?_
  exact⟨_,_,_,rfl,OwnR.nil _ _,HX.out.bl.grown g5 HX.out.bl.size (fun k e=>by cases e;omega)⟩
 |true=>
  have hc:c.ok=false:=by rw[hi]at hn;simpa using hn
  rw[hi]at cp
  rw[hc]at CO
  clear hn hi hc
  unfold SRV CV
  conv in srA (.slice uo xs.length uc) (.slice vo ys.length vc) (.slice qo h.ks.length qc) _=>unfold srA
  unfold cmA
  unfold srA cmA zeR at hw1
  have m0:w1.cell? ⟨w.heap.size+1,0,none⟩=some (.int .i64 c.o):=HX.out.cm.cell 0 rfl
  have m1:w1.cell? ⟨w.heap.size+1,1,none⟩=some (.int .i64 c.p):=HX.out.cm.cell 1 rfl
  have m2:w1.cell? ⟨w.heap.size+1,2,none⟩=some (.int .i64 c.a):=HX.out.cm.cell 2 rfl
  have m3:w1.cell? ⟨w.heap.size+1,3,none⟩=some (.int .i64 c.b):=HX.out.cm.cell 3 rfl
  have m4:w1.cell? ⟨w.heap.size+1,4,none⟩=some (.int .i64 c.k):=HX.out.cm.cell 4 rfl
  go_enter Tryz.func31,Tryz.ntmps31
  go_upto_region 1 with fail
  rw[←hw1]
  clear hw1
  go_wp2_with (go_at_call 70;refine(cp _).mono ?_;rintro e w' ⟨rfl,hw'⟩;subst w')
  refine(CO.out _).mono ?_
  rintro e w2 ⟨rfl,b2⟩
  have X2:Hid (Cx w w2 (.slice uo xs.length uc) (.slice vo ys.length vc) (.slice qo h.ks.length qc) h c):=HX.out.next b2
  have kn:=(HSN.out.below X2.out.bl).n
  clear HX b2 m0 m1 m2 m3 m4 CO cp
  go_wp2_with (first
   |(go_at_call 72;refine(irefusedFor_any _ _ _).mono ?_;rintro e w' ⟨rfl,hw'⟩;subst w')
   |(refine wpList_putS Tryz.isR rfl _ _ rfl (w.heap.size+1+1) zeR zeR rfl rfl rfl rfl (srA_one Hd.zero rfl rfl rfl) X2.out.rs ?_;intro w5 s5 g5))
  refine bodyPost_ret (results_S3 Tryz.isR rfl _ _ (w.heap.size+1+1) _ _ _ rfl rfl rfl rfl s5) rfl ?_
  exact⟨_,_,_,rfl,OwnR.nil _ _,X2.out.bl.grown g5 X2.out.bl.size (fun k e=>by cases e;omega)⟩
theorem icmdRead_any (f:Four) (u v q:Value) (xs ys:List Int) (h:Hd) (i:Int) (c:Cm) (w:World) (hu:Reads w u xs) (hv:Reads w v ys) (hq:Reads w q h.ks) (S:Sen f w) (hi:inI i 0 3=true) (hc:c.ok=true) (hrd:c.rd=true) (hwr:c.wr=false) (dx dy:List Int) (hh:Hd) (tx:Bs) (EV:Value) (CP':∀wx,Below w.heap.size w wx→Calls Tryz.prog 75 #[SRV u v q h,.int .i64 i,CV c] wx (Cres wx dx dy hh tx EV)):
  Calls Tryz.prog 31 #[SRV u v q h,.int .i64 i,CV c] w (Cres w dx dy hh tx EV):=by
 obtain⟨w1,hw1⟩:∃w1,w1=((w.alloc (.cells (srA u v q h) 30)).alloc (.cells (cmA c) 32)).alloc (.cells zeR 30):=⟨_,rfl⟩
 have HX:Hid (Cx w w1 u v q h c):=by rw[hw1];exact Cx.start w u v q h c
 have HRD:Hid (Reads w u xs∧Reads w v ys∧Reads w q h.ks):=⟨hu,hv,hq⟩
 have HSN:Hid (Sen f w):=S
 obtain⟨uo,uc,rfl⟩:=reads_form hu
 obtain⟨vo,vc,rfl⟩:=reads_form hv
 obtain⟨qo,qc,rfl⟩:=reads_form hq
 have cp:=fun wx=>iperson_any i wx
 rw[hi]at cp
 have CO:Hid (∀wx,Calls Tryz.prog 71 #[.agg #[.int .i64 c.o,.int .i64 c.p,.int .i64 c.a,.int .i64 c.b,.int .i64 c.k]] wx fun e w'=>e=.returned (.bool true)∧Below wx.heap.size wx w'):=fun wx=>by
  have:=icmdok_any c wx
  rw[hc]at this
  exact this
 have CRd:Hid (∀wx,Calls Tryz.prog 73 #[.agg #[.int .i64 c.o,.int .i64 c.p,.int .i64 c.a,.int .i64 c.b,.int .i64 c.k]] wx fun e w'=>e=.returned (.bool true)∧Below wx.heap.size wx w'):=fun wx=>by
  have:=ireads_any c wx
  rw[hrd]at this
  exact this
 have CWr:Hid (∀wx,Calls Tryz.prog 74 #[.agg #[.int .i64 c.o,.int .i64 c.p,.int .i64 c.a,.int .i64 c.b,.int .i64 c.k]] wx fun e w'=>e=.returned (.bool false)∧Below wx.heap.size wx w'):=fun wx=>by
  have:=iwrites_any c wx
  rw[hwr]at this
  exact this
 have CP:Hid (∀wx,Below w.heap.size w wx→Calls Tryz.prog 75 #[.agg #[.slice uo xs.length uc,.slice vo ys.length vc,.slice qo h.ks.length qc,.int .i64 h.kd,.int .i64 h.ho,.int .i64 h.tu],.int .i64 i,.agg #[.int .i64 c.o,.int .i64 c.p,.int .i64 c.a,.int .i64 c.b,.int .i64 c.k]] wx (fun e w'=>∃a b k,e=.returned (.tuple #[SRV a b k hh,.string ⟨tx.toArray⟩,EV])∧OwnR w' wx.heap.size a b k dx dy hh.ks∧Below wx.heap.size wx w')):=CP'
 clear CP' hu hv hq S HRD hi hc hrd hwr HSN
 unfold Cres
 unfold SRV at CP
 unfold SRV CV
 conv in srA (.slice uo xs.length uc) (.slice vo ys.length vc) (.slice qo h.ks.length qc) _=>unfold srA
 unfold cmA
 unfold srA cmA zeR at hw1
 have m0:w1.cell? ⟨w.heap.size+1,0,none⟩=some (.int .i64 c.o):=HX.out.cm.cell 0 rfl
 have m1:w1.cell? ⟨w.heap.size+1,1,none⟩=some (.int .i64 c.p):=HX.out.cm.cell 1 rfl
 have m2:w1.cell? ⟨w.heap.size+1,2,none⟩=some (.int .i64 c.a):=HX.out.cm.cell 2 rfl
 have m3:w1.cell? ⟨w.heap.size+1,3,none⟩=some (.int .i64 c.b):=HX.out.cm.cell 3 rfl
 have m4:w1.cell? ⟨w.heap.size+1,4,none⟩=some (.int .i64 c.k):=HX.out.cm.cell 4 rfl
 go_enter Tryz.func31,Tryz.ntmps31
 go_upto_region 1 with fail
 rw[←hw1]
 clear hw1
 go_wp2_with (go_at_call 70;refine(cp _).mono ?_;rintro e w' ⟨rfl,hw'⟩;subst w')
 refine(CO.out _).mono ?_
 rintro e w2 ⟨rfl,b2⟩
 have X2:Hid (Cx w w2 (.slice uo xs.length uc) (.slice vo ys.length vc) (.slice qo h.ks.length qc) h c):=HX.out.next b2
 clear HX b2 m0 m1 m2 m3 m4 CO cp
 have m0:w2.cell? ⟨w.heap.size+1,0,none⟩=some (.int .i64 c.o):=X2.out.cm.cell 0 rfl
 have m1:w2.cell? ⟨w.heap.size+1,1,none⟩=some (.int .i64 c.p):=X2.out.cm.cell 1 rfl
 have m2:w2.cell? ⟨w.heap.size+1,2,none⟩=some (.int .i64 c.a):=X2.out.cm.cell 2 rfl
 have m3:w2.cell? ⟨w.heap.size+1,3,none⟩=some (.int .i64 c.b):=X2.out.cm.cell 3 rfl
 have m4:w2.cell? ⟨w.heap.size+1,4,none⟩=some (.int .i64 c.k):=X2.out.cm.cell 4 rfl
 go_wp2_with fail
 refine(CRd.out _).mono ?_
 rintro e w3 ⟨rfl,b3⟩
 have X3:Hid (Cx w w3 (.slice uo xs.length uc) (.slice vo ys.length vc) (.slice qo h.ks.length qc) h c):=X2.out.next b3
 clear X2 b3 m0 m1 m2 m3 m4 CRd
 have m0:w3.cell? ⟨w.heap.size+1,0,none⟩=some (.int .i64 c.o):=X3.out.cm.cell 0 rfl
 have m1:w3.cell? ⟨w.heap.size+1,1,none⟩=some (.int .i64 c.p):=X3.out.cm.cell 1 rfl
 have m2:w3.cell? ⟨w.heap.size+1,2,none⟩=some (.int .i64 c.a):=X3.out.cm.cell 2 rfl
 have m3:w3.cell? ⟨w.heap.size+1,3,none⟩=some (.int .i64 c.b):=X3.out.cm.cell 3 rfl
 have m4:w3.cell? ⟨w.heap.size+1,4,none⟩=some (.int .i64 c.k):=X3.out.cm.cell 4 rfl
 go_wp2_with (refine wpList_getS Tryz.isR rfl _ rfl w.heap.size rfl _ rfl X3.out.st ?_)
 refine(CP.out _ X3.out.bl).mono ?_
 rintro e w6 ⟨a,b,k,rfl,o6,b6⟩
 obtain⟨ao,ac,rfl⟩:=o6.1.1.reads.form
 obtain⟨bo,bc,rfl⟩:=o6.1.2.1.reads.form
 obtain⟨ko,kc,rfl⟩:=o6.2.1.reads.form
 have X6:Hid (Cx w w6 (.slice uo xs.length uc) (.slice vo ys.length vc) (.slice qo h.ks.length qc) h c):=X3.out.next b6
 have O6:Hid (OwnR w6 (w.heap.size+3) (.slice ao dx.length ac) (.slice bo dy.length bc) (.slice ko hh.ks.length kc) dx dy hh.ks):=o6.mono X3.out.sz
 clear X3 b6 o6 m0 m1 m2 m3 m4 CP
 go_wp2_with (refine wpList_putS Tryz.isR rfl _ _ rfl (w.heap.size+1+1) (srA (.slice ao dx.length ac) (.slice bo dy.length bc) (.slice ko hh.ks.length kc) hh) zeR rfl rfl rfl rfl (srA_one hh rfl rfl rfl) X6.out.rs ?_;intro w7 s7 g7)
 refine bodyPost_ret (results_S3 Tryz.isR rfl _ _ (w.heap.size+1+1) _ _ _ rfl rfl rfl rfl s7) rfl ?_
 exact⟨_,_,_,rfl,(O6.out.keptLt g7 (by omega)).mono (by omega),X6.out.bl.grown g7 X6.out.bl.size (fun k e=>by cases e;omega)⟩
theorem icmdWrite_any (f:Four) (u v q:Value) (xs ys:List Int) (h:Hd) (i:Int) (c:Cm) (w:World) (hu:Reads w u xs) (hv:Reads w v ys) (hq:Reads w q h.ks) (S:Sen f w) (hi:inI i 0 3=true) (hc:c.ok=true) (hrd:c.rd=false) (hwr:c.wr=true) (dx dy:List Int) (hh:Hd) (tx:Bs) (EV:Value) (CP':∀wx,Below w.heap.size w wx→Calls Tryz.prog 75 #[SRV u v q h,.int .i64 i,CV c] wx (Cres wx dx dy hh tx EV)):
  Calls Tryz.prog 31 #[SRV u v q h,.int .i64 i,CV c] w (Cres w dx dy hh tx EV):=by
 obtain⟨w1,hw1⟩:∃w1,w1=((w.alloc (.cells (srA u v q h) 30)).alloc (.cells (cmA c) 32)).alloc (.cells zeR 30):=⟨_,rfl⟩
 have HX:Hid (Cx w w1 u v q h c):=by rw[hw1];exact Cx.start w u v q h c
 have HRD:Hid (Reads w u xs∧Reads w v ys∧Reads w q h.ks):=⟨hu,hv,hq⟩
 have HSN:Hid (Sen f w):=S
 obtain⟨uo,uc,rfl⟩:=reads_form hu
 obtain⟨vo,vc,rfl⟩:=reads_form hv
 obtain⟨qo,qc,rfl⟩:=reads_form hq
 have cp:=fun wx=>iperson_any i wx
 rw[hi]at cp
 have CO:Hid (∀wx,Calls Tryz.prog 71 #[.agg #[.int .i64 c.o,.int .i64 c.p,.int .i64 c.a,.int .i64 c.b,.int .i64 c.k]] wx fun e w'=>e=.returned (.bool true)∧Below wx.heap.size wx w'):=fun wx=>by
  have:=icmdok_any c wx
  rw[hc]at this
  exact this
 have CRd:Hid (∀wx,Calls Tryz.prog 73 #[.agg #[.int .i64 c.o,.int .i64 c.p,.int .i64 c.a,.int .i64 c.b,.int .i64 c.k]] wx fun e w'=>e=.returned (.bool false)∧Below wx.heap.size wx w'):=fun wx=>by
  have:=ireads_any c wx
  rw[hrd]at this
  exact this
 have CWr:Hid (∀wx,Calls Tryz.prog 74 #[.agg #[.int .i64 c.o,.int .i64 c.p,.int .i64 c.a,.int .i64 c.b,.int .i64 c.k]] wx fun e w'=>e=.returned (.bool true)∧Below wx.heap.size wx w'):=fun wx=>by
  have:=iwrites_any c wx
  rw[hwr]at this
  exact this
 have CP:Hid (∀wx,Below w.heap.size w wx→Calls Tryz.prog 75 #[.agg #[.slice uo xs.length uc,.slice vo ys.length vc,.slice qo h.ks.length qc,.int .i64 h.kd,.int .i64 h.ho,.int .i64 h.tu],.int .i64 i,.agg #[.int .i64 c.o,.int .i64 c.p,.int .i64 c.a,.int .i64 c.b,.int .i64 c.k]] wx (fun e w'=>∃a b k,e=.returned (.tuple #[SRV a b k hh,.string ⟨tx.toArray⟩,EV])∧OwnR w' wx.heap.size a b k dx dy hh.ks∧Below wx.heap.size wx w')):=CP'
 clear CP' hu hv hq S HRD hi hc hrd hwr HSN
 unfold Cres
 unfold SRV at CP
 unfold SRV CV
 conv in srA (.slice uo xs.length uc) (.slice vo ys.length vc) (.slice qo h.ks.length qc) _=>unfold srA
 unfold cmA
 unfold srA cmA zeR at hw1
 have m0:w1.cell? ⟨w.heap.size+1,0,none⟩=some (.int .i64 c.o):=HX.out.cm.cell 0 rfl
 have m1:w1.cell? ⟨w.heap.size+1,1,none⟩=some (.int .i64 c.p):=HX.out.cm.cell 1 rfl
 have m2:w1.cell? ⟨w.heap.size+1,2,none⟩=some (.int .i64 c.a):=HX.out.cm.cell 2 rfl
 have m3:w1.cell? ⟨w.heap.size+1,3,none⟩=some (.int .i64 c.b):=HX.out.cm.cell 3 rfl
 have m4:w1.cell? ⟨w.heap.size+1,4,none⟩=some (.int .i64 c.k):=HX.out.cm.cell 4 rfl
 go_enter Tryz.func31,Tryz.ntmps31
 go_upto_region 1 with fail
 rw[←hw1]
 clear hw1
 go_wp2_with (go_at_call 70;refine(cp _).mono ?_;rintro e w' ⟨rfl,hw'⟩;subst w')
 refine(CO.out _).mono ?_
 rintro e w2 ⟨rfl,b2⟩
 have X2:Hid (Cx w w2 (.slice uo xs.length uc) (.slice vo ys.length vc) (.slice qo h.ks.length qc) h c):=HX.out.next b2
 clear HX b2 m0 m1 m2 m3 m4 CO cp
 have m0:w2.cell? ⟨w.heap.size+1,0,none⟩=some (.int .i64 c.o):=X2.out.cm.cell 0 rfl
 have m1:w2.cell? ⟨w.heap.size+1,1,none⟩=some (.int .i64 c.p):=X2.out.cm.cell 1 rfl
 have m2:w2.cell? ⟨w.heap.size+1,2,none⟩=some (.int .i64 c.a):=X2.out.cm.cell 2 rfl
 have m3:w2.cell? ⟨w.heap.size+1,3,none⟩=some (.int .i64 c.b):=X2.out.cm.cell 3 rfl
 have m4:w2.cell? ⟨w.heap.size+1,4,none⟩=some (.int .i64 c.k):=X2.out.cm.cell 4 rfl
 go_wp2_with fail
 refine(CRd.out _).mono ?_
 rintro e w3 ⟨rfl,b3⟩
 have X3:Hid (Cx w w3 (.slice uo xs.length uc) (.slice vo ys.length vc) (.slice qo h.ks.length qc) h c):=X2.out.next b3
 clear X2 b3 m0 m1 m2 m3 m4 CRd
 have m0:w3.cell? ⟨w.heap.size+1,0,none⟩=some (.int .i64 c.o):=X3.out.cm.cell 0 rfl
 have m1:w3.cell? ⟨w.heap.size+1,1,none⟩=some (.int .i64 c.p):=X3.out.cm.cell 1 rfl
 have m2:w3.cell? ⟨w.heap.size+1,2,none⟩=some (.int .i64 c.a):=X3.out.cm.cell 2 rfl
 have m3:w3.cell? ⟨w.heap.size+1,3,none⟩=some (.int .i64 c.b):=X3.out.cm.cell 3 rfl
 have m4:w3.cell? ⟨w.heap.size+1,4,none⟩=some (.int .i64 c.k):=X3.out.cm.cell 4 rfl
 go_wp2_with fail
 refine(CWr.out _).mono ?_
 rintro e w9 ⟨rfl,b9⟩
 have X9:Hid (Cx w w9 (.slice uo xs.length uc) (.slice vo ys.length vc) (.slice qo h.ks.length qc) h c):=X3.out.next b9
 clear X3 b9 m0 m1 m2 m3 m4 CWr
 have m0:w9.cell? ⟨w.heap.size+1,0,none⟩=some (.int .i64 c.o):=X9.out.cm.cell 0 rfl
 have m1:w9.cell? ⟨w.heap.size+1,1,none⟩=some (.int .i64 c.p):=X9.out.cm.cell 1 rfl
 have m2:w9.cell? ⟨w.heap.size+1,2,none⟩=some (.int .i64 c.a):=X9.out.cm.cell 2 rfl
 have m3:w9.cell? ⟨w.heap.size+1,3,none⟩=some (.int .i64 c.b):=X9.out.cm.cell 3 rfl
 have m4:w9.cell? ⟨w.heap.size+1,4,none⟩=some (.int .i64 c.k):=X9.out.cm.cell 4 rfl
 go_wp2_with (refine wpList_getS Tryz.isR rfl _ rfl w.heap.size rfl _ rfl X9.out.st ?_)
 refine(CP.out _ X9.out.bl).mono ?_
 rintro e w6 ⟨a,b,k,rfl,o6,b6⟩
 obtain⟨ao,ac,rfl⟩:=o6.1.1.reads.form
 obtain⟨bo,bc,rfl⟩:=o6.1.2.1.reads.form
 obtain⟨ko,kc,rfl⟩:=o6.2.1.reads.form
 have X6:Hid (Cx w w6 (.slice uo xs.length uc) (.slice vo ys.length vc) (.slice qo h.ks.length qc) h c):=X9.out.next b6
 have O6:Hid (OwnR w6 (w.heap.size+3) (.slice ao dx.length ac) (.slice bo dy.length bc) (.slice ko hh.ks.length kc) dx dy hh.ks):=o6.mono X9.out.sz
 clear X9 b6 o6 m0 m1 m2 m3 m4 CP
 go_wp2_with (refine wpList_putS Tryz.isR rfl _ _ rfl (w.heap.size+1+1) (srA (.slice ao dx.length ac) (.slice bo dy.length bc) (.slice ko hh.ks.length kc) hh) zeR rfl rfl rfl rfl (srA_one hh rfl rfl rfl) X6.out.rs ?_;intro w7 s7 g7)
 refine bodyPost_ret (results_S3 Tryz.isR rfl _ _ (w.heap.size+1+1) _ _ _ rfl rfl rfl rfl s7) rfl ?_
 exact⟨_,_,_,rfl,(O6.out.keptLt g7 (by omega)).mono (by omega),X6.out.bl.grown g7 X6.out.bl.size (fun k e=>by cases e;omega)⟩
theorem icmdHold_any (f:Four) (u v q:Value) (xs ys:List Int) (h:Hd) (i:Int) (c:Cm) (w:World) (hu:Reads w u xs) (hv:Reads w v ys) (hq:Reads w q h.ks) (S:Sen f w) (hi:inI i 0 3=true) (hc:c.ok=true) (hrd:c.rd=false) (hwr:c.wr=false) (n11':c.o≠11) (n12':c.o≠12) (dx dy:List Int) (hh:Hd) (tx:Bs) (EV:Value) (CP':∀wx,Below w.heap.size w wx→Calls Tryz.prog 78 #[SRV u v q h,.int .i64 i,CV c] wx (Cres wx dx dy hh tx EV)):
  Calls Tryz.prog 31 #[SRV u v q h,.int .i64 i,CV c] w (Cres w dx dy hh tx EV):=by
 have N11:Hid (c.o≠11):=n11'
 have N12:Hid (c.o≠12):=n12'
 clear n11' n12'
 obtain⟨w1,hw1⟩:∃w1,w1=((w.alloc (.cells (srA u v q h) 30)).alloc (.cells (cmA c) 32)).alloc (.cells zeR 30):=⟨_,rfl⟩
 have HX:Hid (Cx w w1 u v q h c):=by rw[hw1];exact Cx.start w u v q h c
 have HRD:Hid (Reads w u xs∧Reads w v ys∧Reads w q h.ks):=⟨hu,hv,hq⟩
 have HSN:Hid (Sen f w):=S
 obtain⟨uo,uc,rfl⟩:=reads_form hu
 obtain⟨vo,vc,rfl⟩:=reads_form hv
 obtain⟨qo,qc,rfl⟩:=reads_form hq
 have cp:=fun wx=>iperson_any i wx
 rw[hi]at cp
 have CO:Hid (∀wx,Calls Tryz.prog 71 #[.agg #[.int .i64 c.o,.int .i64 c.p,.int .i64 c.a,.int .i64 c.b,.int .i64 c.k]] wx fun e w'=>e=.returned (.bool true)∧Below wx.heap.size wx w'):=fun wx=>by
  have:=icmdok_any c wx
  rw[hc]at this
  exact this
 have CRd:Hid (∀wx,Calls Tryz.prog 73 #[.agg #[.int .i64 c.o,.int .i64 c.p,.int .i64 c.a,.int .i64 c.b,.int .i64 c.k]] wx fun e w'=>e=.returned (.bool false)∧Below wx.heap.size wx w'):=fun wx=>by
  have:=ireads_any c wx
  rw[hrd]at this
  exact this
 have CWr:Hid (∀wx,Calls Tryz.prog 74 #[.agg #[.int .i64 c.o,.int .i64 c.p,.int .i64 c.a,.int .i64 c.b,.int .i64 c.k]] wx fun e w'=>e=.returned (.bool false)∧Below wx.heap.size wx w'):=fun wx=>by
  have:=iwrites_any c wx
  rw[hwr]at this
  exact this
 have CP:Hid (∀wx,Below w.heap.size w wx→Calls Tryz.prog 78 #[.agg #[.slice uo xs.length uc,.slice vo ys.length vc,.slice qo h.ks.length qc,.int .i64 h.kd,.int .i64 h.ho,.int .i64 h.tu],.int .i64 i,.agg #[.int .i64 c.o,.int .i64 c.p,.int .i64 c.a,.int .i64 c.b,.int .i64 c.k]] wx (fun e w'=>∃a b k,e=.returned (.tuple #[SRV a b k hh,.string ⟨tx.toArray⟩,EV])∧OwnR w' wx.heap.size a b k dx dy hh.ks∧Below wx.heap.size wx w')):=CP'
 clear CP' hu hv hq S HRD hi hc hrd hwr HSN
 unfold Cres
 unfold SRV at CP
 unfold SRV CV
 conv in srA (.slice uo xs.length uc) (.slice vo ys.length vc) (.slice qo h.ks.length qc) _=>unfold srA
 unfold cmA
 unfold srA cmA zeR at hw1
 have m0:w1.cell? ⟨w.heap.size+1,0,none⟩=some (.int .i64 c.o):=HX.out.cm.cell 0 rfl
 have m1:w1.cell? ⟨w.heap.size+1,1,none⟩=some (.int .i64 c.p):=HX.out.cm.cell 1 rfl
 have m2:w1.cell? ⟨w.heap.size+1,2,none⟩=some (.int .i64 c.a):=HX.out.cm.cell 2 rfl
 have m3:w1.cell? ⟨w.heap.size+1,3,none⟩=some (.int .i64 c.b):=HX.out.cm.cell 3 rfl
 have m4:w1.cell? ⟨w.heap.size+1,4,none⟩=some (.int .i64 c.k):=HX.out.cm.cell 4 rfl
 go_enter Tryz.func31,Tryz.ntmps31
 go_upto_region 1 with fail
 rw[←hw1]
 clear hw1
 go_wp2_with (go_at_call 70;refine(cp _).mono ?_;rintro e w' ⟨rfl,hw'⟩;subst w')
 refine(CO.out _).mono ?_
 rintro e w2 ⟨rfl,b2⟩
 have X2:Hid (Cx w w2 (.slice uo xs.length uc) (.slice vo ys.length vc) (.slice qo h.ks.length qc) h c):=HX.out.next b2
 clear HX b2 m0 m1 m2 m3 m4 CO cp
 have m0:w2.cell? ⟨w.heap.size+1,0,none⟩=some (.int .i64 c.o):=X2.out.cm.cell 0 rfl
 have m1:w2.cell? ⟨w.heap.size+1,1,none⟩=some (.int .i64 c.p):=X2.out.cm.cell 1 rfl
 have m2:w2.cell? ⟨w.heap.size+1,2,none⟩=some (.int .i64 c.a):=X2.out.cm.cell 2 rfl
 have m3:w2.cell? ⟨w.heap.size+1,3,none⟩=some (.int .i64 c.b):=X2.out.cm.cell 3 rfl
 have m4:w2.cell? ⟨w.heap.size+1,4,none⟩=some (.int .i64 c.k):=X2.out.cm.cell 4 rfl
 go_wp2_with fail
 refine(CRd.out _).mono ?_
 rintro e w3 ⟨rfl,b3⟩
 have X3:Hid (Cx w w3 (.slice uo xs.length uc) (.slice vo ys.length vc) (.slice qo h.ks.length qc) h c):=X2.out.next b3
 clear X2 b3 m0 m1 m2 m3 m4 CRd
 have m0:w3.cell? ⟨w.heap.size+1,0,none⟩=some (.int .i64 c.o):=X3.out.cm.cell 0 rfl
 have m1:w3.cell? ⟨w.heap.size+1,1,none⟩=some (.int .i64 c.p):=X3.out.cm.cell 1 rfl
 have m2:w3.cell? ⟨w.heap.size+1,2,none⟩=some (.int .i64 c.a):=X3.out.cm.cell 2 rfl
 have m3:w3.cell? ⟨w.heap.size+1,3,none⟩=some (.int .i64 c.b):=X3.out.cm.cell 3 rfl
 have m4:w3.cell? ⟨w.heap.size+1,4,none⟩=some (.int .i64 c.k):=X3.out.cm.cell 4 rfl
 go_wp2_with fail
 refine(CWr.out _).mono ?_
 rintro e w9 ⟨rfl,b9⟩
 have X9:Hid (Cx w w9 (.slice uo xs.length uc) (.slice vo ys.length vc) (.slice qo h.ks.length qc) h c):=X3.out.next b9
 clear X3 b9 m0 m1 m2 m3 m4 CWr
 have m0:w9.cell? ⟨w.heap.size+1,0,none⟩=some (.int .i64 c.o):=X9.out.cm.cell 0 rfl
 have m1:w9.cell? ⟨w.heap.size+1,1,none⟩=some (.int .i64 c.p):=X9.out.cm.cell 1 rfl
 have m2:w9.cell? ⟨w.heap.size+1,2,none⟩=some (.int .i64 c.a):=X9.out.cm.cell 2 rfl
 have m3:w9.cell? ⟨w.heap.size+1,3,none⟩=some (.int .i64 c.b):=X9.out.cm.cell 3 rfl
 have m4:w9.cell? ⟨w.heap.size+1,4,none⟩=some (.int .i64 c.k):=X9.out.cm.cell 4 rfl
 have n11:=N11.out
 have n12:=N12.out
 go_wp2_with (refine wpList_getS Tryz.isR rfl _ rfl w.heap.size rfl _ rfl X9.out.st ?_)
 refine(CP.out _ X9.out.bl).mono ?_
 rintro e w6 ⟨a,b,k,rfl,o6,b6⟩
 obtain⟨ao,ac,rfl⟩:=o6.1.1.reads.form
 obtain⟨bo,bc,rfl⟩:=o6.1.2.1.reads.form
 obtain⟨ko,kc,rfl⟩:=o6.2.1.reads.form
 have X6:Hid (Cx w w6 (.slice uo xs.length uc) (.slice vo ys.length vc) (.slice qo h.ks.length qc) h c):=X9.out.next b6
 have O6:Hid (OwnR w6 (w.heap.size+3) (.slice ao dx.length ac) (.slice bo dy.length bc) (.slice ko hh.ks.length kc) dx dy hh.ks):=o6.mono X9.out.sz
 clear X9 b6 o6 m0 m1 m2 m3 m4 CP
 go_wp2_with (refine wpList_putS Tryz.isR rfl _ _ rfl (w.heap.size+1+1) (srA (.slice ao dx.length ac) (.slice bo dy.length bc) (.slice ko hh.ks.length kc) hh) zeR rfl rfl rfl rfl (srA_one hh rfl rfl rfl) X6.out.rs ?_;intro w7 s7 g7)
 refine bodyPost_ret (results_S3 Tryz.isR rfl _ _ (w.heap.size+1+1) _ _ _ rfl rfl rfl rfl s7) rfl ?_
 exact⟨_,_,_,rfl,(O6.out.keptLt g7 (by omega)).mono (by omega),X6.out.bl.grown g7 X6.out.bl.size (fun k e=>by cases e;omega)⟩
theorem icmdKeysOf_any (f:Four) (u v q:Value) (xs ys:List Int) (h:Hd) (i:Int) (c:Cm) (w:World) (hu:Reads w u xs) (hv:Reads w v ys) (hq:Reads w q h.ks) (S:Sen f w) (hb:bothOk xs ys=true) (ok:h.ok=true) (ht:Tab w) (hi:inI i 0 3=true) (hc:c.ok=true) (hrd:c.rd=false) (hwr:c.wr=false) (ho':c.o=11):
  Calls Tryz.prog 31 #[SRV u v q h,.int .i64 i,CV c] w (Cres w xs ys h h.keysT .nilIface):=by
 have HO:Hid (c.o=11):=ho'
 clear ho'
 obtain⟨w1,hw1⟩:∃w1,w1=((w.alloc (.cells (srA u v q h) 30)).alloc (.cells (cmA c) 32)).alloc (.cells zeR 30):=⟨_,rfl⟩
 have HX:Hid (Cx w w1 u v q h c):=by rw[hw1];exact Cx.start w u v q h c
 have HRD:Hid (Reads w u xs∧Reads w v ys∧Reads w q h.ks):=⟨hu,hv,hq⟩
 have HSN:Hid (Sen f w):=S
 obtain⟨n1,n8,nl⟩:=vol_len hb
 have gx:xs.length≤1099511627776:=by omega
 have gy:ys.length≤1099511627776:=by omega
 have hx1:1≤xs.length:=by omega
 have hy1:1≤ys.length:=by omega
 have hk4:=(Hd.ok_all ok).1
 have hk1:1≤h.ks.length:=by omega
 have gk:h.ks.length≤1099511627776:=by omega
 have CF:Hid (∀wx,Below w.heap.size w wx→Calls Tryz.prog 32 #[.agg (srA u v q h)] wx fun e w'=>∃a b k,e=.returned (.agg (srA a b k h))∧OwnR w' wx.heap.size a b k xs ys h.ks∧Below wx.heap.size wx w'):=fun wx e=>ifreshStore_any u v q xs ys h wx (hu.below e (Nat.le_refl _)) (hv.below e (Nat.le_refl _)) (hq.below e (Nat.le_refl _)) hx1 hy1 hk1 gx gy gk
 have CK':=fun wx (e:Below w.heap.size w wx)=>ikeysof_any q h wx (hq.below e (Nat.le_refl _)) gk (ht.below e)
 obtain⟨tx,htx⟩:∃tx,tx=h.keysT:=⟨_,rfl⟩
 rw[←htx]at CK'⊢
 have CK:Hid (∀wx,Below w.heap.size w wx→Calls Tryz.prog 76 #[.agg (hdA q h)] wx fun e w'=>e=.returned (.string ⟨tx.toArray⟩)∧Below wx.heap.size wx w'):=CK'
 obtain⟨uo,uc,rfl⟩:=reads_form hu
 obtain⟨vo,vc,rfl⟩:=reads_form hv
 obtain⟨qo,qc,rfl⟩:=reads_form hq
 have cp:=fun wx=>iperson_any i wx
 rw[hi]at cp
 have CO:Hid (∀wx,Calls Tryz.prog 71 #[.agg #[.int .i64 c.o,.int .i64 c.p,.int .i64 c.a,.int .i64 c.b,.int .i64 c.k]] wx fun e w'=>e=.returned (.bool true)∧Below wx.heap.size wx w'):=fun wx=>by
  have:=icmdok_any c wx
  rw[hc]at this
  exact this
 have CRd:Hid (∀wx,Calls Tryz.prog 73 #[.agg #[.int .i64 c.o,.int .i64 c.p,.int .i64 c.a,.int .i64 c.b,.int .i64 c.k]] wx fun e w'=>e=.returned (.bool false)∧Below wx.heap.size wx w'):=fun wx=>by
  have:=ireads_any c wx
  rw[hrd]at this
  exact this
 have CWr:Hid (∀wx,Calls Tryz.prog 74 #[.agg #[.int .i64 c.o,.int .i64 c.p,.int .i64 c.a,.int .i64 c.b,.int .i64 c.k]] wx fun e w'=>e=.returned (.bool false)∧Below wx.heap.size wx w'):=fun wx=>by
  have:=iwrites_any c wx
  rw[hwr]at this
  exact this
 clear CK' htx hu hv hq S HRD hi hc hrd hwr HSN hb ok ht gx gy gk hx1 hy1 hk1 hk4 n1 n8 nl
 unfold Cres
 unfold hdA at CK
 conv at CF in srA (.slice uo xs.length uc) (.slice vo ys.length vc) (.slice qo h.ks.length qc) _=>unfold srA
 unfold SRV CV
 conv in srA (.slice uo xs.length uc) (.slice vo ys.length vc) (.slice qo h.ks.length qc) _=>unfold srA
 unfold cmA
 unfold srA cmA zeR at hw1
 have m0:w1.cell? ⟨w.heap.size+1,0,none⟩=some (.int .i64 c.o):=HX.out.cm.cell 0 rfl
 have m1:w1.cell? ⟨w.heap.size+1,1,none⟩=some (.int .i64 c.p):=HX.out.cm.cell 1 rfl
 have m2:w1.cell? ⟨w.heap.size+1,2,none⟩=some (.int .i64 c.a):=HX.out.cm.cell 2 rfl
 have m3:w1.cell? ⟨w.heap.size+1,3,none⟩=some (.int .i64 c.b):=HX.out.cm.cell 3 rfl
 have m4:w1.cell? ⟨w.heap.size+1,4,none⟩=some (.int .i64 c.k):=HX.out.cm.cell 4 rfl
 go_enter Tryz.func31,Tryz.ntmps31
 go_upto_region 1 with fail
 rw[←hw1]
 clear hw1
 go_wp2_with (go_at_call 70;refine(cp _).mono ?_;rintro e w' ⟨rfl,hw'⟩;subst w')
 refine(CO.out _).mono ?_
 rintro e w2 ⟨rfl,b2⟩
 have X2:Hid (Cx w w2 (.slice uo xs.length uc) (.slice vo ys.length vc) (.slice qo h.ks.length qc) h c):=HX.out.next b2
 clear HX b2 m0 m1 m2 m3 m4 CO cp
 have m0:w2.cell? ⟨w.heap.size+1,0,none⟩=some (.int .i64 c.o):=X2.out.cm.cell 0 rfl
 have m1:w2.cell? ⟨w.heap.size+1,1,none⟩=some (.int .i64 c.p):=X2.out.cm.cell 1 rfl
 have m2:w2.cell? ⟨w.heap.size+1,2,none⟩=some (.int .i64 c.a):=X2.out.cm.cell 2 rfl
 have m3:w2.cell? ⟨w.heap.size+1,3,none⟩=some (.int .i64 c.b):=X2.out.cm.cell 3 rfl
 have m4:w2.cell? ⟨w.heap.size+1,4,none⟩=some (.int .i64 c.k):=X2.out.cm.cell 4 rfl
 go_wp2_with fail
 refine(CRd.out _).mono ?_
 rintro e w3 ⟨rfl,b3⟩
 have X3:Hid (Cx w w3 (.slice uo xs.length uc) (.slice vo ys.length vc) (.slice qo h.ks.length qc) h c):=X2.out.next b3
 clear X2 b3 m0 m1 m2 m3 m4 CRd
 have m0:w3.cell? ⟨w.heap.size+1,0,none⟩=some (.int .i64 c.o):=X3.out.cm.cell 0 rfl
 have m1:w3.cell? ⟨w.heap.size+1,1,none⟩=some (.int .i64 c.p):=X3.out.cm.cell 1 rfl
 have m2:w3.cell? ⟨w.heap.size+1,2,none⟩=some (.int .i64 c.a):=X3.out.cm.cell 2 rfl
 have m3:w3.cell? ⟨w.heap.size+1,3,none⟩=some (.int .i64 c.b):=X3.out.cm.cell 3 rfl
 have m4:w3.cell? ⟨w.heap.size+1,4,none⟩=some (.int .i64 c.k):=X3.out.cm.cell 4 rfl
 go_wp2_with fail
 refine(CWr.out _).mono ?_
 rintro e w9 ⟨rfl,b9⟩
 have X9:Hid (Cx w w9 (.slice uo xs.length uc) (.slice vo ys.length vc) (.slice qo h.ks.length qc) h c):=X3.out.next b9
 clear X3 b9 m0 m1 m2 m3 m4 CWr
 have m0:w9.cell? ⟨w.heap.size+1,0,none⟩=some (.int .i64 c.o):=X9.out.cm.cell 0 rfl
 have m1:w9.cell? ⟨w.heap.size+1,1,none⟩=some (.int .i64 c.p):=X9.out.cm.cell 1 rfl
 have m2:w9.cell? ⟨w.heap.size+1,2,none⟩=some (.int .i64 c.a):=X9.out.cm.cell 2 rfl
 have m3:w9.cell? ⟨w.heap.size+1,3,none⟩=some (.int .i64 c.b):=X9.out.cm.cell 3 rfl
 have m4:w9.cell? ⟨w.heap.size+1,4,none⟩=some (.int .i64 c.k):=X9.out.cm.cell 4 rfl
 have ho:=HO.out
 go_upto_region 6 with fail
 clear ho m0 m1 m2 m3 m4
 have C5:Hid (∀wx,Below w9.heap.size w9 wx→Below w.heap.size w wx):=fun wx e=>X9.out.bl.trans (e.mono X9.out.bl.size)
 have q0:∀w',Sp (w.heap.size+1+1) w9 w'→w'.cell? ⟨w.heap.size,0,none⟩=some (.slice uo xs.length uc):=fun w' b=>b _ _ (by dsimp only;omega) (X9.out.st.cell 0 rfl)
 have q1:∀w',Sp (w.heap.size+1+1) w9 w'→w'.cell? ⟨w.heap.size,1,none⟩=some (.slice vo ys.length vc):=fun w' b=>b _ _ (by dsimp only;omega) (X9.out.st.cell 1 rfl)
 have q2:∀w',Sp (w.heap.size+1+1) w9 w'→w'.cell? ⟨w.heap.size,2,none⟩=some (.slice qo h.ks.length qc):=fun w' b=>b _ _ (by dsimp only;omega) (X9.out.st.cell 2 rfl)
 have q3:∀w',Sp (w.heap.size+1+1) w9 w'→w'.cell? ⟨w.heap.size,3,none⟩=some (.int .i64 h.kd):=fun w' b=>b _ _ (by dsimp only;omega) (X9.out.st.cell 3 rfl)
 have q4:∀w',Sp (w.heap.size+1+1) w9 w'→w'.cell? ⟨w.heap.size,4,none⟩=some (.int .i64 h.ho):=fun w' b=>b _ _ (by dsimp only;omega) (X9.out.st.cell 4 rfl)
 have q5:∀w',Sp (w.heap.size+1+1) w9 w'→w'.cell? ⟨w.heap.size,5,none⟩=some (.int .i64 h.tu):=fun w' b=>b _ _ (by dsimp only;omega) (X9.out.st.cell 5 rfl)
 go_region_held3 (fun w'=>Sp (w.heap.size+1+1) w9 w') ((repeat'(first|with_reducible assumption|with_reducible exact Sp.refl _ _|with_reducible refine Sp.al ?_|with_reducible refine Sp.dr ?_|with_reducible refine Sp.set ?_|with_reducible refine Sp.put ?_ (by with_reducible assumption)|with_reducible refine Sp.bel ?_ (by with_reducible assumption))))
  (first
   |(go_at_call 32;refine(CF.out _ (C5.out _ (by repeat'(first|with_reducible assumption|with_reducible exact Below.refl _ _|with_reducible refine bel_alloc ?_|with_reducible refine bel_drew ?_|with_reducible refine bel_trans ?_ (by with_reducible assumption))))).mono ?_;rintro e w5 ⟨a,b,k,rfl,o5,b5⟩;obtain⟨ao,ac,rfl⟩:=o5.1.1.reads.form;obtain⟨bo,bc,rfl⟩:=o5.1.2.1.reads.form;obtain⟨ko,kc,rfl⟩:=o5.2.1.reads.form;have B5:Hid (Below w9.heap.size w9 w5):=(show Below w9.heap.size w9 w5 from(by repeat'(first|with_reducible assumption|with_reducible exact Below.refl _ _|with_reducible refine bel_alloc ?_|with_reducible refine bel_drew ?_|with_reducible refine bel_trans ?_ (by with_reducible assumption))));have O5:Hid (OwnR w5 (w.heap.size+3) (.slice ao xs.length ac) (.slice bo ys.length bc) (.slice ko h.ks.length kc) xs ys h.ks):=o5.mono (Nat.le_trans X9.out.sz (bl_size (by repeat'(first|with_reducible assumption|with_reducible exact Below.refl _ _|with_reducible refine bel_alloc ?_|with_reducible refine bel_drew ?_|with_reducible refine bel_trans ?_ (by with_reducible assumption)))));clear o5)
   |(go_at_call 76;refine(CK.out _ (C5.out _ (by repeat'(first|with_reducible assumption|with_reducible exact Below.refl _ _|with_reducible refine bel_alloc ?_|with_reducible refine bel_drew ?_|with_reducible refine bel_trans ?_ (by with_reducible assumption))))).mono ?_;rintro e w4 ⟨rfl,b4⟩;have B4:Hid (Below w9.heap.size w9 w4):=(show Below w9.heap.size w9 w4 from(by repeat'(first|with_reducible assumption|with_reducible exact Below.refl _ _|with_reducible refine bel_alloc ?_|with_reducible refine bel_drew ?_|with_reducible refine bel_trans ?_ (by with_reducible assumption))));have X4:Hid (Cx w w4 (.slice uo xs.length uc) (.slice vo ys.length vc) (.slice qo h.ks.length qc) h c):=X9.out.next B4.out;have O4:Hid (OwnR w4 (w.heap.size+3) (.slice ao xs.length ac) (.slice bo ys.length bc) (.slice ko h.ks.length kc) xs ys h.ks):=O5.out.below (by repeat'(first|with_reducible assumption|with_reducible exact Below.refl _ _|with_reducible refine bel_alloc ?_|with_reducible refine bel_drew ?_|with_reducible refine bel_trans ?_ (by with_reducible assumption)));skip)
   |((with_reducible show Oper.upon _ _ _ _ _ (Result.andThen (Sem.run _ (storeCells _ (srA _ _ _ _).toList) _) _));refine upon_putS (w.heap.size+1+1) 30 (srA (.slice ao xs.length ac) (.slice bo ys.length bc) (.slice ko h.ks.length kc) h) zeR rfl (srA_one h rfl rfl rfl) X4.out.rs ?_;intro w6 s6 g6))
 all_goals
  go_wp2
  refine bodyPost_ret (results_S3 Tryz.isR rfl _ _ (w.heap.size+1+1) _ _ _ rfl rfl rfl rfl s6) rfl ?_
  exact⟨_,_,_,rfl,(O4.out.keptLt g6 (by omega)).mono (by omega),X4.out.bl.grown g6 X4.out.bl.size (fun k e=>by cases e;omega)⟩
theorem icmdHolderOf_any (f:Four) (u v q:Value) (xs ys:List Int) (h:Hd) (i:Int) (c:Cm) (w:World) (hu:Reads w u xs) (hv:Reads w v ys) (hq:Reads w q h.ks) (S:Sen f w) (hb:bothOk xs ys=true) (ok:h.ok=true) (ht:Tab w) (hi:inI i 0 3=true) (hc:c.ok=true) (hrd:c.rd=false) (hwr:c.wr=false) (ho':c.o=12):
  Calls Tryz.prog 31 #[SRV u v q h,.int .i64 i,CV c] w (Cres w xs ys h h.holdT .nilIface):=by
 have HO:Hid (c.o=12):=ho'
 clear ho'
 obtain⟨w1,hw1⟩:∃w1,w1=((w.alloc (.cells (srA u v q h) 30)).alloc (.cells (cmA c) 32)).alloc (.cells zeR 30):=⟨_,rfl⟩
 have HX:Hid (Cx w w1 u v q h c):=by rw[hw1];exact Cx.start w u v q h c
 have HRD:Hid (Reads w u xs∧Reads w v ys∧Reads w q h.ks):=⟨hu,hv,hq⟩
 have HSN:Hid (Sen f w):=S
 obtain⟨n1,n8,nl⟩:=vol_len hb
 have gx:xs.length≤1099511627776:=by omega
 have gy:ys.length≤1099511627776:=by omega
 have hx1:1≤xs.length:=by omega
 have hy1:1≤ys.length:=by omega
 have hk4:=(Hd.ok_all ok).1
 have hk1:1≤h.ks.length:=by omega
 have gk:h.ks.length≤1099511627776:=by omega
 have CF:Hid (∀wx,Below w.heap.size w wx→Calls Tryz.prog 32 #[.agg (srA u v q h)] wx fun e w'=>∃a b k,e=.returned (.agg (srA a b k h))∧OwnR w' wx.heap.size a b k xs ys h.ks∧Below wx.heap.size wx w'):=fun wx e=>ifreshStore_any u v q xs ys h wx (hu.below e (Nat.le_refl _)) (hv.below e (Nat.le_refl _)) (hq.below e (Nat.le_refl _)) hx1 hy1 hk1 gx gy gk
 have CK':=fun wx (e:Below w.heap.size w wx)=>iholderof_any q h wx (hq.below e (Nat.le_refl _)) gk (ht.below e)
 obtain⟨tx,htx⟩:∃tx,tx=h.holdT:=⟨_,rfl⟩
 rw[←htx]at CK'⊢
 have CK:Hid (∀wx,Below w.heap.size w wx→Calls Tryz.prog 77 #[.agg (hdA q h)] wx fun e w'=>e=.returned (.string ⟨tx.toArray⟩)∧Below wx.heap.size wx w'):=CK'
 obtain⟨uo,uc,rfl⟩:=reads_form hu
 obtain⟨vo,vc,rfl⟩:=reads_form hv
 obtain⟨qo,qc,rfl⟩:=reads_form hq
 have cp:=fun wx=>iperson_any i wx
 rw[hi]at cp
 have CO:Hid (∀wx,Calls Tryz.prog 71 #[.agg #[.int .i64 c.o,.int .i64 c.p,.int .i64 c.a,.int .i64 c.b,.int .i64 c.k]] wx fun e w'=>e=.returned (.bool true)∧Below wx.heap.size wx w'):=fun wx=>by
  have:=icmdok_any c wx
  rw[hc]at this
  exact this
 have CRd:Hid (∀wx,Calls Tryz.prog 73 #[.agg #[.int .i64 c.o,.int .i64 c.p,.int .i64 c.a,.int .i64 c.b,.int .i64 c.k]] wx fun e w'=>e=.returned (.bool false)∧Below wx.heap.size wx w'):=fun wx=>by
  have:=ireads_any c wx
  rw[hrd]at this
  exact this
 have CWr:Hid (∀wx,Calls Tryz.prog 74 #[.agg #[.int .i64 c.o,.int .i64 c.p,.int .i64 c.a,.int .i64 c.b,.int .i64 c.k]] wx fun e w'=>e=.returned (.bool false)∧Below wx.heap.size wx w'):=fun wx=>by
  have:=iwrites_any c wx
  rw[hwr]at this
  exact this
 clear CK' htx hu hv hq S HRD hi hc hrd hwr HSN hb ok ht gx gy gk hx1 hy1 hk1 hk4 n1 n8 nl
 unfold Cres
 unfold hdA at CK
 conv at CF in srA (.slice uo xs.length uc) (.slice vo ys.length vc) (.slice qo h.ks.length qc) _=>unfold srA
 unfold SRV CV
 conv in srA (.slice uo xs.length uc) (.slice vo ys.length vc) (.slice qo h.ks.length qc) _=>unfold srA
 unfold cmA
 unfold srA cmA zeR at hw1
 have m0:w1.cell? ⟨w.heap.size+1,0,none⟩=some (.int .i64 c.o):=HX.out.cm.cell 0 rfl
 have m1:w1.cell? ⟨w.heap.size+1,1,none⟩=some (.int .i64 c.p):=HX.out.cm.cell 1 rfl
 have m2:w1.cell? ⟨w.heap.size+1,2,none⟩=some (.int .i64 c.a):=HX.out.cm.cell 2 rfl
 have m3:w1.cell? ⟨w.heap.size+1,3,none⟩=some (.int .i64 c.b):=HX.out.cm.cell 3 rfl
 have m4:w1.cell? ⟨w.heap.size+1,4,none⟩=some (.int .i64 c.k):=HX.out.cm.cell 4 rfl
 go_enter Tryz.func31,Tryz.ntmps31
 go_upto_region 1 with fail
 rw[←hw1]
 clear hw1
 go_wp2_with (go_at_call 70;refine(cp _).mono ?_;rintro e w' ⟨rfl,hw'⟩;subst w')
 refine(CO.out _).mono ?_
 rintro e w2 ⟨rfl,b2⟩
 have X2:Hid (Cx w w2 (.slice uo xs.length uc) (.slice vo ys.length vc) (.slice qo h.ks.length qc) h c):=HX.out.next b2
 clear HX b2 m0 m1 m2 m3 m4 CO cp
 have m0:w2.cell? ⟨w.heap.size+1,0,none⟩=some (.int .i64 c.o):=X2.out.cm.cell 0 rfl
 have m1:w2.cell? ⟨w.heap.size+1,1,none⟩=some (.int .i64 c.p):=X2.out.cm.cell 1 rfl
 have m2:w2.cell? ⟨w.heap.size+1,2,none⟩=some (.int .i64 c.a):=X2.out.cm.cell 2 rfl
 have m3:w2.cell? ⟨w.heap.size+1,3,none⟩=some (.int .i64 c.b):=X2.out.cm.cell 3 rfl
 have m4:w2.cell? ⟨w.heap.size+1,4,none⟩=some (.int .i64 c.k):=X2.out.cm.cell 4 rfl
 go_wp2_with fail
 refine(CRd.out _).mono ?_
 rintro e w3 ⟨rfl,b3⟩
 have X3:Hid (Cx w w3 (.slice uo xs.length uc) (.slice vo ys.length vc) (.slice qo h.ks.length qc) h c):=X2.out.next b3
 clear X2 b3 m0 m1 m2 m3 m4 CRd
 have m0:w3.cell? ⟨w.heap.size+1,0,none⟩=some (.int .i64 c.o):=X3.out.cm.cell 0 rfl
 have m1:w3.cell? ⟨w.heap.size+1,1,none⟩=some (.int .i64 c.p):=X3.out.cm.cell 1 rfl
 have m2:w3.cell? ⟨w.heap.size+1,2,none⟩=some (.int .i64 c.a):=X3.out.cm.cell 2 rfl
 have m3:w3.cell? ⟨w.heap.size+1,3,none⟩=some (.int .i64 c.b):=X3.out.cm.cell 3 rfl
 have m4:w3.cell? ⟨w.heap.size+1,4,none⟩=some (.int .i64 c.k):=X3.out.cm.cell 4 rfl
 go_wp2_with fail
 refine(CWr.out _).mono ?_
 rintro e w9 ⟨rfl,b9⟩
 have X9:Hid (Cx w w9 (.slice uo xs.length uc) (.slice vo ys.length vc) (.slice qo h.ks.length qc) h c):=X3.out.next b9
 clear X3 b9 m0 m1 m2 m3 m4 CWr
 have m0:w9.cell? ⟨w.heap.size+1,0,none⟩=some (.int .i64 c.o):=X9.out.cm.cell 0 rfl
 have m1:w9.cell? ⟨w.heap.size+1,1,none⟩=some (.int .i64 c.p):=X9.out.cm.cell 1 rfl
 have m2:w9.cell? ⟨w.heap.size+1,2,none⟩=some (.int .i64 c.a):=X9.out.cm.cell 2 rfl
 have m3:w9.cell? ⟨w.heap.size+1,3,none⟩=some (.int .i64 c.b):=X9.out.cm.cell 3 rfl
 have m4:w9.cell? ⟨w.heap.size+1,4,none⟩=some (.int .i64 c.k):=X9.out.cm.cell 4 rfl
 have ho:=HO.out
 go_upto_region 8 with fail
 clear ho m0 m1 m2 m3 m4
 have C5:Hid (∀wx,Below w9.heap.size w9 wx→Below w.heap.size w wx):=fun wx e=>X9.out.bl.trans (e.mono X9.out.bl.size)
 have q0:∀w',Sp (w.heap.size+1+1) w9 w'→w'.cell? ⟨w.heap.size,0,none⟩=some (.slice uo xs.length uc):=fun w' b=>b _ _ (by dsimp only;omega) (X9.out.st.cell 0 rfl)
 have q1:∀w',Sp (w.heap.size+1+1) w9 w'→w'.cell? ⟨w.heap.size,1,none⟩=some (.slice vo ys.length vc):=fun w' b=>b _ _ (by dsimp only;omega) (X9.out.st.cell 1 rfl)
 have q2:∀w',Sp (w.heap.size+1+1) w9 w'→w'.cell? ⟨w.heap.size,2,none⟩=some (.slice qo h.ks.length qc):=fun w' b=>b _ _ (by dsimp only;omega) (X9.out.st.cell 2 rfl)
 have q3:∀w',Sp (w.heap.size+1+1) w9 w'→w'.cell? ⟨w.heap.size,3,none⟩=some (.int .i64 h.kd):=fun w' b=>b _ _ (by dsimp only;omega) (X9.out.st.cell 3 rfl)
 have q4:∀w',Sp (w.heap.size+1+1) w9 w'→w'.cell? ⟨w.heap.size,4,none⟩=some (.int .i64 h.ho):=fun w' b=>b _ _ (by dsimp only;omega) (X9.out.st.cell 4 rfl)
 have q5:∀w',Sp (w.heap.size+1+1) w9 w'→w'.cell? ⟨w.heap.size,5,none⟩=some (.int .i64 h.tu):=fun w' b=>b _ _ (by dsimp only;omega) (X9.out.st.cell 5 rfl)
 go_region_held3 (fun w'=>Sp (w.heap.size+1+1) w9 w') ((repeat'(first|with_reducible assumption|with_reducible exact Sp.refl _ _|with_reducible refine Sp.al ?_|with_reducible refine Sp.dr ?_|with_reducible refine Sp.set ?_|with_reducible refine Sp.put ?_ (by with_reducible assumption)|with_reducible refine Sp.bel ?_ (by with_reducible assumption))))
  (first
   |(go_at_call 32;refine(CF.out _ (C5.out _ (by repeat'(first|with_reducible assumption|with_reducible exact Below.refl _ _|with_reducible refine bel_alloc ?_|with_reducible refine bel_drew ?_|with_reducible refine bel_trans ?_ (by with_reducible assumption))))).mono ?_;rintro e w5 ⟨a,b,k,rfl,o5,b5⟩;obtain⟨ao,ac,rfl⟩:=o5.1.1.reads.form;obtain⟨bo,bc,rfl⟩:=o5.1.2.1.reads.form;obtain⟨ko,kc,rfl⟩:=o5.2.1.reads.form;have B5:Hid (Below w9.heap.size w9 w5):=(show Below w9.heap.size w9 w5 from(by repeat'(first|with_reducible assumption|with_reducible exact Below.refl _ _|with_reducible refine bel_alloc ?_|with_reducible refine bel_drew ?_|with_reducible refine bel_trans ?_ (by with_reducible assumption))));have O5:Hid (OwnR w5 (w.heap.size+3) (.slice ao xs.length ac) (.slice bo ys.length bc) (.slice ko h.ks.length kc) xs ys h.ks):=o5.mono (Nat.le_trans X9.out.sz (bl_size (by repeat'(first|with_reducible assumption|with_reducible exact Below.refl _ _|with_reducible refine bel_alloc ?_|with_reducible refine bel_drew ?_|with_reducible refine bel_trans ?_ (by with_reducible assumption)))));clear o5)
   |(go_at_call 77;refine(CK.out _ (C5.out _ (by repeat'(first|with_reducible assumption|with_reducible exact Below.refl _ _|with_reducible refine bel_alloc ?_|with_reducible refine bel_drew ?_|with_reducible refine bel_trans ?_ (by with_reducible assumption))))).mono ?_;rintro e w4 ⟨rfl,b4⟩;have B4:Hid (Below w9.heap.size w9 w4):=(show Below w9.heap.size w9 w4 from(by repeat'(first|with_reducible assumption|with_reducible exact Below.refl _ _|with_reducible refine bel_alloc ?_|with_reducible refine bel_drew ?_|with_reducible refine bel_trans ?_ (by with_reducible assumption))));have X4:Hid (Cx w w4 (.slice uo xs.length uc) (.slice vo ys.length vc) (.slice qo h.ks.length qc) h c):=X9.out.next B4.out;have O4:Hid (OwnR w4 (w.heap.size+3) (.slice ao xs.length ac) (.slice bo ys.length bc) (.slice ko h.ks.length kc) xs ys h.ks):=O5.out.below (by repeat'(first|with_reducible assumption|with_reducible exact Below.refl _ _|with_reducible refine bel_alloc ?_|with_reducible refine bel_drew ?_|with_reducible refine bel_trans ?_ (by with_reducible assumption)));skip)
   |((with_reducible show Oper.upon _ _ _ _ _ (Result.andThen (Sem.run _ (storeCells _ (srA _ _ _ _).toList) _) _));refine upon_putS (w.heap.size+1+1) 30 (srA (.slice ao xs.length ac) (.slice bo ys.length bc) (.slice ko h.ks.length kc) h) zeR rfl (srA_one h rfl rfl rfl) X4.out.rs ?_;intro w6 s6 g6))
 all_goals
  go_wp2
  refine bodyPost_ret (results_S3 Tryz.isR rfl _ _ (w.heap.size+1+1) _ _ _ rfl rfl rfl rfl s6) rfl ?_
  exact⟨_,_,_,rfl,(O4.out.keptLt g6 (by omega)).mono (by omega),X4.out.bl.grown g6 X4.out.bl.size (fun k e=>by cases e;omega)⟩
end Go.Proofs.YtpdggofaobmnlaaGreatDoor
