import Derived.Test.YtpdggofaobmnlaaGreatDoorM32
import Derived.Test.YtpdggofaobmnlaaGreatDoorM8
import Derived.Test.YtpdggofaobmnlaaGreatDoorM19
/- Blocks by commands, the program: the type switch over the shapes of a command (didAsked), a theorem a shape. -/
set_option maxRecDepth 20000
set_option maxHeartbeats 2000000
namespace Go.Proofs.YtpdggofaobmnlaaGreatDoor
open Go.ChangeShapes Go.WideShapes Go.ChangeAt Go.RowKit
structure By (w wx:World) (u v:Value):Prop where
 dk:StB wx w.heap.size 26 #[u,v]
 rd:StB wx (w.heap.size+1) 26 zeD
 ra:StB wx (w.heap.size+1+1) 36 (anA ⟨0,[]⟩)
 bl:Below w.heap.size w wx
 sz:w.heap.size+3≤wx.heap.size
theorem By.start (w:World) (u v:Value):By w (((w.alloc (.cells #[u,v] 26)).alloc (.cells zeD 26)).alloc (.cells (anA ⟨0,[]⟩) 36)) u v:=by
 have a1:=StB.new w 26 #[u,v]
 have a3:=StB.new (w.alloc (.cells #[u,v] 26)) 26 zeD
 have a4:=StB.new ((w.alloc (.cells #[u,v] 26)).alloc (.cells zeD 26)) 36 (anA ⟨0,[]⟩)
 simp only[World.size_alloc]at a3 a4
 refine⟨(a1.alloc _).alloc _,a3.alloc _,a4,?_,by simp⟩
 exact(((Below.refl _ _).alloc (Nat.le_refl _) _).alloc (by simp) _).alloc (by simp;omega) _
theorem By.next {w wx wy:World} {u v:Value} (h:By w wx u v) (b:Below wx.heap.size wx wy):By w wy u v:=
 ⟨h.dk.below b,h.rd.below b,h.ra.below b,h.bl.trans (b.mono h.bl.size),Nat.le_trans h.sz b.size⟩
theorem By.grown {w wx wy:World} {u v:Value} {g:Nat} (h:By w wx u v) (b:wx.grownBy wy (some g)) (hg:w.heap.size+3≤g):By w wy u v:=
 ⟨h.dk.kept b (by simp;omega),h.rd.kept b (by simp;omega),h.ra.kept b (by simp;omega),h.bl.grown b h.bl.size (fun k e=>by cases e;omega),Nat.le_trans h.sz b.size⟩
theorem By.fin {w wx wy wz:World} {u v:Value} {a b:Value} {xs ys:List Int} {base:Nat} (h:By w wx u v) (oa:Own wx base a xs) (ob:Own wx base b ys) (hb:w.heap.size+3≤base) (ap:apart a b)
  (g5:wx.grownBy wy (some (w.heap.size+1))) (g6:wy.grownBy wz (some (w.heap.size+1+1))):OwnD wz w.heap.size a b xs ys∧Below w.heap.size w wz:=by
 refine⟨⟨(((oa.keptLt g5 (by omega)).keptLt g6 (by omega))).mono (by omega),(((ob.keptLt g5 (by omega)).keptLt g6 (by omega))).mono (by omega),ap⟩,?_⟩
 have b5:=h.bl.grown g5 h.bl.size (fun k e=>by cases e;omega)
 exact b5.grown g6 b5.size (fun k e=>by cases e;omega)
def Does (f:FuncId) (w:World) (args:Array Value) (ks ns:List Int) (an:An):Prop:=
 ∀w',Below w.heap.size w w'→Calls Tryz.prog f args w' fun e w''=>∃a b,e=.returned (.tuple #[.agg #[a,b],AV an])∧OwnD w'' w'.heap.size a b ks ns∧Below w'.heap.size w' w''
def Does1 (f:FuncId) (w:World) (args:Array Value) (ks ns:List Int):Prop:=
 ∀w',Below w.heap.size w w'→Calls Tryz.prog f args w' fun e w''=>∃a b,e=.returned (.agg #[a,b])∧OwnD w'' w'.heap.size a b ks ns∧Below w'.heap.size w' w''
theorem Tryz.is_rd:IsS 190 1:=⟨⟨_,Tryz.underlying190⟩,by kernel_rfl⟩
theorem ido_rd (u v:Value) (ks ns:List Int) (an:An) (p:Int) (w:World) (hc:Does 165 w #[.agg #[u,v],.agg #[.int .i64 p]] ks ns an):
  Calls Tryz.prog 144 #[.agg #[u,v],.iface 190 (.agg #[.int .i64 p])] w fun e w'=>∃a b,e=.returned (.tuple #[.agg #[a,b],AV an])∧OwnD w' w.heap.size a b ks ns∧Below w.heap.size w w':=by
 obtain⟨w1,hw1⟩:∃w1,w1=((w.alloc (.cells #[u,v] 26)).alloc (.cells #[.slice none 0 0,.slice none 0 0] 26)).alloc (.cells #[.int .i64 0,.string ⟨#[]⟩] 36):=⟨_,rfl⟩
 have HV:Hid (By w w1 u v):=by rw[hw1];exact By.start w u v
 have cast0:=Tryz.asRR
 obtain⟨w2,hw2⟩:∃w2,w2=w1.alloc (.cells #[.int .i64 p] 190):=⟨_,rfl⟩
 have b2:Below w1.heap.size w1 w2:=by rw[hw2];exact belowAlloc w1 _
 have H2:Hid (By w w2 u v∧StB w2 w1.heap.size 190 #[.int .i64 p]):=⟨HV.out.next b2,by rw[hw2];exact StB.new _ _ _⟩
 have HC:Hid (Does 165 w #[.agg #[u,v],.agg #[.int .i64 p]] ks ns an):=hc
 clear hc b2
 go_enter Tryz.func144,Tryz.ntmps144
 go_upto_region 1 with fail
 rw[←hw1]
 clear hw1
 go_upto_region 4 with fail
 rw[←hw2]
 clear hw2
 have H3:Hid (By w w2 u v):=H2.out.1
 go_wp2_with (first
  |(refine wpList_getS Tryz.isD rfl _ rfl w.heap.size rfl _ rfl H3.out.dk ?_)
  |(refine wpList_getS Tryz.is_rd rfl _ rfl w1.heap.size rfl _ rfl H2.out.2 ?_))
 refine(HC.out _ H3.out.bl).mono ?_
 rintro e w4 ⟨a,b,rfl,o4,b4⟩
 have H4:Hid (By w w4 u v):=H3.out.next b4
 obtain⟨ao,ac,rfl⟩:=o4.1.reads.form
 obtain⟨bo,bc,rfl⟩:=o4.2.1.reads.form
 have O4:Hid (OwnD w4 (w.heap.size+3) (.slice ao ks.length ac) (.slice bo ns.length bc) ks ns):=o4.mono' H3.out.sz
 clear o4 b4 HC H3 H2 HV
 unfold AV
 go_wp2_with (first
  |(refine wpList_putS Tryz.isD rfl _ _ rfl (w.heap.size+1) #[.slice ao ks.length ac,.slice bo ns.length bc] zeD rfl rfl rfl rfl (dkA_one rfl rfl) H4.out.rd ?_;intro w5 s5 g5)
  |(refine wpList_putS Tryz.isA rfl _ _ rfl (w.heap.size+1+1) (anA an) (anA ⟨0,[]⟩) rfl rfl rfl rfl (anA_one _) (H4.out.ra.kept g5 (by simp)) ?_;intro w6 s6 g6))
 refine bodyPost_ret (results_DA rfl _ _ (w.heap.size+1) (w.heap.size+1+1) _ _ rfl rfl rfl rfl (s5.kept g6 (by simp)) s6) rfl ?_
 exact⟨_,_,rfl,H4.out.fin O4.out.1 O4.out.2.1 (Nat.le_refl _) O4.out.2.2 g5 g6⟩
theorem Tryz.is_wr:IsS 193 2:=⟨⟨_,Tryz.underlying193⟩,by kernel_rfl⟩
theorem ido_wr (u v:Value) (ks ns:List Int) (an:An) (p q:Int) (w:World) (hc:Does 166 w #[.agg #[u,v],.agg #[.int .i64 p,.int .i64 q]] ks ns an):
  Calls Tryz.prog 144 #[.agg #[u,v],.iface 193 (.agg #[.int .i64 p,.int .i64 q])] w fun e w'=>∃a b,e=.returned (.tuple #[.agg #[a,b],AV an])∧OwnD w' w.heap.size a b ks ns∧Below w.heap.size w w':=by
 obtain⟨w1,hw1⟩:∃w1,w1=((w.alloc (.cells #[u,v] 26)).alloc (.cells #[.slice none 0 0,.slice none 0 0] 26)).alloc (.cells #[.int .i64 0,.string ⟨#[]⟩] 36):=⟨_,rfl⟩
 have HV:Hid (By w w1 u v):=by rw[hw1];exact By.start w u v
 have cast0:=Tryz.asWR
 have cast1:=Tryz.asWW
 obtain⟨w2,hw2⟩:∃w2,w2=w1.alloc (.cells #[.int .i64 p,.int .i64 q] 193):=⟨_,rfl⟩
 have b2:Below w1.heap.size w1 w2:=by rw[hw2];exact belowAlloc w1 _
 have H2:Hid (By w w2 u v∧StB w2 w1.heap.size 193 #[.int .i64 p,.int .i64 q]):=⟨HV.out.next b2,by rw[hw2];exact StB.new _ _ _⟩
 have HC:Hid (Does 166 w #[.agg #[u,v],.agg #[.int .i64 p,.int .i64 q]] ks ns an):=hc
 clear hc b2
 go_enter Tryz.func144,Tryz.ntmps144
 go_upto_region 1 with fail
 rw[←hw1]
 clear hw1
 go_upto_region 7 with fail
 rw[←hw2]
 clear hw2
 have H3:Hid (By w w2 u v):=H2.out.1
 go_wp2_with (first
  |(refine wpList_getS Tryz.isD rfl _ rfl w.heap.size rfl _ rfl H3.out.dk ?_)
  |(refine wpList_getS Tryz.is_wr rfl _ rfl w1.heap.size rfl _ rfl H2.out.2 ?_))
 refine(HC.out _ H3.out.bl).mono ?_
 rintro e w4 ⟨a,b,rfl,o4,b4⟩
 have H4:Hid (By w w4 u v):=H3.out.next b4
 obtain⟨ao,ac,rfl⟩:=o4.1.reads.form
 obtain⟨bo,bc,rfl⟩:=o4.2.1.reads.form
 have O4:Hid (OwnD w4 (w.heap.size+3) (.slice ao ks.length ac) (.slice bo ns.length bc) ks ns):=o4.mono' H3.out.sz
 clear o4 b4 HC H3 H2 HV
 unfold AV
 go_wp2_with (first
  |(refine wpList_putS Tryz.isD rfl _ _ rfl (w.heap.size+1) #[.slice ao ks.length ac,.slice bo ns.length bc] zeD rfl rfl rfl rfl (dkA_one rfl rfl) H4.out.rd ?_;intro w5 s5 g5)
  |(refine wpList_putS Tryz.isA rfl _ _ rfl (w.heap.size+1+1) (anA an) (anA ⟨0,[]⟩) rfl rfl rfl rfl (anA_one _) (H4.out.ra.kept g5 (by simp)) ?_;intro w6 s6 g6))
 refine bodyPost_ret (results_DA rfl _ _ (w.heap.size+1) (w.heap.size+1+1) _ _ rfl rfl rfl rfl (s5.kept g6 (by simp)) s6) rfl ?_
 exact⟨_,_,rfl,H4.out.fin O4.out.1 O4.out.2.1 (Nat.le_refl _) O4.out.2.2 g5 g6⟩
theorem Tryz.is_sw:IsS 196 3:=⟨⟨_,Tryz.underlying196⟩,by kernel_rfl⟩
theorem ido_sw (u v:Value) (ks ns:List Int) (an:An) (p q r:Int) (w:World) (hc:Does 167 w #[.agg #[u,v],.agg #[.int .i64 p,.int .i64 q,.int .i64 r]] ks ns an):
  Calls Tryz.prog 144 #[.agg #[u,v],.iface 196 (.agg #[.int .i64 p,.int .i64 q,.int .i64 r])] w fun e w'=>∃a b,e=.returned (.tuple #[.agg #[a,b],AV an])∧OwnD w' w.heap.size a b ks ns∧Below w.heap.size w w':=by
 obtain⟨w1,hw1⟩:∃w1,w1=((w.alloc (.cells #[u,v] 26)).alloc (.cells #[.slice none 0 0,.slice none 0 0] 26)).alloc (.cells #[.int .i64 0,.string ⟨#[]⟩] 36):=⟨_,rfl⟩
 have HV:Hid (By w w1 u v):=by rw[hw1];exact By.start w u v
 have cast0:=Tryz.asSR
 have cast1:=Tryz.asSW
 have cast2:=Tryz.asSS
 obtain⟨w2,hw2⟩:∃w2,w2=w1.alloc (.cells #[.int .i64 p,.int .i64 q,.int .i64 r] 196):=⟨_,rfl⟩
 have b2:Below w1.heap.size w1 w2:=by rw[hw2];exact belowAlloc w1 _
 have H2:Hid (By w w2 u v∧StB w2 w1.heap.size 196 #[.int .i64 p,.int .i64 q,.int .i64 r]):=⟨HV.out.next b2,by rw[hw2];exact StB.new _ _ _⟩
 have HC:Hid (Does 167 w #[.agg #[u,v],.agg #[.int .i64 p,.int .i64 q,.int .i64 r]] ks ns an):=hc
 clear hc b2
 go_enter Tryz.func144,Tryz.ntmps144
 go_upto_region 1 with fail
 rw[←hw1]
 clear hw1
 go_upto_region 10 with fail
 rw[←hw2]
 clear hw2
 have H3:Hid (By w w2 u v):=H2.out.1
 go_wp2_with (first
  |(refine wpList_getS Tryz.isD rfl _ rfl w.heap.size rfl _ rfl H3.out.dk ?_)
  |(refine wpList_getS Tryz.is_sw rfl _ rfl w1.heap.size rfl _ rfl H2.out.2 ?_))
 refine(HC.out _ H3.out.bl).mono ?_
 rintro e w4 ⟨a,b,rfl,o4,b4⟩
 have H4:Hid (By w w4 u v):=H3.out.next b4
 obtain⟨ao,ac,rfl⟩:=o4.1.reads.form
 obtain⟨bo,bc,rfl⟩:=o4.2.1.reads.form
 have O4:Hid (OwnD w4 (w.heap.size+3) (.slice ao ks.length ac) (.slice bo ns.length bc) ks ns):=o4.mono' H3.out.sz
 clear o4 b4 HC H3 H2 HV
 unfold AV
 go_wp2_with (first
  |(refine wpList_putS Tryz.isD rfl _ _ rfl (w.heap.size+1) #[.slice ao ks.length ac,.slice bo ns.length bc] zeD rfl rfl rfl rfl (dkA_one rfl rfl) H4.out.rd ?_;intro w5 s5 g5)
  |(refine wpList_putS Tryz.isA rfl _ _ rfl (w.heap.size+1+1) (anA an) (anA ⟨0,[]⟩) rfl rfl rfl rfl (anA_one _) (H4.out.ra.kept g5 (by simp)) ?_;intro w6 s6 g6))
 refine bodyPost_ret (results_DA rfl _ _ (w.heap.size+1) (w.heap.size+1+1) _ _ rfl rfl rfl rfl (s5.kept g6 (by simp)) s6) rfl ?_
 exact⟨_,_,rfl,H4.out.fin O4.out.1 O4.out.2.1 (Nat.le_refl _) O4.out.2.2 g5 g6⟩
theorem ido_nil (u v:Value) (ks ns:List Int) (w:World) (hc:Does1 79 w #[.agg #[u,v]] ks ns):
  Calls Tryz.prog 144 #[.agg #[u,v],.nilIface] w fun e w'=>∃a b,e=.returned (.tuple #[.agg #[a,b],AV ⟨7,[]⟩])∧OwnD w' w.heap.size a b ks ns∧Below w.heap.size w w':=by
 obtain⟨w1,hw1⟩:∃w1,w1=((w.alloc (.cells #[u,v] 26)).alloc (.cells #[.slice none 0 0,.slice none 0 0] 26)).alloc (.cells #[.int .i64 0,.string ⟨#[]⟩] 36):=⟨_,rfl⟩
 have HV:Hid (By w w1 u v):=by rw[hw1];exact By.start w u v
 have cast0:=Tryz.asNR
 have cast1:=Tryz.asNW
 have cast2:=Tryz.asNS
 have cast3:=Tryz.asNY
 have HC:Hid (Does1 79 w #[.agg #[u,v]] ks ns):=hc
 clear hc
 go_enter Tryz.func144,Tryz.ntmps144
 go_upto_region 1 with fail
 rw[←hw1]
 clear hw1
 have H3:=HV
 go_wp2_with (refine wpList_getS Tryz.isD rfl _ rfl w.heap.size rfl _ rfl HV.out.dk ?_)
 refine(HC.out _ H3.out.bl).mono ?_
 rintro e w4 ⟨a,b,rfl,o4,b4⟩
 have H4:Hid (By w w4 u v):=H3.out.next b4
 obtain⟨ao,ac,rfl⟩:=o4.1.reads.form
 obtain⟨bo,bc,rfl⟩:=o4.2.1.reads.form
 have O4:Hid (OwnD w4 (w.heap.size+3) (.slice ao ks.length ac) (.slice bo ns.length bc) ks ns):=o4.mono' H3.out.sz
 clear o4 b4 HC H3
 go_wp2_with (first
  |(refine wpList_putS Tryz.isD rfl _ _ rfl (w.heap.size+1) #[.slice ao ks.length ac,.slice bo ns.length bc] zeD rfl rfl rfl rfl (dkA_one rfl rfl) H4.out.rd ?_;intro w5 s5 g5)
  |(refine wpList_putS Tryz.isA rfl _ _ rfl (w.heap.size+1+1) (anA ⟨7,[]⟩) (anA ⟨0,[]⟩) rfl rfl rfl rfl (anA_one _) (H4.out.ra.kept g5 (by simp)) ?_;intro w6 s6 g6))
 refine bodyPost_ret (results_DA rfl _ _ (w.heap.size+1) (w.heap.size+1+1) _ _ rfl rfl rfl rfl (s5.kept g6 (by simp)) s6) rfl ?_
 exact⟨_,_,rfl,H4.out.fin O4.out.1 O4.out.2.1 (Nat.le_refl _) O4.out.2.2 g5 g6⟩
theorem ido_sync (u v:Value) (ks ns:List Int) (w:World) (hc:Does1 168 w #[.agg #[u,v]] ks ns):
  Calls Tryz.prog 144 #[.agg #[u,v],.iface 199 (.agg #[])] w fun e w'=>∃a b,e=.returned (.tuple #[.agg #[a,b],AV ⟨0,[]⟩])∧OwnD w' w.heap.size a b ks ns∧Below w.heap.size w w':=by
 obtain⟨w1,hw1⟩:∃w1,w1=((w.alloc (.cells #[u,v] 26)).alloc (.cells #[.slice none 0 0,.slice none 0 0] 26)).alloc (.cells #[.int .i64 0,.string ⟨#[]⟩] 36):=⟨_,rfl⟩
 have HV:Hid (By w w1 u v):=by rw[hw1];exact By.start w u v
 have cast0:=Tryz.asYR
 have cast1:=Tryz.asYW
 have cast2:=Tryz.asYS
 have cast3:=Tryz.asYY
 have HC:Hid (Does1 168 w #[.agg #[u,v]] ks ns):=hc
 clear hc
 go_enter Tryz.func144,Tryz.ntmps144
 go_upto_region 1 with fail
 rw[←hw1]
 clear hw1
 obtain⟨w3,hw3⟩:∃w3,w3=w1.alloc (.cells #[] 199):=⟨_,rfl⟩
 have b3:Below w1.heap.size w1 w3:=by rw[hw3];exact belowAlloc w1 _
 have H3:Hid (By w w3 u v):=HV.out.next b3
 clear b3
 go_upto_region 13 with fail
 rw[←hw3]
 clear hw3
 go_wp2_with (refine wpList_getS Tryz.isD rfl _ rfl w.heap.size rfl _ rfl H3.out.dk ?_)
 refine(HC.out _ H3.out.bl).mono ?_
 rintro e w4 ⟨a,b,rfl,o4,b4⟩
 have H4:Hid (By w w4 u v):=H3.out.next b4
 obtain⟨ao,ac,rfl⟩:=o4.1.reads.form
 obtain⟨bo,bc,rfl⟩:=o4.2.1.reads.form
 have O4:Hid (OwnD w4 (w.heap.size+3) (.slice ao ks.length ac) (.slice bo ns.length bc) ks ns):=o4.mono' H3.out.sz
 clear o4 b4 HC H3
 go_wp2_with (first
  |(refine wpList_putS Tryz.isD rfl _ _ rfl (w.heap.size+1) #[.slice ao ks.length ac,.slice bo ns.length bc] zeD rfl rfl rfl rfl (dkA_one rfl rfl) H4.out.rd ?_;intro w5 s5 g5)
  |(refine wpList_putS Tryz.isA rfl _ _ rfl (w.heap.size+1+1) (anA ⟨0,[]⟩) (anA ⟨0,[]⟩) rfl rfl rfl rfl (anA_one _) (H4.out.ra.kept g5 (by simp)) ?_;intro w6 s6 g6))
 refine bodyPost_ret (results_DA rfl _ _ (w.heap.size+1) (w.heap.size+1+1) _ _ rfl rfl rfl rfl (s5.kept g6 (by simp)) s6) rfl ?_
 exact⟨_,_,rfl,H4.out.fin O4.out.1 O4.out.2.1 (Nat.le_refl _) O4.out.2.2 g5 g6⟩
end Go.Proofs.YtpdggofaobmnlaaGreatDoor
namespace Go.Proofs.YtpdggofaobmnlaaGreatDoor
open Go.ChangeShapes Go.WideShapes Go.ChangeAt Go.RowKit
theorem ireads_any (c:Cm) (w:World):
  Calls Tryz.prog 73 #[CV c] w fun e w'=>e=.returned (.bool c.rd)∧Below w.heap.size w w':=by
 have c1:=fun wx=>icmdok_any c wx
 have b0:Below w.heap.size w (w.alloc (.cells (cmA c) 32)):=(Below.refl _ _).alloc (Nat.le_refl _) _
 have P0:=CmB.new w 32 c
 have HE:Hid (c.rd=(c.ok&&decide (c.o=1))):=rfl
 obtain⟨x,hx⟩:∃x,x=c.rd:=⟨_,rfl⟩
 rw[←hx]at HE⊢
 obtain⟨b,hb⟩:∃b,b=c.ok:=⟨_,rfl⟩
 rw[←hb]at HE
 simp only[←hb]at c1
 clear hx hb
 unfold CV cmA at*
 go_enter Tryz.func73,Tryz.ntmps73
 go_wp2_with fail
 refine(c1 _).mono ?_
 rintro e w1 ⟨rfl,b1⟩
 have P1:CmB w1 w.heap.size 32 c:=CmB.below (c:=c) P0 b1
 have B1:=b0.trans (b1.mono b0.size)
 have k0:w1.cell? ⟨w.heap.size,0,none⟩=some (.int .i64 c.o):=P1.cell 0 rfl
 clear b1 b0 P0 c1
 cases b with
 |false=>
  go_wp2
  go_ret
  exact⟨ret_bool (by rw[HE.out];rfl),B1⟩
 |true=>
  by_cases h2:c.o=1
  ·go_wp2
   go_ret
   exact⟨ret_bool (by rw[HE.out];simp[h2]),B1⟩
  ·go_wp2
   go_ret
   exact⟨ret_bool (by rw[HE.out];simp[h2]),B1⟩
theorem wr_chg (c:Cm):c.wr=(c.chg||(c.ok&&decide (c.o=5))):=by
 have e:c.chg=(c.ok&&inI c.o 2 4):=rfl
 unfold Cm.wr
 rw[e]
 cases c.ok
 ·rfl
 ·rw[Bool.eq_iff_iff]
  simp only[Bool.true_and,Bool.or_eq_true,inI_iff,decide_eq_true_eq]
  omega
theorem iwrites_any (c:Cm) (w:World):
  Calls Tryz.prog 74 #[CV c] w fun e w'=>e=.returned (.bool c.wr)∧Below w.heap.size w w':=by
 have c1:=fun wx=>icmdok_any c wx
 have c0:=fun wx=>ichg_any c wx
 have b0:Below w.heap.size w (w.alloc (.cells (cmA c) 32)):=(Below.refl _ _).alloc (Nat.le_refl _) _
 have P0:=CmB.new w 32 c
 have HE:Hid (c.wr=(c.chg||(c.ok&&decide (c.o=5)))):=wr_chg c
 obtain⟨x,hx⟩:∃x,x=c.wr:=⟨_,rfl⟩
 rw[←hx]at HE⊢
 obtain⟨b,hb⟩:∃b,b=c.ok:=⟨_,rfl⟩
 obtain⟨g,hg⟩:∃g,g=c.chg:=⟨_,rfl⟩
 rw[←hb,←hg]at HE
 simp only[←hb]at c1
 simp only[←hg]at c0
 clear hx hb hg
 have C1:Hid _:=c1
 clear c1
 unfold CV cmA at*
 go_enter Tryz.func74,Tryz.ntmps74
 go_wp2_with fail
 refine(c0 _).mono ?_
 rintro e w1 ⟨rfl,b1⟩
 have P1:CmB w1 w.heap.size 32 c:=CmB.below (c:=c) P0 b1
 have B1:=b0.trans (b1.mono b0.size)
 have k0:w1.cell? ⟨w.heap.size,0,none⟩=some (.int .i64 c.o):=P1.cell 0 rfl
 have k1:w1.cell? ⟨w.heap.size,1,none⟩=some (.int .i64 c.p):=P1.cell 1 rfl
 have k2:w1.cell? ⟨w.heap.size,2,none⟩=some (.int .i64 c.a):=P1.cell 2 rfl
 have k3:w1.cell? ⟨w.heap.size,3,none⟩=some (.int .i64 c.b):=P1.cell 3 rfl
 have k4:w1.cell? ⟨w.heap.size,4,none⟩=some (.int .i64 c.k):=P1.cell 4 rfl
 clear b1 b0 P0 c0
 cases g with
 |true=>
  go_wp2
  go_ret
  exact⟨ret_bool (by rw[HE.out];rfl),B1⟩
 |false=>
  go_wp2_with fail
  refine(C1.out _).mono ?_
  rintro e w2 ⟨rfl,b2⟩
  have B2:=B1.trans (b2.mono B1.size)
  have P2:CmB w2 w.heap.size 32 c:=CmB.below (c:=c) P1 b2
  have m0:w2.cell? ⟨w.heap.size,0,none⟩=some (.int .i64 c.o):=P2.cell 0 rfl
  clear b2 k0 k1 k2 k3 k4 P1 B1
  cases b with
  |false=>
   go_wp2
   go_ret
   exact⟨ret_bool (by rw[HE.out];rfl),B2⟩
  |true=>
   by_cases h2:c.o=5
   ·go_wp2
    go_ret
    exact⟨ret_bool (by rw[HE.out];simp[h2]),B2⟩
   ·go_wp2
    go_ret
    exact⟨ret_bool (by rw[HE.out];simp[h2]),B2⟩
end Go.Proofs.YtpdggofaobmnlaaGreatDoor
namespace Go.Proofs.YtpdggofaobmnlaaGreatDoor
open Go.ChangeShapes Go.WideShapes Go.ChangeAt Go.RowKit
theorem Sq.put3 {w w1 wx wy:World} (h:Sq w w1 wx) (g:wx.grownBy wy (some (w.heap.size+1+1+1))):Sq w w1 wy:=fun a x h1 h2 h3=>g.cell (h a x h1 h2 h3) (by simpa using h2)
theorem put_yes {xs ys:List Int} (hb:bothOk xs ys=true) {p x:Int} (h0:0≤p) (h1:p<(ys.length:Int)) (hx:valOk x=true):putB ys p x=true∧putI ys p x=ys.set p.toNat x:=by
 have h2:=(bothOk_yes hb).2.1
 have hp:placeOk ys p x=true:=by simp[placeOk,h0,h1,hx]
 exact⟨by simp[putB,h2,hp],by simp[putI,h2,hp]⟩
theorem put_no {xs ys:List Int} (hb:bothOk xs ys=true) {p x:Int} (h:(ys.length:Int)≤p∨valOk x=false):putB ys p x=false∧putI ys p x=ys:=by
 have h2:=(bothOk_yes hb).2.1
 have hp:placeOk ys p x=false:=by
  unfold placeOk
  rcases h with h|h
  ·have:decide (p<(ys.length:Int))=false:=by simp;omega
   rw[this]
   simp
  ·rw[h]
   simp
 exact⟨by simp[putB,hp],by simp[putI,h2,hp]⟩
theorem did_put {xs ys:List Int} (hb:bothOk xs ys=true) (c:Cm) (x:Int) (h0:0≤c.p) (ho:c.o≠5) (hr:rangeI ys c=(decide ((ys.length:Int)≤c.p)|| !valOk x)) (hd:rangeI ys c=false→didI xs ys c=(xs,ys.set c.p.toNat x,⟨0,[]⟩)):
  didI xs ys c=(xs,putI ys c.p x,wrA (putB ys c.p x)):=by
 cases e:rangeI ys c with
 |true=>
  rw[didI_range ho e]
  rw[e]at hr
  have h:(ys.length:Int)≤c.p∨valOk x=false:=by simpa using hr.symm
  rw[(put_no hb h).1,(put_no hb h).2]
  rfl
 |false=>
  rw[hd e]
  rw[e]at hr
  have h:c.p<(ys.length:Int)∧valOk x=true:=by simpa using hr.symm
  rw[(put_yes hb h0 h.1 h.2).1,(put_yes hb h0 h.1 h.2).2]
  rfl
theorem idid_any (u v:Value) (xs ys:List Int) (c:Cm) (w:World) (h:Reads w u xs) (h':Reads w v ys) (hb:bothOk xs ys=true) (ht:Tab w):
  Calls Tryz.prog 144 #[.agg #[u,v],askV c] w fun e w'=>∃a b,e=.returned (.tuple #[.agg #[a,b],AV (didD xs ys c).2.2])∧OwnD w' w.heap.size a b (didD xs ys c).1 (didD xs ys c).2.1∧Below w.heap.size w w':=by
 obtain⟨n1,n8,nl⟩:=vol_len hb
 have gx:xs.length≤1099511627776:=by omega
 have gy:ys.length≤1099511627776:=by omega
 have ru:∀w',Below w.heap.size w w'→Reads w' u xs:=fun w' b=>h.below b (Nat.le_refl _)
 have rv:∀w',Below w.heap.size w w'→Reads w' v ys:=fun w' b=>h'.below b (Nat.le_refl _)
 by_cases hc:c.ok=true∧c.o≤5
 ·obtain⟨hok,h5⟩:=hc
  have ed:didD xs ys c=didI xs ys c:=by simp[didD,hb,hok,h5]
  rw[ed]
  obtain⟨ho,hp0⟩:=Cm.ok_vol hok h5
  have ea:askV c=if c.o=1 then .iface 190 (.agg #[.int .i64 c.p])
    else if c.o=2 then .iface 193 (.agg #[.int .i64 c.p,.int .i64 c.a])
    else if c.o=3 then .iface 196 (.agg #[.int .i64 c.p,.int .i64 c.a,.int .i64 c.b])
    else if c.o=4 then .iface 193 (.agg #[.int .i64 c.p,.int .i64 0])
    else if c.o=5 then .iface 199 (.agg #[])
    else .nilIface:=by unfold askV;rw[if_pos hok]
  rw[ea]
  clear ea ed hok h5
  obtain⟨o,p,x,y,k0⟩:=c
  dsimp only at*
  rcases ho with rfl|rfl|rfl|rfl|rfl
  ·rw[if_pos rfl]
   by_cases hf:(ys.length:Int)≤p
   ·rw[didI_range (by simp) (by simp[rangeI,hf])]
    exact ido_rd u v xs ys ⟨1,[]⟩ p w (fun w' b=>ireadFrom_far u v xs ys p w' (ru w' b) (rv w' b) hb hf)
   ·obtain⟨j,rfl⟩:∃j:Nat,p=(j:Int):=⟨p.toNat,by omega⟩
    have e:didI xs ys ⟨1,j,x,y,k0⟩=(xs,ys,⟨0,decI (ys.getD j 0)⟩):=by
     have:rangeI ys ⟨1,j,x,y,k0⟩=false:=by simp[rangeI];omega
     simp[didI,this,atI]
    rw[e]
    exact ido_rd u v xs ys ⟨0,decI (ys.getD j 0)⟩ j w (fun w' b=>ireadFrom_near u v xs ys j w' (ru w' b) (rv w' b) hb (by omega) (ht.below b))
  ·rw[if_neg (by decide),if_pos rfl]
   rw[did_put hb ⟨2,p,x,y,k0⟩ x hp0 (by simp) (by simp[rangeI]) (fun e=>by simp[didI,e])]
   exact ido_wr u v xs _ _ p x w (fun w' b=>iwrittenTo_any u v xs ys p x w' (ru w' b) (rv w' b) gx gy hb)
  ·rw[if_neg (by decide),if_neg (by decide),if_pos rfl]
   have hr:rangeI ys ⟨3,p,x,y,k0⟩=(decide ((ys.length:Int)≤p)|| !valOk y):=by simp[rangeI]
   cases e:rangeI ys ⟨3,p,x,y,k0⟩with
   |true=>
    rw[didI_range (by simp) e]
    rw[e]at hr
    have h1:(ys.length:Int)≤p∨valOk y=false:=by simpa using hr.symm
    have:=put_no hb h1
    exact ido_sw u v xs ys ⟨1,[]⟩ p x y w (fun w' b=>by have q:=iswap_no u v xs ys p x y w' (ru w' b) (rv w' b) hb this.1;rw[this.2]at q;exact q)
   |false=>
    rw[e]at hr
    have h1:p<(ys.length:Int)∧valOk y=true:=by simpa using hr.symm
    have hput:=put_yes hb hp0 h1.1 h1.2
    obtain⟨j,rfl⟩:∃j:Nat,p=(j:Int):=⟨p.toNat,by omega⟩
    have ht':((j:Int)).toNat=j:=by omega
    by_cases hz:ys.getD j 0=x
    ·have ed:didI xs ys ⟨3,j,x,y,k0⟩=(xs,putI ys j y,⟨0,[]⟩):=by
      have hz':ys[j]?.getD 0=x:=by simpa using hz
      simp[didI,e,atI,hz',hput.2]
     rw[ed]
     exact ido_sw u v xs _ ⟨0,[]⟩ j x y w (fun w' b=>iswap_yes u v xs ys j x y w' (ru w' b) (rv w' b) hb hput.1 h1.1 hz)
    ·have ed:didI xs ys ⟨3,j,x,y,k0⟩=(xs,ys,⟨2,decI (ys.getD j 0)⟩):=by
      have hz':¬ys[j]?.getD 0=x:=by simpa using hz
      simp[didI,e,atI,hz']
     rw[ed]
     exact ido_sw u v xs ys ⟨2,decI (ys.getD j 0)⟩ j x y w (fun w' b=>iswap_unlike u v xs ys j x y w' (ru w' b) (rv w' b) hb hput.1 h1.1 hz (ht.below b))
  ·rw[if_neg (by decide),if_neg (by decide),if_neg (by decide),if_pos rfl]
   rw[did_put hb ⟨4,p,x,y,k0⟩ 0 hp0 (by simp) (by simp[rangeI,valOk]) (fun e=>by simp[didI,e])]
   exact ido_wr u v xs _ _ p 0 w (fun w' b=>iwrittenTo_any u v xs ys p 0 w' (ru w' b) (rv w' b) gx gy hb)
  ·rw[if_neg (by decide),if_neg (by decide),if_neg (by decide),if_neg (by decide),if_pos rfl]
   have e:didI xs ys ⟨5,p,x,y,k0⟩=(ys,ys,⟨0,[]⟩):=by simp[didI]
   rw[e]
   exact ido_sync u v ys ys w (fun w' b=>by have q:=flushed_any u v xs ys w' (ru w' b) (rv w' b) gx gy;rw[show flN xs ys=ys by simp[flN,hb]]at q;exact q)
 ·have ed:didD xs ys c=(xs,ys,⟨7,[]⟩):=by
   have:(c.ok&&decide (c.o≤5))=false:=by
    cases e:c.ok with
    |false=>rfl
    |true=>simp[e]at hc;simp;omega
   simp[didD,hb,this]
  have ea:askV c=.nilIface:=by
   unfold askV
   by_cases hok:c.ok=true
   ·have:¬c.o≤5:=fun h=>hc ⟨hok,h⟩
    rw[if_pos hok,if_neg (by omega),if_neg (by omega),if_neg (by omega),if_neg (by omega),if_neg (by omega)]
   ·rw[if_neg hok]
  rw[ed,ea]
  exact ido_nil u v xs ys w (fun w' b=>freshDisk_any u v xs ys w' (ru w' b) (rv w' b) n1 (by omega) gx gy)
theorem iDidDisk_any (u v:Value) (xs ys:List Int) (c:Cm) (w:World) (h:Reads w u xs) (h':Reads w v ys) (gx:xs.length≤1099511627776) (gy:ys.length≤1099511627776) (ht:Tab w):
  Calls Tryz.prog 110 #[.agg #[u,v],CV c] w fun e w'=>∃a b,e=.returned (.tuple #[.agg #[a,b],AV (didD xs ys c).2.2])∧OwnD w' w.heap.size a b (didD xs ys c).1 (didD xs ys c).2.1∧Below w.heap.size w w':=by
 obtain⟨w1,hw1⟩:∃w1,w1=(((w.alloc (.cells #[u,v] 26)).alloc (.cells #[.int .i64 c.o,.int .i64 c.p,.int .i64 c.a,.int .i64 c.b,.int .i64 c.k] 32)).alloc (.cells #[.slice none 0 0,.slice none 0 0] 26)).alloc (.cells #[.int .i64 0,.string ⟨#[]⟩] 36):=⟨_,rfl⟩
 have HV:Hid (Vx w w1 u v 32 (cmA c) zeD ⟨0,[]⟩):=by rw[hw1];exact Vx.start w u v _ _
 have c1:=diskOk_any u v xs ys w1 (h.below HV.out.bl (Nat.le_refl _)) (h'.below HV.out.bl (Nat.le_refl _)) gx gy
 have HR:Hid (Reads w u xs∧Reads w v ys∧Tab w):=⟨h,h',ht⟩
 obtain⟨uo,uc,rfl⟩:=h.form
 obtain⟨vo,vc,rfl⟩:=h'.form
 cases hb:bothOk xs ys with
 |false=>
  have ed:didD xs ys c=([],[],⟨7,[]⟩):=by simp[didD,hb]
  rw[ed]
  rw[hb]at c1
  clear hb ed h h' gx gy ht
  unfold CV cmA
  go_enter Tryz.func110,Tryz.ntmps110
  go_upto_region 1 with fail
  rw[←hw1]
  clear hw1
  go_wp2_with (refine wpList_getS Tryz.isD rfl _ rfl w.heap.size rfl _ rfl HV.out.dk ?_)
  refine c1.mono ?_
  rintro e w2 ⟨rfl,b2⟩
  have H2:Hid (Vx w w2 (.slice uo xs.length uc) (.slice vo ys.length vc) 32 (cmA c) zeD ⟨0,[]⟩):=HV.out.next b2
  clear b2 c1 HV
  go_wp2_with (first
   |(refine wpList_putS Tryz.isD rfl _ _ rfl (w.heap.size+1+1) zeD zeD rfl rfl rfl rfl (dkA_one rfl rfl) H2.out.rd ?_;intro w5 s5 g5)
   |(refine wpList_putS Tryz.isA rfl _ _ rfl (w.heap.size+1+1+1) (anA ⟨7,[]⟩) (anA ⟨0,[]⟩) rfl rfl rfl rfl (anA_one _) (H2.out.ra.kept g5 (by simp)) ?_;intro w6 s6 g6))
  refine bodyPost_ret (results_DA rfl _ _ (w.heap.size+1+1) (w.heap.size+1+1+1) _ _ rfl rfl rfl rfl (s5.kept g6 (by simp)) s6) rfl ?_
  have b5:=H2.out.bl.grown g5 H2.out.bl.size (fun k e=>by cases e;omega)
  exact⟨_,_,rfl,ownNil2 _ _,b5.grown g6 b5.size (fun k e=>by cases e;omega)⟩
 |true=>
  have ID:Hid (∀w',Below w.heap.size w w'→Calls Tryz.prog 144 #[.agg #[.slice uo xs.length uc,.slice vo ys.length vc],askV c] w' fun e w''=>∃a b,e=.returned (.tuple #[.agg (dkA a b),.agg (anA (didD xs ys c).2.2)])∧OwnD w'' w'.heap.size a b (didD xs ys c).1 (didD xs ys c).2.1∧Below w'.heap.size w' w''):=
   fun w' b=>idid_any _ _ xs ys c w' (h.below b (Nat.le_refl _)) (h'.below b (Nat.le_refl _)) hb (ht.below b)
  have AK:Hid (∀w',Calls Tryz.prog 145 #[.agg #[.int .i64 c.o,.int .i64 c.p,.int .i64 c.a,.int .i64 c.b,.int .i64 c.k]] w' fun e w''=>e=.returned (askV c)∧Below w'.heap.size w' w''):=fun w'=>iasked_any c w'
  obtain⟨V,hV⟩:∃V,V=askV c:=⟨_,rfl⟩
  obtain⟨an,han⟩:∃an,an=(didD xs ys c).2.2:=⟨_,rfl⟩
  obtain⟨ks,hks⟩:∃ks,ks=(didD xs ys c).1:=⟨_,rfl⟩
  obtain⟨ns,hns⟩:∃ns,ns=(didD xs ys c).2.1:=⟨_,rfl⟩
  rw[←hV]at AK
  rw[←hV,←han,←hks,←hns]at ID
  rw[←han,←hks,←hns]
  rw[hb]at c1
  clear hb h h' gx gy ht hV han hks hns
  unfold CV cmA
  go_enter Tryz.func110,Tryz.ntmps110
  go_upto_region 1 with fail
  rw[←hw1]
  clear hw1
  go_wp2_with (refine wpList_getS Tryz.isD rfl _ rfl w.heap.size rfl _ rfl HV.out.dk ?_)
  refine c1.mono ?_
  rintro e w2 ⟨rfl,b2⟩
  have H2:Hid (Vx w w2 (.slice uo xs.length uc) (.slice vo ys.length vc) 32 (cmA c) zeD ⟨0,[]⟩):=HV.out.next b2
  clear b2 c1 HV
  have q0:∀w',Sq w w2 w'→w'.cell? ⟨w.heap.size,0,none⟩=some (.slice uo xs.length uc):=fun w' b=>b _ _ (by simp;try omega) (by simp;try omega) (H2.out.dk.cell 0 rfl)
  have q1:∀w',Sq w w2 w'→w'.cell? ⟨w.heap.size,1,none⟩=some (.slice vo ys.length vc):=fun w' b=>b _ _ (by simp;try omega) (by simp;try omega) (H2.out.dk.cell 1 rfl)
  have p0:∀w',Sq w w2 w'→w'.cell? ⟨w.heap.size+1,0,none⟩=some (.int .i64 c.o):=fun w' b=>b _ _ (by simp;try omega) (by simp;try omega) (H2.out.cm.cell 0 rfl)
  have p1:∀w',Sq w w2 w'→w'.cell? ⟨w.heap.size+1,1,none⟩=some (.int .i64 c.p):=fun w' b=>b _ _ (by simp;try omega) (by simp;try omega) (H2.out.cm.cell 1 rfl)
  have p2:∀w',Sq w w2 w'→w'.cell? ⟨w.heap.size+1,2,none⟩=some (.int .i64 c.a):=fun w' b=>b _ _ (by simp;try omega) (by simp;try omega) (H2.out.cm.cell 2 rfl)
  have p3:∀w',Sq w w2 w'→w'.cell? ⟨w.heap.size+1,3,none⟩=some (.int .i64 c.b):=fun w' b=>b _ _ (by simp;try omega) (by simp;try omega) (H2.out.cm.cell 3 rfl)
  have p4:∀w',Sq w w2 w'→w'.cell? ⟨w.heap.size+1,4,none⟩=some (.int .i64 c.k):=fun w' b=>b _ _ (by simp;try omega) (by simp;try omega) (H2.out.cm.cell 4 rfl)
  go_upto_region 3 with fail
  go_region_held3 (fun w'=>Sq w w2 w') ((repeat'(first|with_reducible assumption|with_reducible exact Sq.refl _ _|with_reducible refine Sq.al ?_|with_reducible refine Sq.dr ?_|with_reducible refine Sq.put3 ?_ (by with_reducible assumption)|with_reducible refine Sq.put2 ?_ (by with_reducible assumption)|with_reducible refine Sq.bel ?_ (by with_reducible assumption))))
   (first
    |(go_at_call 145;refine(AK.out _).mono ?_;rintro e w3 ⟨rfl,b3⟩)
    |(go_at_call 144;refine(ID.out _ (bel_trans H2.out.bl (by repeat'(first|with_reducible assumption|with_reducible exact Below.refl _ _|with_reducible refine bel_alloc ?_|with_reducible refine bel_drew ?_|with_reducible refine bel_trans ?_ (by with_reducible assumption))))).mono ?_;rintro e w4 ⟨a,b,rfl,o4,b4⟩;obtain⟨ao,ac,rfl⟩:=o4.1.reads.form;obtain⟨bo,bc,rfl⟩:=o4.2.1.reads.form;have H4:Hid (Vx w w4 (.slice uo xs.length uc) (.slice vo ys.length vc) 32 (cmA c) zeD ⟨0,[]⟩∧OwnD w4 (w.heap.size+4) (.slice ao ks.length ac) (.slice bo ns.length bc) ks ns):=⟨H2.out.next (by repeat'(first|with_reducible assumption|with_reducible exact Below.refl _ _|with_reducible refine bel_alloc ?_|with_reducible refine bel_drew ?_|with_reducible refine bel_trans ?_ (by with_reducible assumption))),OwnD.mono' o4 (Nat.le_trans H2.out.sz (bel_size (by repeat'(first|with_reducible assumption|with_reducible exact Below.refl _ _|with_reducible refine bel_alloc ?_|with_reducible refine bel_drew ?_|with_reducible refine bel_trans ?_ (by with_reducible assumption)))))⟩;clear o4)
    |((with_reducible show Oper.upon _ _ _ _ _ (Result.andThen (Sem.run _ (storeCells _ (dkA _ _).toList) _) _));refine upon_putS (w.heap.size+1+1) 26 (dkA (.slice ao ks.length ac) (.slice bo ns.length bc)) zeD rfl (dkA_one rfl rfl) H4.out.1.rd ?_;intro w5 s5 g5)
    |((with_reducible show Oper.upon _ _ _ _ _ (Result.andThen (Sem.run _ (storeCells _ (anA _).toList) _) _));refine upon_putS (w.heap.size+1+1+1) 36 (anA an) (anA ⟨0,[]⟩) rfl (anA_one _) (H4.out.1.ra.kept g5 (by simp)) ?_;intro w6 s6 g6))
  all_goals
   go_wp2
   refine bodyPost_ret (results_DA rfl _ _ (w.heap.size+1+1) (w.heap.size+1+1+1) _ _ rfl rfl rfl rfl (s5.kept g6 (by simp)) s6) rfl ?_
   exact⟨_,_,rfl,H4.out.1.fin H4.out.2.1 H4.out.2.2.1 (Nat.le_refl _) H4.out.2.2.2 g5 g6⟩
end Go.Proofs.YtpdggofaobmnlaaGreatDoor
