/- Whether a command is right, by the program: opOk, limitsOf, CmdOk, Changes. -/
import Derived.Test.YthldeiojlllkdaaGreatDoorM23
import Derived.RegionTactic
set_option maxRecDepth 20000
set_option maxHeartbeats 4000000
namespace Go.Proofs.YthldeiojlllkdaaGreatDoor
open Go.ChangeShapes Go.WideShapes Go.ChangeAt Go.RowKit
theorem x8 (x:Int) (w:World):
  Calls Tryz.prog 70 #[.int .i64 x] w fun e w'=>e=.returned (.bool (inI x 1 12))/\w'=w:=by
 by_cases h0:1<=x
 ·by_cases h1:x<=12
  ·have he:inI x 1 12=true:=by simp[inI,h0,h1]
   rw[he];clear he;go_enter Tryz.func70,Tryz.ntmps70;go_wp2;go_ret;exact⟨af Fg,rfl⟩
  ·have he:inI x 1 12=false:=by simp[inI,h1]
   rw[he];clear he;go_enter Tryz.func70,Tryz.ntmps70;go_wp2;go_ret;exact⟨af Fg,rfl⟩
 ·have he:inI x 1 12=false:=by simp[inI,h0]
  rw[he];clear he;go_enter Tryz.func70,Tryz.ntmps70;go_wp2;go_ret;exact⟨af Fg,rfl⟩
def lst (o:Int):Cm:=if o=7 then⟨0,0,0,0,1⟩else if o=10 then⟨0,0,0,1,1⟩else Cm.zero
def mst (o:Int):Cm:=
 if o=1 then⟨0,255,0,0,0⟩else if o=4 then⟨0,255,0,0,0⟩else if o=2 then⟨0,255,65535,0,0⟩else if o=3 then⟨0,255,65535,65535,0⟩
 else if o=6 then⟨0,0,9999,0,0⟩else if o=7 then⟨0,0,0,0,6⟩else if o=10 then⟨0,0,9999,9999,6⟩else Cm.zero
def lQ (c l m:Cm):Bool:=inI c.o 1 12&&decide (l.p<=c.p)&&decide (c.p<=m.p)&&decide (l.a<=c.a)&&decide (c.a<=m.a)&&decide (l.b<=c.b)&&decide (c.b<=m.b)&&decide (l.k<=c.k)&&decide (c.k<=m.k)
theorem yS (c:Cm):lQ c (lst c.o) (mst c.o)=c.ok:=by
 obtain⟨o,p,a,b,k⟩:=c;dsimp only;by_cases h:inI o 1 12=true
 ·rw[aE]at h
  rw[Bool.eq_iff_iff];obtain rfl|rfl|rfl|rfl|rfl|rfl|rfl|rfl|rfl|rfl|rfl|rfl:o=1∨o=2∨o=3∨o=4∨o=5∨o=6∨o=7∨o=8∨o=9∨o=10∨o=11∨o=12:=by omega
  all_goals
   simp[lQ,lst,mst,Cm.zero,Cm.ok,Cm.told,Cm.fits,inI]
   try omega
 ·have h':inI o 1 12=false:=by simpa using h
  simp[lQ,Cm.ok,Cm.told,h']
theorem jb (w:World) (c d:Cm):CmB ((w.alloc (.cells (cmA c) 66)).alloc (.cells (cmA d) 66)).drew w.heap.size 66 c/\CmB ((w.alloc (.cells (cmA c) 66)).alloc (.cells (cmA d) 66)).drew (w.heap.size+1) 66 d/\iO w ((w.alloc (.cells (cmA c) 66)).alloc (.cells (cmA d) 66)).drew:=by
 refine⟨(CmB.new w _ c).alloc _,?_,below_drewN (Fc.alloc Fg _) 1⟩;have:=CmB.new (w.alloc (.cells (cmA c) 66)) 66 d;rw[World.size_alloc]at this;exact this
theorem DO (w:World):
  Calls Tryz.prog 110 #[.int .i64 1] w fun e w'=>e=.returned (.tuple #[CV (lst 1),CV (mst 1)])/\iO w w':=by
 have h:=jb w (lst 1) (mst 1);go_enter Tryz.func110,Tryz.ntmps110;go_wp2
 go_region
 go_wp2;exact bodyPost_ret (eC rfl _ _ w.heap.size (w.heap.size+1) (lst 1) (mst 1) rfl rfl h.1 h.2.1) rfl ⟨rfl,h.2.2⟩
theorem DP (w:World):
  Calls Tryz.prog 110 #[.int .i64 2] w fun e w'=>e=.returned (.tuple #[CV (lst 2),CV (mst 2)])/\iO w w':=by
 have h:=jb w (lst 2) (mst 2);go_enter Tryz.func110,Tryz.ntmps110;go_wp2
 go_region
 go_wp2;exact bodyPost_ret (eC rfl _ _ w.heap.size (w.heap.size+1) (lst 2) (mst 2) rfl rfl h.1 h.2.1) rfl ⟨rfl,h.2.2⟩
theorem DQ (w:World):
  Calls Tryz.prog 110 #[.int .i64 3] w fun e w'=>e=.returned (.tuple #[CV (lst 3),CV (mst 3)])/\iO w w':=by
 have h:=jb w (lst 3) (mst 3);go_enter Tryz.func110,Tryz.ntmps110;go_wp2
 go_region
 go_wp2;exact bodyPost_ret (eC rfl _ _ w.heap.size (w.heap.size+1) (lst 3) (mst 3) rfl rfl h.1 h.2.1) rfl ⟨rfl,h.2.2⟩
theorem DR (w:World):
  Calls Tryz.prog 110 #[.int .i64 4] w fun e w'=>e=.returned (.tuple #[CV (lst 4),CV (mst 4)])/\iO w w':=by
 have h:=jb w (lst 4) (mst 4);go_enter Tryz.func110,Tryz.ntmps110;go_wp2
 go_region
 go_wp2;exact bodyPost_ret (eC rfl _ _ w.heap.size (w.heap.size+1) (lst 4) (mst 4) rfl rfl h.1 h.2.1) rfl ⟨rfl,h.2.2⟩
theorem DS (w:World):
  Calls Tryz.prog 110 #[.int .i64 6] w fun e w'=>e=.returned (.tuple #[CV (lst 6),CV (mst 6)])/\iO w w':=by
 have h:=jb w (lst 6) (mst 6);go_enter Tryz.func110,Tryz.ntmps110;go_wp2
 go_region
 go_wp2;exact bodyPost_ret (eC rfl _ _ w.heap.size (w.heap.size+1) (lst 6) (mst 6) rfl rfl h.1 h.2.1) rfl ⟨rfl,h.2.2⟩
theorem DT (w:World):
  Calls Tryz.prog 110 #[.int .i64 7] w fun e w'=>e=.returned (.tuple #[CV (lst 7),CV (mst 7)])/\iO w w':=by
 have h:=jb w (lst 7) (mst 7);go_enter Tryz.func110,Tryz.ntmps110;go_wp2
 go_region
 go_wp2;exact bodyPost_ret (eC rfl _ _ w.heap.size (w.heap.size+1) (lst 7) (mst 7) rfl rfl h.1 h.2.1) rfl ⟨rfl,h.2.2⟩
theorem Co (w:World):
  Calls Tryz.prog 110 #[.int .i64 10] w fun e w'=>e=.returned (.tuple #[CV (lst 10),CV (mst 10)])/\iO w w':=by
 have h:=jb w (lst 10) (mst 10);go_enter Tryz.func110,Tryz.ntmps110;go_wp2
 go_region
 go_wp2;exact bodyPost_ret (eC rfl _ _ w.heap.size (w.heap.size+1) (lst 10) (mst 10) rfl rfl h.1 h.2.1) rfl ⟨rfl,h.2.2⟩
theorem AI (o:Int) (w:World):
  Calls Tryz.prog 110 #[.int .i64 o] w fun e w'=>e=.returned (.tuple #[CV (lst o),CV (mst o)])/\iO w w':=by
 by_cases h1:o=1
 ·subst h1;exact DO w
 by_cases h2:o=2
 ·subst h2;exact DP w
 by_cases h3:o=3
 ·subst h3;exact DQ w
 by_cases h4:o=4
 ·subst h4;exact DR w
 by_cases h6:o=6
 ·subst h6;exact DS w
 by_cases h7:o=7
 ·subst h7;exact DT w
 by_cases h10:o=10
 ·subst h10;exact Co w
 have h:=jb w (lst o) (mst o);have hl:lst o=⟨0,0,0,0,0⟩:=by simp[lst,h7,h10,Cm.zero]
 have hm:mst o=⟨0,0,0,0,0⟩:=by simp[mst,h1,h2,h3,h4,h6,h7,h10,Cm.zero]
 rw[hl,hm]at h⊢;clear hl hm;go_enter Tryz.func110,Tryz.ntmps110;go_wp2
 go_region
 go_wp2;exact bodyPost_ret (eC rfl _ _ w.heap.size (w.heap.size+1) ⟨0,0,0,0,0⟩ ⟨0,0,0,0,0⟩ rfl rfl h.1 h.2.1) rfl ⟨rfl,h.2.2⟩
theorem dv (c:Cm) (w:World):
  Calls Tryz.prog 71 #[CV c] w fun e w'=>e=.returned (.bool c.ok)/\iO w w':=by
 have c1:=fun wx=>AI c.o wx
 have c2:=fun wx=>x8 c.o wx
 have hok:=yS c;obtain⟨L,hL⟩:=Fe (lst c.o)
 obtain⟨M,hM⟩:=Fe (mst c.o)
 simp only[<-hL,<-hM]at c1 hok;rw[<-hok];have HE:Hid (lQ c L M=(inI c.o 1 12&&decide (L.p<=c.p)&&decide (c.p<=M.p)&&decide (L.a<=c.a)&&decide (c.a<=M.a)&&decide (L.b<=c.b)&&decide (c.b<=M.b)&&decide (L.k<=c.k)&&decide (c.k<=M.k))):=rfl;obtain⟨x,hx⟩:=Fe (lQ c L M)
 rw[<-hx]at HE⊢;obtain⟨b,hb⟩:=Fe (inI c.o 1 12)
 rw[<-hb]at HE;simp only[<-hb]at c2;clear hx hb hL hM hok;have b0:iO w (w.alloc (.cells (cmA c) 66)):=Fc;have P0:=CmB.new w 66 c;unfold CV cmA at*;go_enter Tryz.func71,Tryz.ntmps71;go_wp2_with fail
 refine(c1 _).mono ?_;rintro e w1 ⟨rfl,b1⟩;have P1:CmB w1 w.heap.size 66 c:=CmB.below (c:=c) P0 b1;have B1:=b0.trans (b1.mono b0.size);have hsz:=P1.lt;have k0:w1.cell? ⟨w.heap.size,0,none⟩=some (.int .i64 c.o):=P1.cell 0 rfl;clear b1 b0 P0 c1;go_wp2_with fail
 obtain⟨w2,hw2⟩:=Fe ((w1.alloc (.cells #[.int .i64 L.o,.int .i64 L.p,.int .i64 L.a,.int .i64 L.b,.int .i64 L.k] 66)).alloc (.cells #[.int .i64 M.o,.int .i64 M.p,.int .i64 M.a,.int .i64 M.b,.int .i64 M.k] 66))
 have P2:CmB w2 w.heap.size 66 c:=by rw[hw2];exact(P1.alloc _).alloc _
 have L2:CmB w2 w1.heap.size 66 L:=by rw[hw2];exact(CmB.new w1 _ L).alloc _
 have M2:CmB w2 (w1.heap.size+1) 66 M:=by rw[hw2];have:=CmB.new (w1.alloc (.cells (cmA L) 66)) 66 M;rwa[World.size_alloc]at this
 have B2:iO w w2:=by rw[hw2];exact(B1.alloc B1.size _).alloc (by simp;omega) _
 rw[<-hw2];clear hw2 P1 B1 k0 hsz;have p1:w2.cell? ⟨w.heap.size,1,none⟩=some (.int .i64 c.p):=P2.cell 1 rfl;have p2:w2.cell? ⟨w.heap.size,2,none⟩=some (.int .i64 c.a):=P2.cell 2 rfl;have p3:w2.cell? ⟨w.heap.size,3,none⟩=some (.int .i64 c.b):=P2.cell 3 rfl;have p4:w2.cell? ⟨w.heap.size,4,none⟩=some (.int .i64 c.k):=P2.cell 4 rfl;have l1:w2.cell? ⟨w1.heap.size,1,none⟩=some (.int .i64 L.p):=L2.cell 1 rfl;have l2:w2.cell? ⟨w1.heap.size,2,none⟩=some (.int .i64 L.a):=L2.cell 2 rfl;have l3:w2.cell? ⟨w1.heap.size,3,none⟩=some (.int .i64 L.b):=L2.cell 3 rfl;have l4:w2.cell? ⟨w1.heap.size,4,none⟩=some (.int .i64 L.k):=L2.cell 4 rfl;have m1:w2.cell? ⟨(w1.heap.size+1),1,none⟩=some (.int .i64 M.p):=M2.cell 1 rfl;have m2:w2.cell? ⟨(w1.heap.size+1),2,none⟩=some (.int .i64 M.a):=M2.cell 2 rfl;have m3:w2.cell? ⟨(w1.heap.size+1),3,none⟩=some (.int .i64 M.b):=M2.cell 3 rfl;have m4:w2.cell? ⟨(w1.heap.size+1),4,none⟩=some (.int .i64 M.k):=M2.cell 4 rfl;have p0:w2.cell? ⟨w.heap.size,0,none⟩=some (.int .i64 c.o):=P2.cell 0 rfl;refine(c2 _).mono ?_;rintro e w' ⟨rfl,hw'⟩;subst w';clear c2 P2 L2 M2;cases b with
 |false=>
  go_wp2;go_ret;exact⟨af (by rw[HE.out];simp),B2⟩
 |true=>
  by_cases h0:L.p<=c.p
  case neg=>
   have HN:Hid (x=false):=by rw[Hid,HE.out];simp[h0]
   go_wp2;go_ret;exact⟨af (by rw[HN.out]),B2⟩
  by_cases h1:c.p<=M.p
  case neg=>
   have HN:Hid (x=false):=by rw[Hid,HE.out];simp[h1]
   go_wp2;go_ret;exact⟨af (by rw[HN.out]),B2⟩
  by_cases h2:L.a<=c.a
  case neg=>
   have HN:Hid (x=false):=by rw[Hid,HE.out];simp[h2]
   go_wp2;go_ret;exact⟨af (by rw[HN.out]),B2⟩
  by_cases h3:c.a<=M.a
  case neg=>
   have HN:Hid (x=false):=by rw[Hid,HE.out];simp[h3]
   go_wp2;go_ret;exact⟨af (by rw[HN.out]),B2⟩
  by_cases h4:L.b<=c.b
  case neg=>
   have HN:Hid (x=false):=by rw[Hid,HE.out];simp[h4]
   go_wp2;go_ret;exact⟨af (by rw[HN.out]),B2⟩
  by_cases h5:c.b<=M.b
  case neg=>
   have HN:Hid (x=false):=by rw[Hid,HE.out];simp[h5]
   go_wp2;go_ret;exact⟨af (by rw[HN.out]),B2⟩
  by_cases h6:L.k<=c.k
  case neg=>
   have HN:Hid (x=false):=by rw[Hid,HE.out];simp[h6]
   go_wp2;go_ret;exact⟨af (by rw[HN.out]),B2⟩
  by_cases h7:c.k<=M.k
  case neg=>
   have HN:Hid (x=false):=by rw[Hid,HE.out];simp[h7]
   go_wp2;go_ret;exact⟨af (by rw[HN.out];simp;omega),B2⟩
  have HY:Hid (x=true):=by rw[Hid,HE.out];simp[h0,h1,h2,h3,h4,h5,h6,h7]
  go_wp2;go_ret;exact⟨af (by rw[HY.out]),B2⟩
theorem tw (c:Cm) (w:World):
  Calls Tryz.prog 78 #[CV c] w fun e w'=>e=.returned (.bool c.chg)/\iO w w':=by
 have c1:=fun wx=>dv c wx
 have b0:iO w (w.alloc (.cells (cmA c) 66)):=Fc;have P0:=CmB.new w 66 c;have HE:Hid (c.chg=(c.ok&&inI c.o 2 4)):=rfl;obtain⟨x,hx⟩:=Fe c.chg
 rw[<-hx]at HE⊢;obtain⟨b,hb⟩:=Fe c.ok
 rw[<-hb]at HE;simp only[<-hb]at c1;clear hx hb;unfold CV cmA at*;go_enter Tryz.func78,Tryz.ntmps78;go_wp2_with fail
 refine(c1 _).mono ?_;rintro e w1 ⟨rfl,b1⟩;have P1:CmB w1 w.heap.size 66 c:=CmB.below (c:=c) P0 b1;have B1:=b0.trans (b1.mono b0.size);have k0:w1.cell? ⟨w.heap.size,0,none⟩=some (.int .i64 c.o):=P1.cell 0 rfl;clear b1 b0 P0 c1;cases b with
 |false=>
  go_wp2;go_ret;exact⟨af (by rw[HE.out];rfl),B1⟩
 |true=>
  by_cases h2:c.o=2
  ·go_wp2
   go_ret;exact⟨af (by rw[HE.out,h2];rfl),B1⟩
  ·by_cases h3:c.o=3
   ·go_wp2
    go_ret;exact⟨af (by rw[HE.out,h3];rfl),B1⟩
   ·by_cases h4:c.o=4
    ·go_wp2
     go_ret;exact⟨af (by rw[HE.out,h4];rfl),B1⟩
    ·have HN:Hid (inI c.o 2 4=false):=by simp[Hid,inI];omega
     go_wp2;go_ret;exact⟨af (by rw[HE.out,HN.out];simp[h2,h3,h4]),B1⟩
theorem FN (v:Value) (w:World):(Instr.typeAssert (.iface 285 v) 20 285 true).run Tryz.prog w=.ok (.tuple #[v,.bool true]) w:=by kernel_rfl
theorem FZ (v:Value) (w:World):(Instr.typeAssert (.iface 288 v) 20 285 true).run Tryz.prog w=.ok (.tuple #[.agg #[.int .i64 0],.bool false]) w:=by kernel_rfl
theorem F0 (v:Value) (w:World):(Instr.typeAssert (.iface 288 v) 20 288 true).run Tryz.prog w=.ok (.tuple #[v,.bool true]) w:=by kernel_rfl
theorem FO (v:Value) (w:World):(Instr.typeAssert (.iface 291 v) 20 285 true).run Tryz.prog w=.ok (.tuple #[.agg #[.int .i64 0],.bool false]) w:=by kernel_rfl
theorem FQ (v:Value) (w:World):(Instr.typeAssert (.iface 291 v) 20 288 true).run Tryz.prog w=.ok (.tuple #[.agg #[.int .i64 0,.int .i64 0],.bool false]) w:=by kernel_rfl
theorem FP (v:Value) (w:World):(Instr.typeAssert (.iface 291 v) 20 291 true).run Tryz.prog w=.ok (.tuple #[v,.bool true]) w:=by kernel_rfl
theorem F7 (v:Value) (w:World):(Instr.typeAssert (.iface 294 v) 20 285 true).run Tryz.prog w=.ok (.tuple #[.agg #[.int .i64 0],.bool false]) w:=by kernel_rfl
theorem F9 (v:Value) (w:World):(Instr.typeAssert (.iface 294 v) 20 288 true).run Tryz.prog w=.ok (.tuple #[.agg #[.int .i64 0,.int .i64 0],.bool false]) w:=by kernel_rfl
theorem F8 (v:Value) (w:World):(Instr.typeAssert (.iface 294 v) 20 291 true).run Tryz.prog w=.ok (.tuple #[.agg #[.int .i64 0,.int .i64 0,.int .i64 0],.bool false]) w:=by kernel_rfl
theorem Ga (v:Value) (w:World):(Instr.typeAssert (.iface 294 v) 20 294 true).run Tryz.prog w=.ok (.tuple #[v,.bool true]) w:=by kernel_rfl
theorem FF (w:World):(Instr.typeAssert .nilIface 20 285 true).run Tryz.prog w=.ok (.tuple #[.agg #[.int .i64 0],.bool false]) w:=by kernel_rfl
theorem FH (w:World):(Instr.typeAssert .nilIface 20 288 true).run Tryz.prog w=.ok (.tuple #[.agg #[.int .i64 0,.int .i64 0],.bool false]) w:=by kernel_rfl
theorem FG (w:World):(Instr.typeAssert .nilIface 20 291 true).run Tryz.prog w=.ok (.tuple #[.agg #[.int .i64 0,.int .i64 0,.int .i64 0],.bool false]) w:=by kernel_rfl
theorem FI (w:World):(Instr.typeAssert .nilIface 20 294 true).run Tryz.prog w=.ok (.tuple #[.agg #[],.bool false]) w:=by kernel_rfl
def iU (c:Cm):Value:=
 if c.ok then
  if c.o=1 then .iface 285 (.agg #[.int .i64 c.p])
  else if c.o=2 then .iface 288 (.agg #[.int .i64 c.p,.int .i64 c.a])
  else if c.o=3 then .iface 291 (.agg #[.int .i64 c.p,.int .i64 c.a,.int .i64 c.b])
  else if c.o=4 then .iface 288 (.agg #[.int .i64 c.p,.int .i64 0])
  else if c.o=5 then .iface 294 (.agg #[])
  else .nilIface
 else .nilIface
theorem wD (c:Cm) (w:World):
  Calls Tryz.prog 233 #[CV c] w fun e w'=>e=.returned (iU c)/\iO w w':=by
 have c1:=fun wx=>dv c wx
 have b0:iO w (w.alloc (.cells (cmA c) 66)):=Fc;have P0:=CmB.new w 66 c;obtain⟨b,hb⟩:=Fe c.ok
 have HE:Hid (c.ok=b):=hb.symm;simp only[<-hb]at c1;clear hb;obtain⟨V,hV⟩:=Fe (iU c)
 rw[<-hV];have HV:Hid (V=iU c):=hV;clear hV;unfold CV cmA at*;go_enter Tryz.func233,Tryz.ntmps233;go_wp2_with fail
 refine(c1 _).mono ?_;rintro e w1 ⟨rfl,b1⟩;have P1:CmB w1 w.heap.size 66 c:=CmB.below (c:=c) P0 b1;have B1:=b0.trans (b1.mono b0.size);have k0:w1.cell? ⟨w.heap.size,0,none⟩=some (.int .i64 c.o):=P1.cell 0 rfl;have k1:w1.cell? ⟨w.heap.size,1,none⟩=some (.int .i64 c.p):=P1.cell 1 rfl;have k2:w1.cell? ⟨w.heap.size,2,none⟩=some (.int .i64 c.a):=P1.cell 2 rfl;have k3:w1.cell? ⟨w.heap.size,3,none⟩=some (.int .i64 c.b):=P1.cell 3 rfl;clear b1 b0 P0 c1;cases b with
 |false=>
  go_wp2;go_ret;exact⟨by rw[HV.out,iU,HE.out];rfl,B1⟩
 |true=>
  obtain⟨o,p,a,b,k⟩:=c;dsimp only at*;by_cases h1:o=1
  ·subst h1
   go_wp2;go_ret;exact⟨by rw[HV.out,iU,HE.out];rfl,B1⟩
  ·by_cases h2:o=2
   ·subst h2
    go_wp2;go_ret;exact⟨by rw[HV.out,iU,HE.out];rfl,B1⟩
   ·by_cases h3:o=3
    ·subst h3
     go_wp2;go_ret;exact⟨by rw[HV.out,iU,HE.out];rfl,B1⟩
    ·by_cases h4:o=4
     ·subst h4
      go_wp2;go_ret;exact⟨by rw[HV.out,iU,HE.out];rfl,B1⟩
     ·by_cases h5:o=5
      ·subst h5
       go_wp2;go_ret;exact⟨by rw[HV.out,iU,HE.out];rfl,B1⟩
      ·go_wp2
       go_ret;exact⟨by rw[HV.out,iU,HE.out];simp[h1,h2,h3,h4,h5],B1⟩
structure By (w wx:World) (u v:Value):Prop where
 dk:StB wx w.heap.size 36 #[u,v]
 rd:StB wx (w.heap.size+1) 36 zeD
 ra:StB wx (w.heap.size+1+1) 44 (anA ⟨0,[]⟩)
 bl:iO w wx
 sz:w.heap.size+3<=wx.heap.size
theorem By.start (w:World) (u v:Value):By w (((w.alloc (.cells #[u,v] 36)).alloc (.cells zeD 36)).alloc (.cells (anA ⟨0,[]⟩) 44)) u v:=by
 have a1:=StB.new w 36 #[u,v];have a3:=StB.new (w.alloc (.cells #[u,v] 36)) 36 zeD;have a4:=StB.new ((w.alloc (.cells #[u,v] 36)).alloc (.cells zeD 36)) 44 (anA ⟨0,[]⟩);simp only[World.size_alloc]at a3 a4;refine⟨(a1.alloc _).alloc _,a3.alloc _,a4,?_,by simp⟩;exact(Fc.alloc Fg _).alloc (by simp;omega) _
theorem By.next {w wx wy:World} {u v:Value} (h:By w wx u v) (b:iO wx wy):By w wy u v:=
 ⟨h.dk.below b,h.rd.below b,h.ra.below b,h.bl.trans (b.mono h.bl.size),Nat.le_trans h.sz b.size⟩
theorem By.grown {w wx wy:World} {u v:Value} {g:Nat} (h:By w wx u v) (b:wx.grownBy wy (some g)) (hg:w.heap.size+3<=g):By w wy u v:=
 ⟨h.dk.kept b (by simp;omega),h.rd.kept b (by simp;omega),h.ra.kept b (by simp;omega),h.bl.grown b h.bl.size (fun k e=>by cases e;omega),Nat.le_trans h.sz b.size⟩
theorem By.fin {w wx wy wz:World} {u v:Value} {a b:Value} {xs ys:List Int} {base:Nat} (h:By w wx u v) (oa:Own wx base a xs) (ob:Own wx base b ys) (hb:w.heap.size+3<=base) (ap:apart a b)
  (g5:wx.grownBy wy (some (w.heap.size+1))) (g6:wy.grownBy wz (some (w.heap.size+1+1))):aV wz w.heap.size a b xs ys/\iO w wz:=by
 refine⟨⟨(((oa.keptLt g5 Ff).keptLt g6 Ff)).mono Ff,(((ob.keptLt g5 Ff).keptLt g6 Ff)).mono Ff,ap⟩,?_⟩;have b5:=h.bl.grown g5 h.bl.size (fun k e=>by cases e;omega);exact b5.grown g6 b5.size (fun k e=>by cases e;omega)
def zx (f:FuncId) (w:World) (args:Array Value) (ks ns:List Int) (an:An):Prop:=
 ∀w',iO w w'->Calls Tryz.prog f args w' fun e w''=>∃a b,e=.returned (.tuple #[.agg #[a,b],AV an])/\aV w'' w'.heap.size a b ks ns/\iO w' w''
def yf (f:FuncId) (w:World) (args:Array Value) (ks ns:List Int):Prop:=
 ∀w',iO w w'->Calls Tryz.prog f args w' fun e w''=>∃a b,e=.returned (.agg #[a,b])/\aV w'' w'.heap.size a b ks ns/\iO w' w''
theorem GV:IsS 285 1:=⟨⟨_,Tryz.underlying285⟩,by kernel_rfl⟩
theorem Bb (u v:Value) (ks ns:List Int) (an:An) (p:Int) (w:World) (hc:zx 252 w #[.agg #[u,v],.agg #[.int .i64 p]] ks ns an):
  Calls Tryz.prog 232 #[.agg #[u,v],.iface 285 (.agg #[.int .i64 p])] w fun e w'=>∃a b,e=.returned (.tuple #[.agg #[a,b],AV an])/\aV w' w.heap.size a b ks ns/\iO w w':=by
 obtain⟨w1,hw1⟩:=Fe (((w.alloc (.cells #[u,v] 36)).alloc (.cells #[.slice none 0 0,.slice none 0 0] 36)).alloc (.cells #[.int .i64 0,.string ⟨#[]⟩] 44))
 have HV:Hid (By w w1 u v):=by rw[hw1];exact By.start w u v
 have cast0:=FN;obtain⟨w2,hw2⟩:=Fe (w1.alloc (.cells #[.int .i64 p] 285))
 have b2:iO w1 w2:=by rw[hw2];exact be w1 _
 have H2:Hid (By w w2 u v/\StB w2 w1.heap.size 285 #[.int .i64 p]):=⟨HV.out.next b2,by rw[hw2];exact StB.new _ _ _⟩
 have HC:Hid (zx 252 w #[.agg #[u,v],.agg #[.int .i64 p]] ks ns an):=hc;clear hc b2;go_enter Tryz.func232,Tryz.ntmps232;go_upto_region 1 with fail
 rw[<-hw1];clear hw1;go_upto_region 4 with fail
 rw[<-hw2];clear hw2;have H3:Hid (By w w2 u v):=H2.out.1;go_wp2_with (first
  |(refine ah GI rfl _ rfl w.heap.size rfl _ rfl H3.out.dk ?_)
  |(refine ah GV rfl _ rfl w1.heap.size rfl _ rfl H2.out.2 ?_))
 refine(HC.out _ H3.out.bl).mono ?_;rintro e w4 ⟨a,b,rfl,o4,b4⟩;have H4:Hid (By w w4 u v):=H3.out.next b4;obtain⟨ao,ac,rfl⟩:=o4.1.reads.form;obtain⟨bo,bc,rfl⟩:=o4.2.1.reads.form;have O4:Hid (aV w4 (w.heap.size+3) (.slice ao ks.length ac) (.slice bo ns.length bc) ks ns):=o4.mono' H3.out.sz;clear o4 b4 HC H3 H2 HV;unfold AV;go_wp2_with (first
  |(refine ae GI rfl _ _ rfl (w.heap.size+1) #[.slice ao ks.length ac,.slice bo ns.length bc] zeD rfl rfl rfl rfl (cH rfl rfl) H4.out.rd ?_;intro w5 s5 g5)
  |(refine ae GC rfl _ _ rfl (w.heap.size+1+1) (anA an) (anA ⟨0,[]⟩) rfl rfl rfl rfl (aC _) (H4.out.ra.kept g5 Fg) ?_;intro w6 s6 g6))
 refine bodyPost_ret (bg rfl _ _ (w.heap.size+1) (w.heap.size+1+1) _ _ rfl rfl rfl rfl (s5.kept g6 Fg) s6) rfl ?_;exact⟨_,_,rfl,H4.out.fin O4.out.1 O4.out.2.1 (Nat.le_refl _) O4.out.2.2 g5 g6⟩
theorem GX:IsS 288 2:=⟨⟨_,Tryz.underlying288⟩,by kernel_rfl⟩
theorem Bc (u v:Value) (ks ns:List Int) (an:An) (p q:Int) (w:World) (hc:zx 253 w #[.agg #[u,v],.agg #[.int .i64 p,.int .i64 q]] ks ns an):
  Calls Tryz.prog 232 #[.agg #[u,v],.iface 288 (.agg #[.int .i64 p,.int .i64 q])] w fun e w'=>∃a b,e=.returned (.tuple #[.agg #[a,b],AV an])/\aV w' w.heap.size a b ks ns/\iO w w':=by
 obtain⟨w1,hw1⟩:=Fe (((w.alloc (.cells #[u,v] 36)).alloc (.cells #[.slice none 0 0,.slice none 0 0] 36)).alloc (.cells #[.int .i64 0,.string ⟨#[]⟩] 44))
 have HV:Hid (By w w1 u v):=by rw[hw1];exact By.start w u v
 have cast0:=FZ;have cast1:=F0;obtain⟨w2,hw2⟩:=Fe (w1.alloc (.cells #[.int .i64 p,.int .i64 q] 288))
 have b2:iO w1 w2:=by rw[hw2];exact be w1 _
 have H2:Hid (By w w2 u v/\StB w2 w1.heap.size 288 #[.int .i64 p,.int .i64 q]):=⟨HV.out.next b2,by rw[hw2];exact StB.new _ _ _⟩
 have HC:Hid (zx 253 w #[.agg #[u,v],.agg #[.int .i64 p,.int .i64 q]] ks ns an):=hc;clear hc b2;go_enter Tryz.func232,Tryz.ntmps232;go_upto_region 1 with fail
 rw[<-hw1];clear hw1;go_upto_region 7 with fail
 rw[<-hw2];clear hw2;have H3:Hid (By w w2 u v):=H2.out.1;go_wp2_with (first
  |(refine ah GI rfl _ rfl w.heap.size rfl _ rfl H3.out.dk ?_)
  |(refine ah GX rfl _ rfl w1.heap.size rfl _ rfl H2.out.2 ?_))
 refine(HC.out _ H3.out.bl).mono ?_;rintro e w4 ⟨a,b,rfl,o4,b4⟩;have H4:Hid (By w w4 u v):=H3.out.next b4;obtain⟨ao,ac,rfl⟩:=o4.1.reads.form;obtain⟨bo,bc,rfl⟩:=o4.2.1.reads.form;have O4:Hid (aV w4 (w.heap.size+3) (.slice ao ks.length ac) (.slice bo ns.length bc) ks ns):=o4.mono' H3.out.sz;clear o4 b4 HC H3 H2 HV;unfold AV;go_wp2_with (first
  |(refine ae GI rfl _ _ rfl (w.heap.size+1) #[.slice ao ks.length ac,.slice bo ns.length bc] zeD rfl rfl rfl rfl (cH rfl rfl) H4.out.rd ?_;intro w5 s5 g5)
  |(refine ae GC rfl _ _ rfl (w.heap.size+1+1) (anA an) (anA ⟨0,[]⟩) rfl rfl rfl rfl (aC _) (H4.out.ra.kept g5 Fg) ?_;intro w6 s6 g6))
 refine bodyPost_ret (bg rfl _ _ (w.heap.size+1) (w.heap.size+1+1) _ _ rfl rfl rfl rfl (s5.kept g6 Fg) s6) rfl ?_;exact⟨_,_,rfl,H4.out.fin O4.out.1 O4.out.2.1 (Nat.le_refl _) O4.out.2.2 g5 g6⟩
theorem GW:IsS 291 3:=⟨⟨_,Tryz.underlying291⟩,by kernel_rfl⟩
theorem wE (u v:Value) (ks ns:List Int) (an:An) (p q r:Int) (w:World) (hc:zx 254 w #[.agg #[u,v],.agg #[.int .i64 p,.int .i64 q,.int .i64 r]] ks ns an):
  Calls Tryz.prog 232 #[.agg #[u,v],.iface 291 (.agg #[.int .i64 p,.int .i64 q,.int .i64 r])] w fun e w'=>∃a b,e=.returned (.tuple #[.agg #[a,b],AV an])/\aV w' w.heap.size a b ks ns/\iO w w':=by
 obtain⟨w1,hw1⟩:=Fe (((w.alloc (.cells #[u,v] 36)).alloc (.cells #[.slice none 0 0,.slice none 0 0] 36)).alloc (.cells #[.int .i64 0,.string ⟨#[]⟩] 44))
 have HV:Hid (By w w1 u v):=by rw[hw1];exact By.start w u v
 have cast0:=FO;have cast1:=FQ;have cast2:=FP;obtain⟨w2,hw2⟩:=Fe (w1.alloc (.cells #[.int .i64 p,.int .i64 q,.int .i64 r] 291))
 have b2:iO w1 w2:=by rw[hw2];exact be w1 _
 have H2:Hid (By w w2 u v/\StB w2 w1.heap.size 291 #[.int .i64 p,.int .i64 q,.int .i64 r]):=⟨HV.out.next b2,by rw[hw2];exact StB.new _ _ _⟩
 have HC:Hid (zx 254 w #[.agg #[u,v],.agg #[.int .i64 p,.int .i64 q,.int .i64 r]] ks ns an):=hc;clear hc b2;go_enter Tryz.func232,Tryz.ntmps232;go_upto_region 1 with fail
 rw[<-hw1];clear hw1;go_upto_region 10 with fail
 rw[<-hw2];clear hw2;have H3:Hid (By w w2 u v):=H2.out.1;go_wp2_with (first
  |(refine ah GI rfl _ rfl w.heap.size rfl _ rfl H3.out.dk ?_)
  |(refine ah GW rfl _ rfl w1.heap.size rfl _ rfl H2.out.2 ?_))
 refine(HC.out _ H3.out.bl).mono ?_;rintro e w4 ⟨a,b,rfl,o4,b4⟩;have H4:Hid (By w w4 u v):=H3.out.next b4;obtain⟨ao,ac,rfl⟩:=o4.1.reads.form;obtain⟨bo,bc,rfl⟩:=o4.2.1.reads.form;have O4:Hid (aV w4 (w.heap.size+3) (.slice ao ks.length ac) (.slice bo ns.length bc) ks ns):=o4.mono' H3.out.sz;clear o4 b4 HC H3 H2 HV;unfold AV;go_wp2_with (first
  |(refine ae GI rfl _ _ rfl (w.heap.size+1) #[.slice ao ks.length ac,.slice bo ns.length bc] zeD rfl rfl rfl rfl (cH rfl rfl) H4.out.rd ?_;intro w5 s5 g5)
  |(refine ae GC rfl _ _ rfl (w.heap.size+1+1) (anA an) (anA ⟨0,[]⟩) rfl rfl rfl rfl (aC _) (H4.out.ra.kept g5 Fg) ?_;intro w6 s6 g6))
 refine bodyPost_ret (bg rfl _ _ (w.heap.size+1) (w.heap.size+1+1) _ _ rfl rfl rfl rfl (s5.kept g6 Fg) s6) rfl ?_;exact⟨_,_,rfl,H4.out.fin O4.out.1 O4.out.2.1 (Nat.le_refl _) O4.out.2.2 g5 g6⟩
theorem CJ (u v:Value) (ks ns:List Int) (w:World) (hc:yf 111 w #[.agg #[u,v]] ks ns):
  Calls Tryz.prog 232 #[.agg #[u,v],.nilIface] w fun e w'=>∃a b,e=.returned (.tuple #[.agg #[a,b],AV ⟨7,[]⟩])/\aV w' w.heap.size a b ks ns/\iO w w':=by
 obtain⟨w1,hw1⟩:=Fe (((w.alloc (.cells #[u,v] 36)).alloc (.cells #[.slice none 0 0,.slice none 0 0] 36)).alloc (.cells #[.int .i64 0,.string ⟨#[]⟩] 44))
 have HV:Hid (By w w1 u v):=by rw[hw1];exact By.start w u v
 have cast0:=FF;have cast1:=FH;have cast2:=FG;have cast3:=FI;have HC:Hid (yf 111 w #[.agg #[u,v]] ks ns):=hc;clear hc;go_enter Tryz.func232,Tryz.ntmps232;go_upto_region 1 with fail
 rw[<-hw1];clear hw1;have H3:=HV;go_wp2_with (refine ah GI rfl _ rfl w.heap.size rfl _ rfl HV.out.dk ?_)
 refine(HC.out _ H3.out.bl).mono ?_;rintro e w4 ⟨a,b,rfl,o4,b4⟩;have H4:Hid (By w w4 u v):=H3.out.next b4;obtain⟨ao,ac,rfl⟩:=o4.1.reads.form;obtain⟨bo,bc,rfl⟩:=o4.2.1.reads.form;have O4:Hid (aV w4 (w.heap.size+3) (.slice ao ks.length ac) (.slice bo ns.length bc) ks ns):=o4.mono' H3.out.sz;clear o4 b4 HC H3;go_wp2_with (first
  |(refine ae GI rfl _ _ rfl (w.heap.size+1) #[.slice ao ks.length ac,.slice bo ns.length bc] zeD rfl rfl rfl rfl (cH rfl rfl) H4.out.rd ?_;intro w5 s5 g5)
  |(refine ae GC rfl _ _ rfl (w.heap.size+1+1) (anA ⟨7,[]⟩) (anA ⟨0,[]⟩) rfl rfl rfl rfl (aC _) (H4.out.ra.kept g5 Fg) ?_;intro w6 s6 g6))
 refine bodyPost_ret (bg rfl _ _ (w.heap.size+1) (w.heap.size+1+1) _ _ rfl rfl rfl rfl (s5.kept g6 Fg) s6) rfl ?_;exact⟨_,_,rfl,H4.out.fin O4.out.1 O4.out.2.1 (Nat.le_refl _) O4.out.2.2 g5 g6⟩
theorem Bd (u v:Value) (ks ns:List Int) (w:World) (hc:yf 255 w #[.agg #[u,v]] ks ns):
  Calls Tryz.prog 232 #[.agg #[u,v],.iface 294 (.agg #[])] w fun e w'=>∃a b,e=.returned (.tuple #[.agg #[a,b],AV ⟨0,[]⟩])/\aV w' w.heap.size a b ks ns/\iO w w':=by
 obtain⟨w1,hw1⟩:=Fe (((w.alloc (.cells #[u,v] 36)).alloc (.cells #[.slice none 0 0,.slice none 0 0] 36)).alloc (.cells #[.int .i64 0,.string ⟨#[]⟩] 44))
 have HV:Hid (By w w1 u v):=by rw[hw1];exact By.start w u v
 have cast0:=F7;have cast1:=F9;have cast2:=F8;have cast3:=Ga;have HC:Hid (yf 255 w #[.agg #[u,v]] ks ns):=hc;clear hc;go_enter Tryz.func232,Tryz.ntmps232;go_upto_region 1 with fail
 rw[<-hw1];clear hw1;obtain⟨w3,hw3⟩:=Fe (w1.alloc (.cells #[] 294))
 have b3:iO w1 w3:=by rw[hw3];exact be w1 _
 have H3:Hid (By w w3 u v):=HV.out.next b3;clear b3;go_upto_region 13 with fail
 rw[<-hw3];clear hw3;go_wp2_with (refine ah GI rfl _ rfl w.heap.size rfl _ rfl H3.out.dk ?_)
 refine(HC.out _ H3.out.bl).mono ?_;rintro e w4 ⟨a,b,rfl,o4,b4⟩;have H4:Hid (By w w4 u v):=H3.out.next b4;obtain⟨ao,ac,rfl⟩:=o4.1.reads.form;obtain⟨bo,bc,rfl⟩:=o4.2.1.reads.form;have O4:Hid (aV w4 (w.heap.size+3) (.slice ao ks.length ac) (.slice bo ns.length bc) ks ns):=o4.mono' H3.out.sz;clear o4 b4 HC H3;go_wp2_with (first
  |(refine ae GI rfl _ _ rfl (w.heap.size+1) #[.slice ao ks.length ac,.slice bo ns.length bc] zeD rfl rfl rfl rfl (cH rfl rfl) H4.out.rd ?_;intro w5 s5 g5)
  |(refine ae GC rfl _ _ rfl (w.heap.size+1+1) (anA ⟨0,[]⟩) (anA ⟨0,[]⟩) rfl rfl rfl rfl (aC _) (H4.out.ra.kept g5 Fg) ?_;intro w6 s6 g6))
 refine bodyPost_ret (bg rfl _ _ (w.heap.size+1) (w.heap.size+1+1) _ _ rfl rfl rfl rfl (s5.kept g6 Fg) s6) rfl ?_;exact⟨_,_,rfl,H4.out.fin O4.out.1 O4.out.2.1 (Nat.le_refl _) O4.out.2.2 g5 g6⟩
theorem gJ (c:Cm) (w:World):
  Calls Tryz.prog 156 #[CV c] w fun e w'=>e=.returned (.bool c.rd)/\iO w w':=by
 have c1:=fun wx=>dv c wx
 have b0:iO w (w.alloc (.cells (cmA c) 66)):=Fc;have P0:=CmB.new w 66 c;have HE:Hid (c.rd=(c.ok&&decide (c.o=1))):=rfl;obtain⟨x,hx⟩:=Fe c.rd
 rw[<-hx]at HE⊢;obtain⟨b,hb⟩:=Fe c.ok
 rw[<-hb]at HE;simp only[<-hb]at c1;clear hx hb;unfold CV cmA at*;go_enter Tryz.func156,Tryz.ntmps156;go_wp2_with fail
 refine(c1 _).mono ?_;rintro e w1 ⟨rfl,b1⟩;have P1:CmB w1 w.heap.size 66 c:=CmB.below (c:=c) P0 b1;have B1:=b0.trans (b1.mono b0.size);have k0:w1.cell? ⟨w.heap.size,0,none⟩=some (.int .i64 c.o):=P1.cell 0 rfl;clear b1 b0 P0 c1;cases b with
 |false=>
  go_wp2;go_ret;exact⟨af (by rw[HE.out];rfl),B1⟩
 |true=>
  by_cases h2:c.o=1
  ·go_wp2
   go_ret;exact⟨af (by rw[HE.out];simp[h2]),B1⟩
  ·go_wp2
   go_ret;exact⟨af (by rw[HE.out];simp[h2]),B1⟩
theorem D6 (c:Cm):c.wr=(c.chg||(c.ok&&decide (c.o=5))):=by
 have e:c.chg=(c.ok&&inI c.o 2 4):=rfl;unfold Cm.wr;rw[e];cases c.ok
 ·rfl
 ·rw[Bool.eq_iff_iff]
  simp only[Bool.true_and,Bool.or_eq_true,aE,decide_eq_true_eq];omega
theorem eG (c:Cm) (w:World):
  Calls Tryz.prog 157 #[CV c] w fun e w'=>e=.returned (.bool c.wr)/\iO w w':=by
 have c1:=fun wx=>dv c wx
 have c0:=fun wx=>tw c wx
 have b0:iO w (w.alloc (.cells (cmA c) 66)):=Fc;have P0:=CmB.new w 66 c;have HE:Hid (c.wr=(c.chg||(c.ok&&decide (c.o=5)))):=D6 c;obtain⟨x,hx⟩:=Fe c.wr
 rw[<-hx]at HE⊢;obtain⟨b,hb⟩:=Fe c.ok
 obtain⟨g,hg⟩:=Fe c.chg
 rw[<-hb,<-hg]at HE;simp only[<-hb]at c1;simp only[<-hg]at c0;clear hx hb hg;have C1:Hid _:=c1;clear c1;unfold CV cmA at*;go_enter Tryz.func157,Tryz.ntmps157;go_wp2_with fail
 refine(c0 _).mono ?_;rintro e w1 ⟨rfl,b1⟩;have P1:CmB w1 w.heap.size 66 c:=CmB.below (c:=c) P0 b1;have B1:=b0.trans (b1.mono b0.size);have k0:w1.cell? ⟨w.heap.size,0,none⟩=some (.int .i64 c.o):=P1.cell 0 rfl;have k1:w1.cell? ⟨w.heap.size,1,none⟩=some (.int .i64 c.p):=P1.cell 1 rfl;have k2:w1.cell? ⟨w.heap.size,2,none⟩=some (.int .i64 c.a):=P1.cell 2 rfl;have k3:w1.cell? ⟨w.heap.size,3,none⟩=some (.int .i64 c.b):=P1.cell 3 rfl;have k4:w1.cell? ⟨w.heap.size,4,none⟩=some (.int .i64 c.k):=P1.cell 4 rfl;clear b1 b0 P0 c0;cases g with
 |true=>
  go_wp2;go_ret;exact⟨af (by rw[HE.out];rfl),B1⟩
 |false=>
  go_wp2_with fail
  refine(C1.out _).mono ?_;rintro e w2 ⟨rfl,b2⟩;have B2:=B1.trans (b2.mono B1.size);have P2:CmB w2 w.heap.size 66 c:=CmB.below (c:=c) P1 b2;have m0:w2.cell? ⟨w.heap.size,0,none⟩=some (.int .i64 c.o):=P2.cell 0 rfl;clear b2 k0 k1 k2 k3 k4 P1 B1;cases b with
  |false=>
   go_wp2;go_ret;exact⟨af (by rw[HE.out];rfl),B2⟩
  |true=>
   by_cases h2:c.o=5
   ·go_wp2
    go_ret;exact⟨af (by rw[HE.out];simp[h2]),B2⟩
   ·go_wp2
    go_ret;exact⟨af (by rw[HE.out];simp[h2]),B2⟩
theorem Sq.put3 {w w1 wx wy:World} (h:Sq w w1 wx) (g:wx.grownBy wy (some (w.heap.size+1+1+1))):Sq w w1 wy:=fun a x h1 h2 h3=>g.cell (h a x h1 h2 h3) (by simpa using h2)
theorem r6 {xs ys:List Int} (hb:au xs ys=true) {p x:Int} (h0:0<=p) (h1:p<(ys.length:Int)) (hx:bJ x=true):fy ys p x=true/\eV ys p x=ys.set p.toNat x:=by
 have h2:=(eH hb).2.1;have hp:ex ys p x=true:=by simp[ex,h0,h1,hx]
 exact⟨by simp[fy,h2,hp],by simp[eV,h2,hp]⟩
theorem wC {xs ys:List Int} (hb:au xs ys=true) {p x:Int} (h:(ys.length:Int)<=p∨bJ x=false):fy ys p x=false/\eV ys p x=ys:=by
 have h2:=(eH hb).2.1;have hp:ex ys p x=false:=by
  unfold ex;rcases h with h|h
  ·have:decide (p<(ys.length:Int))=false:=by simp;omega
   rw[this];simp
  ·rw[h]
   simp
 exact⟨by simp[fy,hp],by simp[eV,h2,hp]⟩
theorem ye {xs ys:List Int} (hb:au xs ys=true) (c:Cm) (x:Int) (h0:0<=c.p) (ho:c.o≠5) (hr:cX ys c=(decide ((ys.length:Int)<=c.p)|| !bJ x)) (hd:cX ys c=false->bC xs ys c=(xs,ys.set c.p.toNat x,⟨0,[]⟩)):
  bC xs ys c=(xs,eV ys c.p x,wrA (fy ys c.p x)):=by
 cases e:cX ys c with
 |true=>
  rw[fL ho e];rw[e]at hr;have h:(ys.length:Int)<=c.p∨bJ x=false:=by simpa using hr.symm
  rw[(wC hb h).1,(wC hb h).2];rfl
 |false=>
  rw[hd e];rw[e]at hr;have h:c.p<(ys.length:Int)/\bJ x=true:=by simpa using hr.symm
  rw[(r6 hb h0 h.1 h.2).1,(r6 hb h0 h.1 h.2).2];rfl
theorem Ba (u v:Value) (xs ys:List Int) (c:Cm) (w:World) (h:ag w u xs) (h':ag w v ys) (hb:au xs ys=true) (ht:Tab w):
  Calls Tryz.prog 232 #[.agg #[u,v],iU c] w fun e w'=>∃a b,e=.returned (.tuple #[.agg #[a,b],AV (dD xs ys c).2.2])/\aV w' w.heap.size a b (dD xs ys c).1 (dD xs ys c).2.1/\iO w w':=by
 obtain⟨n1,n8,nl⟩:=cI hb;have gx:xs.length<=1099511627776:=by omega
 have gy:ys.length<=1099511627776:=by omega
 have ru:∀w',iO w w'->ag w' u xs:=fun w' b=>h.below b (Nat.le_refl _)
 have rv:∀w',iO w w'->ag w' v ys:=fun w' b=>h'.below b (Nat.le_refl _)
 by_cases hc:c.ok=true/\c.o<=5
 ·obtain⟨hok,h5⟩:=hc
  have ed:dD xs ys c=bC xs ys c:=by simp[dD,hb,hok,h5]
  rw[ed];obtain⟨ho,hp0⟩:=Cm.ok_vol hok h5;have ea:iU c=if c.o=1 then .iface 285 (.agg #[.int .i64 c.p])
    else if c.o=2 then .iface 288 (.agg #[.int .i64 c.p,.int .i64 c.a])
    else if c.o=3 then .iface 291 (.agg #[.int .i64 c.p,.int .i64 c.a,.int .i64 c.b])
    else if c.o=4 then .iface 288 (.agg #[.int .i64 c.p,.int .i64 0])
    else if c.o=5 then .iface 294 (.agg #[])
    else .nilIface:=by unfold iU;rw[if_pos hok]
  rw[ea];clear ea ed hok h5;obtain⟨o,p,x,y,k0⟩:=c;dsimp only at*;rcases ho with rfl|rfl|rfl|rfl|rfl
  ·rw[if_pos rfl]
   by_cases hf:(ys.length:Int)<=p
   ·rw[fL Fg (by simp[cX,hf])]
    exact Bb u v xs ys ⟨1,[]⟩ p w (fun w' b=>pI u v xs ys p w' (ru w' b) (rv w' b) hb hf)
   ·obtain⟨j,rfl⟩:∃j:Nat,p=(j:Int):=⟨p.toNat,by omega⟩
    have e:bC xs ys ⟨1,j,x,y,k0⟩=(xs,ys,⟨0,ce (ys.getD j 0)⟩):=by
     have:cX ys ⟨1,j,x,y,k0⟩=false:=by simp[cX];omega
     simp[bC,this,atI]
    rw[e];exact Bb u v xs ys ⟨0,ce (ys.getD j 0)⟩ j w (fun w' b=>oG u v xs ys j w' (ru w' b) (rv w' b) hb Ff (ht.below b))
  ·rw[if_neg Fh,if_pos rfl]
   rw[ye hb ⟨2,p,x,y,k0⟩ x hp0 Fg (by simp[cX]) (fun e=>by simp[bC,e])];exact Bc u v xs _ _ p x w (fun w' b=>eF u v xs ys p x w' (ru w' b) (rv w' b) gx gy hb)
  ·rw[if_neg Fh,if_neg Fh,if_pos rfl]
   have hr:cX ys ⟨3,p,x,y,k0⟩=(decide ((ys.length:Int)<=p)|| !bJ y):=by simp[cX]
   cases e:cX ys ⟨3,p,x,y,k0⟩with
   |true=>
    rw[fL Fg e];rw[e]at hr;have h1:(ys.length:Int)<=p∨bJ y=false:=by simpa using hr.symm
    have:=wC hb h1;exact wE u v xs ys ⟨1,[]⟩ p x y w (fun w' b=>by have q:=Be u v xs ys p x y w' (ru w' b) (rv w' b) hb this.1;rw[this.2]at q;exact q)
   |false=>
    rw[e]at hr;have h1:p<(ys.length:Int)/\bJ y=true:=by simpa using hr.symm
    have hput:=r6 hb hp0 h1.1 h1.2;obtain⟨j,rfl⟩:∃j:Nat,p=(j:Int):=⟨p.toNat,by omega⟩
    have ht':((j:Int)).toNat=j:=by omega
    by_cases hz:ys.getD j 0=x
    ·have ed:bC xs ys ⟨3,j,x,y,k0⟩=(xs,eV ys j y,⟨0,[]⟩):=by
      have hz':ys[j]?.getD 0=x:=by simpa using hz
      simp[bC,e,atI,hz',hput.2]
     rw[ed];exact wE u v xs _ ⟨0,[]⟩ j x y w (fun w' b=>zy u v xs ys j x y w' (ru w' b) (rv w' b) hb hput.1 h1.1 hz)
    ·have ed:bC xs ys ⟨3,j,x,y,k0⟩=(xs,ys,⟨2,ce (ys.getD j 0)⟩):=by
      have hz':¬ys[j]?.getD 0=x:=by simpa using hz
      simp[bC,e,atI,hz']
     rw[ed];exact wE u v xs ys ⟨2,ce (ys.getD j 0)⟩ j x y w (fun w' b=>r8 u v xs ys j x y w' (ru w' b) (rv w' b) hb hput.1 h1.1 hz (ht.below b))
  ·rw[if_neg Fh,if_neg Fh,if_neg Fh,if_pos rfl]
   rw[ye hb ⟨4,p,x,y,k0⟩ 0 hp0 Fg (by simp[cX,bJ]) (fun e=>by simp[bC,e])];exact Bc u v xs _ _ p 0 w (fun w' b=>eF u v xs ys p 0 w' (ru w' b) (rv w' b) gx gy hb)
  ·rw[if_neg Fh,if_neg Fh,if_neg Fh,if_neg Fh,if_pos rfl]
   have e:bC xs ys ⟨5,p,x,y,k0⟩=(ys,ys,⟨0,[]⟩):=by simp[bC]
   rw[e];exact Bd u v ys ys w (fun w' b=>by have q:=tB u v xs ys w' (ru w' b) (rv w' b) gx gy;rw[show flN xs ys=ys by simp[flN,hb]]at q;exact q)
 ·have ed:dD xs ys c=(xs,ys,⟨7,[]⟩):=by
   have:(c.ok&&decide (c.o<=5))=false:=by
    cases e:c.ok with
    |false=>rfl
    |true=>simp[e]at hc;simp;omega
   simp[dD,hb,this]
  have ea:iU c=.nilIface:=by
   unfold iU;by_cases hok:c.ok=true
   ·have:¬c.o<=5:=fun h=>hc ⟨hok,h⟩
    rw[if_pos hok,if_neg Ff,if_neg Ff,if_neg Ff,if_neg Ff,if_neg Ff]
   ·rw[if_neg hok]
  rw[ed,ea];exact CJ u v xs ys w (fun w' b=>dJ u v xs ys w' (ru w' b) (rv w' b) n1 Ff gx gy)
theorem r7 (u v:Value) (xs ys:List Int) (c:Cm) (w:World) (h:ag w u xs) (h':ag w v ys) (gx:xs.length<=1099511627776) (gy:ys.length<=1099511627776) (ht:Tab w):
  Calls Tryz.prog 195 #[.agg #[u,v],CV c] w fun e w'=>∃a b,e=.returned (.tuple #[.agg #[a,b],AV (dD xs ys c).2.2])/\aV w' w.heap.size a b (dD xs ys c).1 (dD xs ys c).2.1/\iO w w':=by
 obtain⟨w1,hw1⟩:=Fe ((((w.alloc (.cells #[u,v] 36)).alloc (.cells #[.int .i64 c.o,.int .i64 c.p,.int .i64 c.a,.int .i64 c.b,.int .i64 c.k] 66)).alloc (.cells #[.slice none 0 0,.slice none 0 0] 36)).alloc (.cells #[.int .i64 0,.string ⟨#[]⟩] 44))
 have HV:Hid (Vx w w1 u v 66 (cmA c) zeD ⟨0,[]⟩):=by rw[hw1];exact Vx.start w u v _ _
 have c1:=iG u v xs ys w1 (h.below HV.out.bl (Nat.le_refl _)) (h'.below HV.out.bl (Nat.le_refl _)) gx gy;have HR:Hid (ag w u xs/\ag w v ys/\Tab w):=⟨h,h',ht⟩
 obtain⟨uo,uc,rfl⟩:=h.form;obtain⟨vo,vc,rfl⟩:=h'.form;cases hb:au xs ys with
 |false=>
  have ed:dD xs ys c=([],[],⟨7,[]⟩):=by simp[dD,hb]
  rw[ed];rw[hb]at c1;clear hb ed h h' gx gy ht;unfold CV cmA;go_enter Tryz.func195,Tryz.ntmps195;go_upto_region 1 with fail
  rw[<-hw1];clear hw1;go_wp2_with (refine ah GI rfl _ rfl w.heap.size rfl _ rfl HV.out.dk ?_)
  refine c1.mono ?_;rintro e w2 ⟨rfl,b2⟩;have H2:Hid (Vx w w2 (.slice uo xs.length uc) (.slice vo ys.length vc) 66 (cmA c) zeD ⟨0,[]⟩):=HV.out.next b2;clear b2 c1 HV;go_wp2_with (first
   |(refine ae GI rfl _ _ rfl (w.heap.size+1+1) zeD zeD rfl rfl rfl rfl (cH rfl rfl) H2.out.rd ?_;intro w5 s5 g5)
   |(refine ae GC rfl _ _ rfl (w.heap.size+1+1+1) (anA ⟨7,[]⟩) (anA ⟨0,[]⟩) rfl rfl rfl rfl (aC _) (H2.out.ra.kept g5 Fg) ?_;intro w6 s6 g6))
  refine bodyPost_ret (bg rfl _ _ (w.heap.size+1+1) (w.heap.size+1+1+1) _ _ rfl rfl rfl rfl (s5.kept g6 Fg) s6) rfl ?_;have b5:=H2.out.bl.grown g5 H2.out.bl.size (fun k e=>by cases e;omega);exact⟨_,_,rfl,sw _ _,b5.grown g6 b5.size (fun k e=>by cases e;omega)⟩
 |true=>
  have ID:Hid (∀w',iO w w'->Calls Tryz.prog 232 #[.agg #[.slice uo xs.length uc,.slice vo ys.length vc],iU c] w' fun e w''=>∃a b,e=.returned (.tuple #[.agg (dkA a b),.agg (anA (dD xs ys c).2.2)])/\aV w'' w'.heap.size a b (dD xs ys c).1 (dD xs ys c).2.1/\iO w' w''):=
   fun w' b=>Ba _ _ xs ys c w' (h.below b (Nat.le_refl _)) (h'.below b (Nat.le_refl _)) hb (ht.below b)
  have AK:Hid (∀w',Calls Tryz.prog 233 #[.agg #[.int .i64 c.o,.int .i64 c.p,.int .i64 c.a,.int .i64 c.b,.int .i64 c.k]] w' fun e w''=>e=.returned (iU c)/\iO w' w''):=fun w'=>wD c w'
  obtain⟨V,hV⟩:=Fe (iU c)
  obtain⟨an,han⟩:=Fe ((dD xs ys c).2.2)
  obtain⟨ks,hks⟩:=Fe ((dD xs ys c).1)
  obtain⟨ns,hns⟩:=Fe ((dD xs ys c).2.1)
  rw[<-hV]at AK;rw[<-hV,<-han,<-hks,<-hns]at ID;rw[<-han,<-hks,<-hns];rw[hb]at c1;clear hb h h' gx gy ht hV han hks hns;unfold CV cmA;go_enter Tryz.func195,Tryz.ntmps195;go_upto_region 1 with fail
  rw[<-hw1];clear hw1;go_wp2_with (refine ah GI rfl _ rfl w.heap.size rfl _ rfl HV.out.dk ?_)
  refine c1.mono ?_;rintro e w2 ⟨rfl,b2⟩;have H2:Hid (Vx w w2 (.slice uo xs.length uc) (.slice vo ys.length vc) 66 (cmA c) zeD ⟨0,[]⟩):=HV.out.next b2;clear b2 c1 HV;have q0:∀w',Sq w w2 w'->w'.cell? ⟨w.heap.size,0,none⟩=some (.slice uo xs.length uc):=fun w' b=>b _ _ (by simp;try omega) (by simp;try omega) (H2.out.dk.cell 0 rfl)
  have q1:∀w',Sq w w2 w'->w'.cell? ⟨w.heap.size,1,none⟩=some (.slice vo ys.length vc):=fun w' b=>b _ _ (by simp;try omega) (by simp;try omega) (H2.out.dk.cell 1 rfl)
  have p0:∀w',Sq w w2 w'->w'.cell? ⟨w.heap.size+1,0,none⟩=some (.int .i64 c.o):=fun w' b=>b _ _ (by simp;try omega) (by simp;try omega) (H2.out.cm.cell 0 rfl)
  have p1:∀w',Sq w w2 w'->w'.cell? ⟨w.heap.size+1,1,none⟩=some (.int .i64 c.p):=fun w' b=>b _ _ (by simp;try omega) (by simp;try omega) (H2.out.cm.cell 1 rfl)
  have p2:∀w',Sq w w2 w'->w'.cell? ⟨w.heap.size+1,2,none⟩=some (.int .i64 c.a):=fun w' b=>b _ _ (by simp;try omega) (by simp;try omega) (H2.out.cm.cell 2 rfl)
  have p3:∀w',Sq w w2 w'->w'.cell? ⟨w.heap.size+1,3,none⟩=some (.int .i64 c.b):=fun w' b=>b _ _ (by simp;try omega) (by simp;try omega) (H2.out.cm.cell 3 rfl)
  have p4:∀w',Sq w w2 w'->w'.cell? ⟨w.heap.size+1,4,none⟩=some (.int .i64 c.k):=fun w' b=>b _ _ (by simp;try omega) (by simp;try omega) (H2.out.cm.cell 4 rfl)
  go_upto_region 3 with fail
  go_region_held3 (fun w'=>Sq w w2 w') ((repeat'(first|with_reducible assumption|with_reducible exact Sq.refl _ _|with_reducible refine Sq.al ?_|with_reducible refine Sq.dr ?_|with_reducible refine Sq.put3 ?_ (by with_reducible assumption)|with_reducible refine Sq.put2 ?_ (by with_reducible assumption)|with_reducible refine Sq.bel ?_ (by with_reducible assumption))))
   (first
    |(go_at_call 233;refine(AK.out _).mono ?_;rintro e w3 ⟨rfl,b3⟩)
    |(go_at_call 232;refine(ID.out _ (qD H2.out.bl cC)).mono ?_;rintro e w4 ⟨a,b,rfl,o4,b4⟩;obtain⟨ao,ac,rfl⟩:=o4.1.reads.form;obtain⟨bo,bc,rfl⟩:=o4.2.1.reads.form;have H4:Hid (Vx w w4 (.slice uo xs.length uc) (.slice vo ys.length vc) 66 (cmA c) zeD ⟨0,[]⟩/\aV w4 (w.heap.size+4) (.slice ao ks.length ac) (.slice bo ns.length bc) ks ns):=⟨H2.out.next cC,aV.mono' o4 (Nat.le_trans H2.out.sz (pq cC))⟩;clear o4)
    |((with_reducible show Oper.upon _ _ _ _ _ (Result.andThen (Sem.run _ (storeCells _ (dkA _ _).toList) _) _));refine gn (w.heap.size+1+1) 36 (dkA (.slice ao ks.length ac) (.slice bo ns.length bc)) zeD rfl (cH rfl rfl) H4.out.1.rd ?_;intro w5 s5 g5)
    |((with_reducible show Oper.upon _ _ _ _ _ (Result.andThen (Sem.run _ (storeCells _ (anA _).toList) _) _));refine gn (w.heap.size+1+1+1) 44 (anA an) (anA ⟨0,[]⟩) rfl (aC _) (H4.out.1.ra.kept g5 Fg) ?_;intro w6 s6 g6))
  all_goals
   go_wp2;refine bodyPost_ret (bg rfl _ _ (w.heap.size+1+1) (w.heap.size+1+1+1) _ _ rfl rfl rfl rfl (s5.kept g6 Fg) s6) rfl ?_;exact⟨_,_,rfl,H4.out.1.fin H4.out.2.1 H4.out.2.2.1 (Nat.le_refl _) H4.out.2.2.2 g5 g6⟩
end Go.Proofs.YthldeiojlllkdaaGreatDoor
