import Derived.Test.YtpdggofaobmnlaaGreatDoorM9
import Derived.RegionTactic
import Derived.BigRegion
import Derived.Test.YtpdggofaobmnlaaGreatDoorIVolS
/- Whether a command is right, by the program: opOk, limitsOf, CmdOk, Changes. -/
set_option maxRecDepth 20000
set_option maxHeartbeats 4000000
namespace Go.Proofs.YtpdggofaobmnlaaGreatDoor
open Go.ChangeShapes Go.WideShapes Go.ChangeAt Go.RowKit
theorem iop_any (x:Int) (w:World):
  Calls Tryz.prog 107 #[.int .i64 x] w fun e w'=>e=.returned (.bool (inI x 1 12))∧w'=w:=by
 by_cases h0:1≤x
 ·by_cases h1:x≤12
  ·have he:inI x 1 12=true:=by simp[inI,h0,h1]
   rw[he]
   clear he
   go_enter Tryz.func107,Tryz.ntmps107
   go_wp2
   go_ret
   exact⟨ret_bool (by simp),rfl⟩
  ·have he:inI x 1 12=false:=by simp[inI,h1]
   rw[he]
   clear he
   go_enter Tryz.func107,Tryz.ntmps107
   go_wp2
   go_ret
   exact⟨ret_bool (by simp),rfl⟩
 ·have he:inI x 1 12=false:=by simp[inI,h0]
  rw[he]
  clear he
  go_enter Tryz.func107,Tryz.ntmps107
  go_wp2
  go_ret
  exact⟨ret_bool (by simp),rfl⟩
def lst (o:Int):Cm:=if o=7 then⟨0,0,0,0,1⟩else if o=10 then⟨0,0,0,1,1⟩else Cm.zero
def mst (o:Int):Cm:=
 if o=1 then⟨0,255,0,0,0⟩else if o=4 then⟨0,255,0,0,0⟩else if o=2 then⟨0,255,65535,0,0⟩else if o=3 then⟨0,255,65535,65535,0⟩
 else if o=6 then⟨0,0,9999,0,0⟩else if o=7 then⟨0,0,0,0,6⟩else if o=10 then⟨0,0,9999,9999,6⟩else Cm.zero
def within (c l m:Cm):Bool:=inI c.o 1 12&&decide (l.p≤c.p)&&decide (c.p≤m.p)&&decide (l.a≤c.a)&&decide (c.a≤m.a)&&decide (l.b≤c.b)&&decide (c.b≤m.b)&&decide (l.k≤c.k)&&decide (c.k≤m.k)
theorem ok_within (c:Cm):within c (lst c.o) (mst c.o)=c.ok:=by
 obtain⟨o,p,a,b,k⟩:=c
 dsimp only
 by_cases h:inI o 1 12=true
 ·rw[inI_iff]at h
  rw[Bool.eq_iff_iff]
  obtain rfl|rfl|rfl|rfl|rfl|rfl|rfl|rfl|rfl|rfl|rfl|rfl:o=1∨o=2∨o=3∨o=4∨o=5∨o=6∨o=7∨o=8∨o=9∨o=10∨o=11∨o=12:=by omega
  all_goals
   simp[within,lst,mst,Cm.zero,Cm.ok,Cm.told,Cm.fits,inI]
   try omega
 ·have h':inI o 1 12=false:=by simpa using h
  simp[within,Cm.ok,Cm.told,h']
theorem two_cm (w:World) (c d:Cm):CmB ((w.alloc (.cells (cmA c) 32)).alloc (.cells (cmA d) 32)).drew w.heap.size 32 c∧CmB ((w.alloc (.cells (cmA c) 32)).alloc (.cells (cmA d) 32)).drew (w.heap.size+1) 32 d∧Below w.heap.size w ((w.alloc (.cells (cmA c) 32)).alloc (.cells (cmA d) 32)).drew:=by
 refine⟨(CmB.new w _ c).alloc _,?_,below_drewN (((Below.refl _ _).alloc (Nat.le_refl _) _).alloc (by simp) _) 1⟩
 have:=CmB.new (w.alloc (.cells (cmA c) 32)) 32 d
 rw[World.size_alloc]at this
 exact this
theorem ilim_1 (w:World):
  Calls Tryz.prog 106 #[.int .i64 1] w fun e w'=>e=.returned (.tuple #[CV (lst 1),CV (mst 1)])∧Below w.heap.size w w':=by
 have h:=two_cm w (lst 1) (mst 1)
 go_enter Tryz.func106,Tryz.ntmps106
 go_wp2
 go_region
 go_wp2
 exact bodyPost_ret (results_CC rfl _ _ w.heap.size (w.heap.size+1) (lst 1) (mst 1) rfl rfl h.1 h.2.1) rfl ⟨rfl,h.2.2⟩
theorem ilim_2 (w:World):
  Calls Tryz.prog 106 #[.int .i64 2] w fun e w'=>e=.returned (.tuple #[CV (lst 2),CV (mst 2)])∧Below w.heap.size w w':=by
 have h:=two_cm w (lst 2) (mst 2)
 go_enter Tryz.func106,Tryz.ntmps106
 go_wp2
 go_region
 go_wp2
 exact bodyPost_ret (results_CC rfl _ _ w.heap.size (w.heap.size+1) (lst 2) (mst 2) rfl rfl h.1 h.2.1) rfl ⟨rfl,h.2.2⟩
theorem ilim_3 (w:World):
  Calls Tryz.prog 106 #[.int .i64 3] w fun e w'=>e=.returned (.tuple #[CV (lst 3),CV (mst 3)])∧Below w.heap.size w w':=by
 have h:=two_cm w (lst 3) (mst 3)
 go_enter Tryz.func106,Tryz.ntmps106
 go_wp2
 go_region
 go_wp2
 exact bodyPost_ret (results_CC rfl _ _ w.heap.size (w.heap.size+1) (lst 3) (mst 3) rfl rfl h.1 h.2.1) rfl ⟨rfl,h.2.2⟩
theorem ilim_4 (w:World):
  Calls Tryz.prog 106 #[.int .i64 4] w fun e w'=>e=.returned (.tuple #[CV (lst 4),CV (mst 4)])∧Below w.heap.size w w':=by
 have h:=two_cm w (lst 4) (mst 4)
 go_enter Tryz.func106,Tryz.ntmps106
 go_wp2
 go_region
 go_wp2
 exact bodyPost_ret (results_CC rfl _ _ w.heap.size (w.heap.size+1) (lst 4) (mst 4) rfl rfl h.1 h.2.1) rfl ⟨rfl,h.2.2⟩
theorem ilim_6 (w:World):
  Calls Tryz.prog 106 #[.int .i64 6] w fun e w'=>e=.returned (.tuple #[CV (lst 6),CV (mst 6)])∧Below w.heap.size w w':=by
 have h:=two_cm w (lst 6) (mst 6)
 go_enter Tryz.func106,Tryz.ntmps106
 go_wp2
 go_region
 go_wp2
 exact bodyPost_ret (results_CC rfl _ _ w.heap.size (w.heap.size+1) (lst 6) (mst 6) rfl rfl h.1 h.2.1) rfl ⟨rfl,h.2.2⟩
theorem ilim_7 (w:World):
  Calls Tryz.prog 106 #[.int .i64 7] w fun e w'=>e=.returned (.tuple #[CV (lst 7),CV (mst 7)])∧Below w.heap.size w w':=by
 have h:=two_cm w (lst 7) (mst 7)
 go_enter Tryz.func106,Tryz.ntmps106
 go_wp2
 go_region
 go_wp2
 exact bodyPost_ret (results_CC rfl _ _ w.heap.size (w.heap.size+1) (lst 7) (mst 7) rfl rfl h.1 h.2.1) rfl ⟨rfl,h.2.2⟩
theorem ilim_10 (w:World):
  Calls Tryz.prog 106 #[.int .i64 10] w fun e w'=>e=.returned (.tuple #[CV (lst 10),CV (mst 10)])∧Below w.heap.size w w':=by
 have h:=two_cm w (lst 10) (mst 10)
 go_enter Tryz.func106,Tryz.ntmps106
 go_wp2
 go_region
 go_wp2
 exact bodyPost_ret (results_CC rfl _ _ w.heap.size (w.heap.size+1) (lst 10) (mst 10) rfl rfl h.1 h.2.1) rfl ⟨rfl,h.2.2⟩
theorem ilim_any (o:Int) (w:World):
  Calls Tryz.prog 106 #[.int .i64 o] w fun e w'=>e=.returned (.tuple #[CV (lst o),CV (mst o)])∧Below w.heap.size w w':=by
 by_cases h1:o=1
 ·subst h1;exact ilim_1 w
 by_cases h2:o=2
 ·subst h2;exact ilim_2 w
 by_cases h3:o=3
 ·subst h3;exact ilim_3 w
 by_cases h4:o=4
 ·subst h4;exact ilim_4 w
 by_cases h6:o=6
 ·subst h6;exact ilim_6 w
 by_cases h7:o=7
 ·subst h7;exact ilim_7 w
 by_cases h10:o=10
 ·subst h10;exact ilim_10 w
 have h:=two_cm w (lst o) (mst o)
 have hl:lst o=⟨0,0,0,0,0⟩:=by simp[lst,h7,h10,Cm.zero]
 have hm:mst o=⟨0,0,0,0,0⟩:=by simp[mst,h1,h2,h3,h4,h6,h7,h10,Cm.zero]
 rw[hl,hm]at h⊢
 clear hl hm
 go_enter Tryz.func106,Tryz.ntmps106
 go_wp2
 go_region
 go_wp2
 exact bodyPost_ret (results_CC rfl _ _ w.heap.size (w.heap.size+1) ⟨0,0,0,0,0⟩ ⟨0,0,0,0,0⟩ rfl rfl h.1 h.2.1) rfl ⟨rfl,h.2.2⟩
theorem icmdok_any (c:Cm) (w:World):
  Calls Tryz.prog 71 #[CV c] w fun e w'=>e=.returned (.bool c.ok)∧Below w.heap.size w w':=by
 have c1:=fun wx=>ilim_any c.o wx
 have c2:=fun wx=>iop_any c.o wx
 have hok:=ok_within c
 obtain⟨L,hL⟩:∃L,L=lst c.o:=⟨_,rfl⟩
 obtain⟨M,hM⟩:∃M,M=mst c.o:=⟨_,rfl⟩
 simp only[←hL,←hM]at c1 hok
 rw[←hok]
 have HE:Hid (within c L M=(inI c.o 1 12&&decide (L.p≤c.p)&&decide (c.p≤M.p)&&decide (L.a≤c.a)&&decide (c.a≤M.a)&&decide (L.b≤c.b)&&decide (c.b≤M.b)&&decide (L.k≤c.k)&&decide (c.k≤M.k))):=rfl
 obtain⟨x,hx⟩:∃x,x=within c L M:=⟨_,rfl⟩
 rw[←hx]at HE⊢
 obtain⟨b,hb⟩:∃b,b=inI c.o 1 12:=⟨_,rfl⟩
 rw[←hb]at HE
 simp only[←hb]at c2
 clear hx hb hL hM hok
 have b0:Below w.heap.size w (w.alloc (.cells (cmA c) 32)):=(Below.refl _ _).alloc (Nat.le_refl _) _
 have P0:=CmB.new w 32 c
 unfold CV cmA at*
 go_enter Tryz.func71,Tryz.ntmps71
 go_wp2_with fail
 refine(c1 _).mono ?_
 rintro e w1 ⟨rfl,b1⟩
 have P1:CmB w1 w.heap.size 32 c:=CmB.below (c:=c) P0 b1
 have B1:=b0.trans (b1.mono b0.size)
 have hsz:=P1.lt
 have k0:w1.cell? ⟨w.heap.size,0,none⟩=some (.int .i64 c.o):=P1.cell 0 rfl
 clear b1 b0 P0 c1
 go_wp2_with fail
 obtain⟨w2,hw2⟩:∃w2,w2=(w1.alloc (.cells #[.int .i64 L.o,.int .i64 L.p,.int .i64 L.a,.int .i64 L.b,.int .i64 L.k] 32)).alloc (.cells #[.int .i64 M.o,.int .i64 M.p,.int .i64 M.a,.int .i64 M.b,.int .i64 M.k] 32):=⟨_,rfl⟩
 have P2:CmB w2 w.heap.size 32 c:=by rw[hw2];exact(P1.alloc _).alloc _
 have L2:CmB w2 w1.heap.size 32 L:=by rw[hw2];exact(CmB.new w1 _ L).alloc _
 have M2:CmB w2 (w1.heap.size+1) 32 M:=by rw[hw2];have:=CmB.new (w1.alloc (.cells (cmA L) 32)) 32 M;rwa[World.size_alloc]at this
 have B2:Below w.heap.size w w2:=by rw[hw2];exact(B1.alloc B1.size _).alloc (by simp;omega) _
 rw[←hw2]
 clear hw2 P1 B1 k0 hsz
 have p1:w2.cell? ⟨w.heap.size,1,none⟩=some (.int .i64 c.p):=P2.cell 1 rfl
 have p2:w2.cell? ⟨w.heap.size,2,none⟩=some (.int .i64 c.a):=P2.cell 2 rfl
 have p3:w2.cell? ⟨w.heap.size,3,none⟩=some (.int .i64 c.b):=P2.cell 3 rfl
 have p4:w2.cell? ⟨w.heap.size,4,none⟩=some (.int .i64 c.k):=P2.cell 4 rfl
 have l1:w2.cell? ⟨w1.heap.size,1,none⟩=some (.int .i64 L.p):=L2.cell 1 rfl
 have l2:w2.cell? ⟨w1.heap.size,2,none⟩=some (.int .i64 L.a):=L2.cell 2 rfl
 have l3:w2.cell? ⟨w1.heap.size,3,none⟩=some (.int .i64 L.b):=L2.cell 3 rfl
 have l4:w2.cell? ⟨w1.heap.size,4,none⟩=some (.int .i64 L.k):=L2.cell 4 rfl
 have m1:w2.cell? ⟨(w1.heap.size+1),1,none⟩=some (.int .i64 M.p):=M2.cell 1 rfl
 have m2:w2.cell? ⟨(w1.heap.size+1),2,none⟩=some (.int .i64 M.a):=M2.cell 2 rfl
 have m3:w2.cell? ⟨(w1.heap.size+1),3,none⟩=some (.int .i64 M.b):=M2.cell 3 rfl
 have m4:w2.cell? ⟨(w1.heap.size+1),4,none⟩=some (.int .i64 M.k):=M2.cell 4 rfl
 have p0:w2.cell? ⟨w.heap.size,0,none⟩=some (.int .i64 c.o):=P2.cell 0 rfl
 refine(c2 _).mono ?_
 rintro e w' ⟨rfl,hw'⟩;subst w'
 clear c2 P2 L2 M2
 cases b with
 |false=>
  go_wp2
  go_ret
  exact⟨ret_bool (by rw[HE.out];simp),B2⟩
 |true=>
  by_cases h0:L.p≤c.p
  case neg=>
   have HN:Hid (x=false):=by rw[Hid,HE.out];simp[h0]
   go_wp2
   go_ret
   exact⟨ret_bool (by rw[HN.out]),B2⟩
  by_cases h1:c.p≤M.p
  case neg=>
   have HN:Hid (x=false):=by rw[Hid,HE.out];simp[h1]
   go_wp2
   go_ret
   exact⟨ret_bool (by rw[HN.out]),B2⟩
  by_cases h2:L.a≤c.a
  case neg=>
   have HN:Hid (x=false):=by rw[Hid,HE.out];simp[h2]
   go_wp2
   go_ret
   exact⟨ret_bool (by rw[HN.out]),B2⟩
  by_cases h3:c.a≤M.a
  case neg=>
   have HN:Hid (x=false):=by rw[Hid,HE.out];simp[h3]
   go_wp2
   go_ret
   exact⟨ret_bool (by rw[HN.out]),B2⟩
  by_cases h4:L.b≤c.b
  case neg=>
   have HN:Hid (x=false):=by rw[Hid,HE.out];simp[h4]
   go_wp2
   go_ret
   exact⟨ret_bool (by rw[HN.out]),B2⟩
  by_cases h5:c.b≤M.b
  case neg=>
   have HN:Hid (x=false):=by rw[Hid,HE.out];simp[h5]
   go_wp2
   go_ret
   exact⟨ret_bool (by rw[HN.out]),B2⟩
  by_cases h6:L.k≤c.k
  case neg=>
   have HN:Hid (x=false):=by rw[Hid,HE.out];simp[h6]
   go_wp2
   go_ret
   exact⟨ret_bool (by rw[HN.out]),B2⟩
  by_cases h7:c.k≤M.k
  case neg=>
   have HN:Hid (x=false):=by rw[Hid,HE.out];simp[h7]
   go_wp2
   go_ret
   exact⟨ret_bool (by rw[HN.out];simp;omega),B2⟩
  have HY:Hid (x=true):=by rw[Hid,HE.out];simp[h0,h1,h2,h3,h4,h5,h6,h7]
  go_wp2
  go_ret
  exact⟨ret_bool (by rw[HY.out]),B2⟩
theorem ichg_any (c:Cm) (w:World):
  Calls Tryz.prog 108 #[CV c] w fun e w'=>e=.returned (.bool c.chg)∧Below w.heap.size w w':=by
 have c1:=fun wx=>icmdok_any c wx
 have b0:Below w.heap.size w (w.alloc (.cells (cmA c) 32)):=(Below.refl _ _).alloc (Nat.le_refl _) _
 have P0:=CmB.new w 32 c
 have HE:Hid (c.chg=(c.ok&&inI c.o 2 4)):=rfl
 obtain⟨x,hx⟩:∃x,x=c.chg:=⟨_,rfl⟩
 rw[←hx]at HE⊢
 obtain⟨b,hb⟩:∃b,b=c.ok:=⟨_,rfl⟩
 rw[←hb]at HE
 simp only[←hb]at c1
 clear hx hb
 unfold CV cmA at*
 go_enter Tryz.func108,Tryz.ntmps108
 go_wp2_with fail
 refine(c1 _).mono ?_
 rintro e w1 ⟨rfl,b1⟩
 have P1:CmB w1 w.heap.size 32 c:=CmB.below (c:=c) P0 b1
 have B1:=b0.trans (b1.mono b0.size)
 have k0:w1.cell? ⟨w.heap.size,0,none⟩=some (.int .i64 c.o):=P1.cell 0 rfl
 clear b1 b0 P0 c1
 cases b with
 |false=>
  go_wp2
  go_ret
  exact⟨ret_bool (by rw[HE.out];rfl),B1⟩
 |true=>
  by_cases h2:c.o=2
  ·go_wp2
   go_ret
   exact⟨ret_bool (by rw[HE.out,h2];rfl),B1⟩
  ·by_cases h3:c.o=3
   ·go_wp2
    go_ret
    exact⟨ret_bool (by rw[HE.out,h3];rfl),B1⟩
   ·by_cases h4:c.o=4
    ·go_wp2
     go_ret
     exact⟨ret_bool (by rw[HE.out,h4];rfl),B1⟩
    ·have HN:Hid (inI c.o 2 4=false):=by simp[Hid,inI];omega
     go_wp2
     go_ret
     exact⟨ret_bool (by rw[HE.out,HN.out];simp[h2,h3,h4]),B1⟩
end Go.Proofs.YtpdggofaobmnlaaGreatDoor
namespace Go.Proofs.YtpdggofaobmnlaaGreatDoor
open Go.ChangeShapes Go.WideShapes Go.ChangeAt Go.RowKit
theorem Tryz.asRR (v:Value) (w:World):(Instr.typeAssert (.iface 190 v) 20 190 true).run Tryz.prog w=.ok (.tuple #[v,.bool true]) w:=by kernel_rfl
theorem Tryz.asWR (v:Value) (w:World):(Instr.typeAssert (.iface 193 v) 20 190 true).run Tryz.prog w=.ok (.tuple #[.agg #[.int .i64 0],.bool false]) w:=by kernel_rfl
theorem Tryz.asWW (v:Value) (w:World):(Instr.typeAssert (.iface 193 v) 20 193 true).run Tryz.prog w=.ok (.tuple #[v,.bool true]) w:=by kernel_rfl
theorem Tryz.asSR (v:Value) (w:World):(Instr.typeAssert (.iface 196 v) 20 190 true).run Tryz.prog w=.ok (.tuple #[.agg #[.int .i64 0],.bool false]) w:=by kernel_rfl
theorem Tryz.asSW (v:Value) (w:World):(Instr.typeAssert (.iface 196 v) 20 193 true).run Tryz.prog w=.ok (.tuple #[.agg #[.int .i64 0,.int .i64 0],.bool false]) w:=by kernel_rfl
theorem Tryz.asSS (v:Value) (w:World):(Instr.typeAssert (.iface 196 v) 20 196 true).run Tryz.prog w=.ok (.tuple #[v,.bool true]) w:=by kernel_rfl
theorem Tryz.asYR (v:Value) (w:World):(Instr.typeAssert (.iface 199 v) 20 190 true).run Tryz.prog w=.ok (.tuple #[.agg #[.int .i64 0],.bool false]) w:=by kernel_rfl
theorem Tryz.asYW (v:Value) (w:World):(Instr.typeAssert (.iface 199 v) 20 193 true).run Tryz.prog w=.ok (.tuple #[.agg #[.int .i64 0,.int .i64 0],.bool false]) w:=by kernel_rfl
theorem Tryz.asYS (v:Value) (w:World):(Instr.typeAssert (.iface 199 v) 20 196 true).run Tryz.prog w=.ok (.tuple #[.agg #[.int .i64 0,.int .i64 0,.int .i64 0],.bool false]) w:=by kernel_rfl
theorem Tryz.asYY (v:Value) (w:World):(Instr.typeAssert (.iface 199 v) 20 199 true).run Tryz.prog w=.ok (.tuple #[v,.bool true]) w:=by kernel_rfl
theorem Tryz.asNR (w:World):(Instr.typeAssert .nilIface 20 190 true).run Tryz.prog w=.ok (.tuple #[.agg #[.int .i64 0],.bool false]) w:=by kernel_rfl
theorem Tryz.asNW (w:World):(Instr.typeAssert .nilIface 20 193 true).run Tryz.prog w=.ok (.tuple #[.agg #[.int .i64 0,.int .i64 0],.bool false]) w:=by kernel_rfl
theorem Tryz.asNS (w:World):(Instr.typeAssert .nilIface 20 196 true).run Tryz.prog w=.ok (.tuple #[.agg #[.int .i64 0,.int .i64 0,.int .i64 0],.bool false]) w:=by kernel_rfl
theorem Tryz.asNY (w:World):(Instr.typeAssert .nilIface 20 199 true).run Tryz.prog w=.ok (.tuple #[.agg #[],.bool false]) w:=by kernel_rfl
def askV (c:Cm):Value:=
 if c.ok then
  if c.o=1 then .iface 190 (.agg #[.int .i64 c.p])
  else if c.o=2 then .iface 193 (.agg #[.int .i64 c.p,.int .i64 c.a])
  else if c.o=3 then .iface 196 (.agg #[.int .i64 c.p,.int .i64 c.a,.int .i64 c.b])
  else if c.o=4 then .iface 193 (.agg #[.int .i64 c.p,.int .i64 0])
  else if c.o=5 then .iface 199 (.agg #[])
  else .nilIface
 else .nilIface
theorem iasked_any (c:Cm) (w:World):
  Calls Tryz.prog 145 #[CV c] w fun e w'=>e=.returned (askV c)∧Below w.heap.size w w':=by
 have c1:=fun wx=>icmdok_any c wx
 have b0:Below w.heap.size w (w.alloc (.cells (cmA c) 32)):=(Below.refl _ _).alloc (Nat.le_refl _) _
 have P0:=CmB.new w 32 c
 obtain⟨b,hb⟩:∃b,b=c.ok:=⟨_,rfl⟩
 have HE:Hid (c.ok=b):=hb.symm
 simp only[←hb]at c1
 clear hb
 obtain⟨V,hV⟩:∃V,V=askV c:=⟨_,rfl⟩
 rw[←hV]
 have HV:Hid (V=askV c):=hV
 clear hV
 unfold CV cmA at*
 go_enter Tryz.func145,Tryz.ntmps145
 go_wp2_with fail
 refine(c1 _).mono ?_
 rintro e w1 ⟨rfl,b1⟩
 have P1:CmB w1 w.heap.size 32 c:=CmB.below (c:=c) P0 b1
 have B1:=b0.trans (b1.mono b0.size)
 have k0:w1.cell? ⟨w.heap.size,0,none⟩=some (.int .i64 c.o):=P1.cell 0 rfl
 have k1:w1.cell? ⟨w.heap.size,1,none⟩=some (.int .i64 c.p):=P1.cell 1 rfl
 have k2:w1.cell? ⟨w.heap.size,2,none⟩=some (.int .i64 c.a):=P1.cell 2 rfl
 have k3:w1.cell? ⟨w.heap.size,3,none⟩=some (.int .i64 c.b):=P1.cell 3 rfl
 clear b1 b0 P0 c1
 cases b with
 |false=>
  go_wp2
  go_ret
  exact⟨by rw[HV.out,askV,HE.out];rfl,B1⟩
 |true=>
  obtain⟨o,p,a,b,k⟩:=c
  dsimp only at*
  by_cases h1:o=1
  ·subst h1
   go_wp2
   go_ret
   exact⟨by rw[HV.out,askV,HE.out];rfl,B1⟩
  ·by_cases h2:o=2
   ·subst h2
    go_wp2
    go_ret
    exact⟨by rw[HV.out,askV,HE.out];rfl,B1⟩
   ·by_cases h3:o=3
    ·subst h3
     go_wp2
     go_ret
     exact⟨by rw[HV.out,askV,HE.out];rfl,B1⟩
    ·by_cases h4:o=4
     ·subst h4
      go_wp2
      go_ret
      exact⟨by rw[HV.out,askV,HE.out];rfl,B1⟩
     ·by_cases h5:o=5
      ·subst h5
       go_wp2
       go_ret
       exact⟨by rw[HV.out,askV,HE.out];rfl,B1⟩
      ·go_wp2
       go_ret
       exact⟨by rw[HV.out,askV,HE.out];simp[h1,h2,h3,h4,h5],B1⟩
end Go.Proofs.YtpdggofaobmnlaaGreatDoor
