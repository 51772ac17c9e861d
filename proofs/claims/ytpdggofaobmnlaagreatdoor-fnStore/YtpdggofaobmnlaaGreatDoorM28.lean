import Derived.Test.YtpdggofaobmnlaaGreatDoorM27
import Derived.Test.YtpdggofaobmnlaaGreatDoorM22
import Derived.Test.YtpdggofaobmnlaaGreatDoorM17
/- What the program's actions do: unheld, turned, heldBy, left, cleared, rekeyed. -/
set_option maxRecDepth 20000
set_option maxHeartbeats 2000000
namespace Go.Proofs.YtpdggofaobmnlaaGreatDoor
open Go.ChangeShapes Go.WideShapes Go.ChangeAt Go.RowKit
def HR (w w1:World) (f:Nat→Int) (kd ho tu:Int):Prop:=
 StB w1 w.heap.size 106 (heA f kd ho tu)∧StB w1 (w.heap.size+1) 106 he0A∧Below w.heap.size w w1
theorem HR.start (w:World) (f:Nat→Int) (kd ho tu:Int):HR w ((w.alloc (.cells (heA f kd ho tu) 106)).alloc (.cells he0A 106)) f kd ho tu:=by
 refine⟨(StB.new _ _ _).alloc _,?_,((Below.refl _ _).alloc (Nat.le_refl _) _).alloc (by simp) _⟩
 have:=StB.new (w.alloc (.cells (heA f kd ho tu) 106)) 106 he0A
 rw[World.size_alloc]at this
 exact this
theorem HR.put {w w1:World} {f g:Nat→Int} {kd ho tu kd' ho' tu':Int} (h:HR w w1 f kd ho tu) (j:Nat) (x:Int) (e:(heA f kd ho tu).setIfInBounds j (.int .i64 x)=heA g kd' ho' tu'):HR w (w1.setCell ⟨w.heap.size,j,none⟩ (.int .i64 x)) g kd' ho' tu':=
 ⟨h.1.put j _ e,h.2.1.kept (grownSet w1 _ j _) (by simp),h.2.2.grown (grownSet w1 _ j _) h.2.2.size (fun x e=>by cases e;exact Nat.le_refl _)⟩
theorem iunheld_any (f:Nat→Int) (kd ho tu:Int) (w:World):
  Calls Tryz.prog 206 #[.agg (heA f kd ho tu)] w fun e w'=>e=.returned (.agg (heA f 0 (-1) tu))∧Below w.heap.size w w':=by
 obtain⟨w1,hw1⟩:∃w1,w1=(w.alloc (.cells (heA f kd ho tu) 106)).alloc (.cells he0A 106):=⟨_,rfl⟩
 have HS:Hid (HR w w1 f kd ho tu):=by rw[hw1];exact HR.start _ _ _ _ _
 obtain⟨w2,hw2⟩:∃w2,w2=(w1.setCell ⟨w.heap.size,4,none⟩ (.int .i64 0)).setCell ⟨w.heap.size,5,none⟩ (.int .i64 (-1)):=⟨_,rfl⟩
 have HS2:Hid (HR w w2 f 0 (-1) tu):=by rw[hw2];exact(HS.out.put 4 0 rfl).put 5 (-1) rfl
 obtain⟨-, -, -, -,m4,m5, -⟩:=heA_cells HS.out.1
 have f4:=HS.out.1.frozen 4
 have f5:=HS.out.1.frozen 5
 clear HS
 rw[heA,he0A,heA]at hw1
 rw[heA]
 go_enter Tryz.func206,Tryz.ntmps206
 go_upto_region 1 with fail
 rw[←hw1]
 clear hw1
 go_upto_region 2 with fail
 rw[←hw2]
 clear hw2 m4 m5 f4 f5
 go_wp2_with (first|(refine wpList_getS Tryz.isHeld rfl _ rfl w.heap.size rfl (heA f 0 (-1) tu) rfl HS2.out.1 ?_)|(refine wpList_putS Tryz.isHeld rfl _ _ rfl (w.heap.size+1) (heA f 0 (-1) tu) he0A rfl rfl rfl rfl (heA_one _ _ _ _) HS2.out.2.1 ?_;intro w3 h3 g3))
 refine bodyPost_ret (results_S Tryz.isHeld rfl _ _ (w.heap.size+1) _ rfl rfl h3) rfl ?_
 exact⟨rfl,HS2.out.2.2.grown g3 HS2.out.2.2.size (fun k e=>by cases e;omega)⟩
theorem iturned_any (f:Nat→Int) (kd ho tu:Int) (w:World) (t0:0≤tu) (t1:tu≤1000000000):
  Calls Tryz.prog 207 #[.agg (heA f kd ho tu)] w fun e w'=>e=.returned (.agg (heA f kd ho (turnI tu)))∧Below w.heap.size w w':=by
 obtain⟨w1,hw1⟩:∃w1,w1=(w.alloc (.cells (heA f kd ho tu) 106)).alloc (.cells he0A 106):=⟨_,rfl⟩
 have HS:Hid (HR w w1 f kd ho tu):=by rw[hw1];exact HR.start _ _ _ _ _
 obtain⟨w2,hw2⟩:∃w2,w2=w1.setCell ⟨w.heap.size,6,none⟩ (.int .i64 (turnI tu)):=⟨_,rfl⟩
 have HS2:Hid (HR w w2 f kd ho (turnI tu)):=by rw[hw2];exact HS.out.put 6 (turnI tu) rfl
 obtain⟨-, -, -, -, -, -,m6⟩:=heA_cells HS.out.1
 have f6:=HS.out.1.frozen 6
 have hwr:IntKind.i64.wrap (tu+1)=tu+1:=by rw[IntKind.wrap_i64];omega
 clear HS
 rw[heA,he0A,heA]at hw1
 rw[heA]
 by_cases ht:tu=1000000000
 ·have htb:(tu==1000000000)=true:=by simpa using ht
  have e1:turnI tu=0:=by unfold turnI;rw[if_pos (by omega)]
  rw[e1]at hw2 HS2⊢
  clear ht e1 t0 t1 hwr
  go_enter Tryz.func207,Tryz.ntmps207
  go_upto_region 1 with fail
  rw[←hw1]
  clear hw1
  go_upto_region 4 with fail
  rw[←hw2]
  clear hw2 m6 f6
  go_wp2_with (first|(refine wpList_getS Tryz.isHeld rfl _ rfl w.heap.size rfl (heA f kd ho 0) rfl HS2.out.1 ?_)|(refine wpList_putS Tryz.isHeld rfl _ _ rfl (w.heap.size+1) (heA f kd ho 0) he0A rfl rfl rfl rfl (heA_one _ _ _ _) HS2.out.2.1 ?_;intro w3 h3 g3))
  refine bodyPost_ret (results_S Tryz.isHeld rfl _ _ (w.heap.size+1) _ rfl rfl h3) rfl ?_
  exact⟨rfl,HS2.out.2.2.grown g3 HS2.out.2.2.size (fun k e=>by cases e;omega)⟩
 ·have htb:(tu==1000000000)=false:=by simpa using ht
  have e1:turnI tu=tu+1:=by unfold turnI;rw[if_neg (by omega)]
  rw[e1]at hw2 HS2⊢
  clear ht e1 t0 t1
  go_enter Tryz.func207,Tryz.ntmps207
  go_upto_region 1 with fail
  rw[←hw1]
  clear hw1
  go_upto_region 4 with fail
  rw[←hw2]
  clear hw2 m6 f6 hwr
  go_wp2_with (first|(refine wpList_getS Tryz.isHeld rfl _ rfl w.heap.size rfl (heA f kd ho (tu+1)) rfl HS2.out.1 ?_)|(refine wpList_putS Tryz.isHeld rfl _ _ rfl (w.heap.size+1) (heA f kd ho (tu+1)) he0A rfl rfl rfl rfl (heA_one _ _ _ _) HS2.out.2.1 ?_;intro w3 h3 g3))
  refine bodyPost_ret (results_S Tryz.isHeld rfl _ _ (w.heap.size+1) _ rfl rfl h3) rfl ?_
  exact⟨rfl,HS2.out.2.2.grown g3 HS2.out.2.2.size (fun k e=>by cases e;omega)⟩
theorem iheldby_any (f:Nat→Int) (kd ho tu i k d:Int) (w:World):
  Calls Tryz.prog 196 #[.agg (heA f kd ho tu),.agg (wiA i k d)] w fun e w'=>e=.returned (.agg (heA f d (if allI d then-1 else i) tu))∧Below w.heap.size w w':=by
 obtain⟨w1,hw1⟩:∃w1,w1=((w.alloc (.cells (heA f kd ho tu) 106)).alloc (.cells (wiA i k d) 209)).alloc (.cells he0A 106):=⟨_,rfl⟩
 have HS:Hid (HW w w1 f kd ho tu i k d):=by rw[hw1];exact HW.start _ _ _ _ _ _ _ _
 obtain⟨-, -, -, -,m4,m5, -⟩:=heA_cells HS.out.1
 obtain⟨p0,p1,p2⟩:=wiA_cells HS.out.2.1
 have f4:=HS.out.1.frozen 4
 have f5:=HS.out.1.frozen 5
 obtain⟨w2,hw2⟩:∃w2,w2=((w1.setCell ⟨w.heap.size,4,none⟩ (.int .i64 d)).setCell ⟨w.heap.size,5,none⟩ (.int .i64 i)).drew:=⟨_,rfl⟩
 have HS2:Hid (HW w w2 f d i tu i k d):=by rw[hw2];exact((HS.out.put 4 d rfl).put 5 i rfl).drew
 have q2:w2.cell? ⟨w.heap.size+1,2,none⟩=some (.int .i64 d):=HS2.out.2.1.cell 2 rfl
 have c1:=fun wx=>iall_any d wx
 obtain⟨x,hx⟩:∃x,x=allI d:=⟨_,rfl⟩
 rw[←hx]
 simp only[←hx]at c1
 clear hx
 rw[heA,wiA,he0A,heA]at hw1
 rw[heA,wiA]
 go_enter Tryz.func196,Tryz.ntmps196
 go_upto_region 1 with fail
 rw[←hw1]
 clear hw1
 go_region
 rw[←hw2]
 clear hw2 m4 m5 f4 f5 p0 p1 p2
 go_wp2_with fail
 refine(c1 _).mono ?_
 rintro e w3 ⟨rfl,b3⟩
 have HS3:=HS2.out.next b3
 clear b3 c1 HS2 q2
 cases x with
 |false=>
  have H3:Hid (HW w w3 f d i tu i k d):=HS3
  clear HS3
  go_wp2_with (first|(refine wpList_getS Tryz.isHeld rfl _ rfl w.heap.size rfl (heA f d i tu) rfl H3.out.1 ?_)|(refine wpList_putS Tryz.isHeld rfl _ _ rfl (w.heap.size+2) (heA f d i tu) he0A rfl rfl rfl rfl (heA_one _ _ _ _) H3.out.2.2.1 ?_;intro w5 h5 g5))
  refine bodyPost_ret (results_S Tryz.isHeld rfl _ _ (w.heap.size+2) _ rfl rfl h5) rfl ?_
  exact⟨rfl,H3.out.2.2.2.grown g5 H3.out.2.2.2.size (fun k e=>by cases e;omega)⟩
 |true=>
  obtain⟨w4,hw4⟩:∃w4,w4=w3.setCell ⟨w.heap.size,5,none⟩ (.int .i64 (-1)):=⟨_,rfl⟩
  have H4:Hid (HW w w4 f d (-1) tu i k d):=by rw[hw4];exact HS3.put 5 (-1) rfl
  obtain⟨-, -, -, -, -,m5, -⟩:=heA_cells HS3.1
  have f5:=HS3.1.frozen 5
  clear HS3
  go_upto_region 4 with fail
  rw[←hw4]
  clear hw4 m5 f5
  go_wp2_with (first|(refine wpList_getS Tryz.isHeld rfl _ rfl w.heap.size rfl (heA f d (-1) tu) rfl H4.out.1 ?_)|(refine wpList_putS Tryz.isHeld rfl _ _ rfl (w.heap.size+2) (heA f d (-1) tu) he0A rfl rfl rfl rfl (heA_one _ _ _ _) H4.out.2.2.1 ?_;intro w5 h5 g5))
  refine bodyPost_ret (results_S Tryz.isHeld rfl _ _ (w.heap.size+2) _ rfl rfl h5) rfl ?_
  exact⟨rfl,H4.out.2.2.2.grown g5 H4.out.2.2.2.size (fun k e=>by cases e;omega)⟩
theorem ileft_any (f:Nat→Int) (kd ho tu i k d:Int) (w:World):
  Calls Tryz.prog 199 #[.agg (heA f kd ho tu),.agg (wiA i k d)] w fun e w'=>e=.returned (.agg (heA f (if holdsF f kd ho i then 0 else kd) (if holdsF f kd ho i then-1 else ho) tu))∧Below w.heap.size w w':=by
 obtain⟨w1,hw1⟩:∃w1,w1=((w.alloc (.cells (heA f kd ho tu) 106)).alloc (.cells (wiA i k d) 209)).alloc (.cells he0A 106):=⟨_,rfl⟩
 have HS:Hid (HW w w1 f kd ho tu i k d):=by rw[hw1];exact HW.start _ _ _ _ _ _ _ _
 have c1:=iheldholds_any f kd ho tu i w1
 have c2:=fun wx=>iunheld_any f kd ho tu wx
 obtain⟨x,hx⟩:∃x,x=holdsF f kd ho i:=⟨_,rfl⟩
 rw[←hx]at c1⊢
 clear hx
 rw[heA,wiA,he0A,heA]at hw1
 rw[heA]at c1
 conv in heA f kd ho tu=>unfold heA
 rw[wiA]
 go_enter Tryz.func199,Tryz.ntmps199
 go_wp2_with fail
 rw[←hw1]
 refine c1.mono ?_
 rintro e w2 ⟨rfl,b2⟩
 have HS2:=HS.out.next b2
 clear hw1 c1 b2 HS
 have H2:Hid (HW w w2 f kd ho tu i k d):=HS2
 clear HS2
 cases x with
 |false=>
  clear c2
  go_wp2_with (first|(refine wpList_getS Tryz.isHeld rfl _ rfl w.heap.size rfl (heA f kd ho tu) rfl H2.out.1 ?_)|(refine wpList_putS Tryz.isHeld rfl _ _ rfl (w.heap.size+2) (heA f kd ho tu) he0A rfl rfl rfl rfl (heA_one _ _ _ _) H2.out.2.2.1 ?_;intro w5 h5 g5))
  refine bodyPost_ret (results_S Tryz.isHeld rfl _ _ (w.heap.size+2) _ rfl rfl h5) rfl ?_
  exact⟨rfl,H2.out.2.2.2.grown g5 H2.out.2.2.2.size (fun k e=>by cases e;omega)⟩
 |true=>
  go_wp2_with (first|(refine wpList_getS Tryz.isHeld rfl _ rfl w.heap.size rfl (heA f kd ho tu) rfl H2.out.1 ?_)|(go_at_call 206;refine(c2 _).mono ?_;rintro e w3 ⟨rfl,b3⟩;have H3:Hid (HW w w3 f kd ho tu i k d):=H2.out.next b3;clear b3)|(refine wpList_putS Tryz.isHeld rfl _ _ rfl (w.heap.size+2) (heA f 0 (-1) tu) he0A rfl rfl rfl rfl (heA_one _ _ _ _) H3.out.2.2.1 ?_;intro w5 h5 g5))
  refine bodyPost_ret (results_S Tryz.isHeld rfl _ _ (w.heap.size+2) _ rfl rfl h5) rfl ?_
  exact⟨rfl,H3.out.2.2.2.grown g5 H3.out.2.2.2.size (fun k e=>by cases e;omega)⟩
theorem icleared_any (f:Nat→Int) (kd ho tu i k d:Int) (w:World) (t0:0≤tu) (t1:tu≤1000000000):
  Calls Tryz.prog 200 #[.agg (heA f kd ho tu),.agg (wiA i k d)] w fun e w'=>e=.returned (.agg (heA (fun _=>0) 0 (-1) (turnI tu)))∧Below w.heap.size w w':=by
 obtain⟨w1,hw1⟩:∃w1,w1=((w.alloc (.cells (heA f kd ho tu) 106)).alloc (.cells (wiA i k d) 209)).alloc (.cells he0A 106):=⟨_,rfl⟩
 have HS:Hid (HW w w1 f kd ho tu i k d):=by rw[hw1];exact HW.start _ _ _ _ _ _ _ _
 have c2:=fun wx=>iunheld_any (fun _=>0) kd ho tu wx
 have c3:=fun wx=>iturned_any (fun _=>0) 0 (-1) tu wx t0 t1
 obtain⟨w2,hw2⟩:∃w2,w2=(((w1.setCell ⟨w.heap.size,0,none⟩ (.int .i64 0)).setCell ⟨w.heap.size,1,none⟩ (.int .i64 0)).setCell ⟨w.heap.size,2,none⟩ (.int .i64 0)).setCell ⟨w.heap.size,3,none⟩ (.int .i64 0):=⟨_,rfl⟩
 have H2:Hid (HW w w2 (fun _=>0) kd ho tu i k d):=by
  rw[hw2]
  exact(((HS.out.put (g:=updF f 0 0) (kd':=kd) (ho':=ho) (tu':=tu) 0 0 rfl).put (g:=updF (updF f 0 0) 1 0) (kd':=kd) (ho':=ho) (tu':=tu) 1 0 rfl).put (g:=updF (updF (updF f 0 0) 1 0) 2 0) (kd':=kd) (ho':=ho) (tu':=tu) 2 0 rfl).put 3 0 rfl
 obtain⟨m0,m1,m2,m3, -, -, -⟩:=heA_cells HS.out.1
 have f0:=HS.out.1.frozen 0
 have f1:=HS.out.1.frozen 1
 have f2:=HS.out.1.frozen 2
 have f3:=HS.out.1.frozen 3
 clear HS
 rw[heA,wiA,he0A,heA]at hw1
 conv in heA f kd ho tu=>unfold heA
 rw[wiA]
 go_enter Tryz.func200,Tryz.ntmps200
 go_upto_region 1 with fail
 rw[←hw1]
 clear hw1
 go_upto_region 2 with fail
 rw[←hw2]
 clear hw2 m0 m1 m2 m3 f0 f1 f2 f3
 go_wp2_with (first|(refine wpList_getS Tryz.isHeld rfl _ rfl w.heap.size rfl (heA (fun _=>0) kd ho tu) rfl H2.out.1 ?_)|(go_at_call 206;refine(c2 _).mono ?_;rintro e w3 ⟨rfl,b3⟩;have H3:Hid (HW w w3 (fun _=>0) kd ho tu i k d):=H2.out.next b3;clear b3)|(go_at_call 207;refine(c3 _).mono ?_;rintro e w4 ⟨rfl,b4⟩;have H4:Hid (HW w w4 (fun _=>0) kd ho tu i k d):=H3.out.next b4;clear b4)|(refine wpList_putS Tryz.isHeld rfl _ _ rfl (w.heap.size+2) (heA (fun _=>0) 0 (-1) (turnI tu)) he0A rfl rfl rfl rfl (heA_one _ _ _ _) H4.out.2.2.1 ?_;intro w5 h5 g5))
 refine bodyPost_ret (results_S Tryz.isHeld rfl _ _ (w.heap.size+2) _ rfl rfl h5) rfl ?_
 exact⟨rfl,H4.out.2.2.2.grown g5 H4.out.2.2.2.size (fun k e=>by cases e;omega)⟩
end Go.Proofs.YtpdggofaobmnlaaGreatDoor
namespace Go.Proofs.YtpdggofaobmnlaaGreatDoor
open Go.ChangeShapes Go.WideShapes Go.ChangeAt Go.RowKit
def keyF (f:Nat→Int) (i:Int):Int:=if inI i 0 3 then f i.toNat else 0
theorem ikeyof_any (f:Nat→Int) (i:Int) (w:World):
  Calls Tryz.prog 113 #[.agg (kA f),.int .i64 i] w fun e w'=>e=.returned (.int .i64 (keyF f i))∧Below w.heap.size w w':=by
 have b1:Below w.heap.size w (w.alloc (.cells (kA f) 104)):=(Below.refl _ _).alloc (Nat.le_refl _) _
 have H1:StB (w.alloc (.cells (kA f) 104)) w.heap.size 104 (kA f):=StB.new _ _ _
 have c1:=fun wx=>iperson_any i wx
 by_cases h:0≤i∧i<4
 ·have hin:inI i 0 3=true:=by simp[inI];omega
  have HK:Hid (keyF f i=f i.toNat):=by simp[Hid,keyF,hin]
  simp only[hin]at c1
  obtain⟨j,hj,hj4⟩:∃j:Nat,i=(j:Int)∧j<4:=⟨i.toNat,by omega,by omega⟩
  subst hj
  obtain⟨y,hy⟩:∃y,y=f j:=⟨_,rfl⟩
  have hc:(w.alloc (.cells (kA f) 104)).cell? ⟨w.heap.size,j,none⟩=some (.int .i64 y):=by
   rw[hy];exact H1.cell j (kA_at f j hj4)
  have HY:Hid (y=keyF f j):=by rw[Hid,HK.out,hy];rfl
  rw[←HY.out]
  have hl:(j:Int)<4:=by omega
  clear hin hy h H1
  unfold kA at*
  go_enter Tryz.func113,Tryz.ntmps113
  go_wp2_with (first|(go_at_call 70;refine(c1 _).mono ?_;rintro e w' ⟨rfl,hw⟩;subst w'))
  go_ret
  exact⟨rfl,b1⟩
 ·have hin:inI i 0 3=false:=by simp[inI];omega
  have HK:keyF f i=0:=by simp[keyF,hin]
  rw[HK]
  simp only[hin]at c1
  clear h hin H1 HK
  unfold kA at*
  go_enter Tryz.func113,Tryz.ntmps113
  go_wp2_with (first|(go_at_call 70;refine(c1 _).mono ?_;rintro e w' ⟨rfl,hw⟩;subst w'))
  go_ret
  exact⟨rfl,b1⟩
end Go.Proofs.YtpdggofaobmnlaaGreatDoor
namespace Go.Proofs.YtpdggofaobmnlaaGreatDoor
open Go.ChangeShapes Go.WideShapes Go.ChangeAt Go.RowKit
theorem ibeside_any (f:Nat→Int) (i:Int) (w:World) (i0:0≤i) (i1:i<4):
  Calls Tryz.prog 209 #[.agg (kA f),.int .i64 i] w fun e w'=>e=.returned (.bool (anyF (updF f i.toNat 0)))∧Below w.heap.size w w':=by
 obtain⟨j,hj,hj4⟩:∃j:Nat,i=(j:Int)∧j<4:=⟨i.toNat,by omega,by omega⟩
 subst hj
 rw[Int.toNat_natCast]
 obtain⟨w1,hw1⟩:∃w1,w1=w.alloc (.cells (kA f) 104):=⟨_,rfl⟩
 have b1:Hid (Below w.heap.size w w1):=by rw[hw1];exact(Below.refl _ _).alloc (Nat.le_refl _) _
 have H1:StB w1 w.heap.size 104 (kA f):=by rw[hw1];exact StB.new _ _ _
 obtain⟨w2,hw2⟩:∃w2,w2=w1.setCell ⟨w.heap.size,j,none⟩ (.int .i64 0):=⟨_,rfl⟩
 have H2:Hid (StB w2 w.heap.size 104 (kA (updF f j 0))∧Below w.heap.size w w2):=by
  rw[hw2]
  exact⟨H1.put j _ (kA_set f 0 j hj4),b1.out.grown (grownSet w1 _ j _) b1.out.size (fun k e=>by cases e;exact Nat.le_refl _)⟩
 have hc:=H1.cell j (kA_at f j hj4)
 have hf:=H1.frozen j
 have c1:=ianyreg_any (updF f j 0) w2
 obtain⟨x,hx⟩:∃x,x=anyF (updF f j 0):=⟨_,rfl⟩
 rw[←hx]at c1⊢
 clear hx H1 b1
 rw[kA]at hw1⊢
 go_enter Tryz.func209,Tryz.ntmps209
 go_upto_region 1 with fail
 rw[←hw1]
 clear hw1
 go_upto_region 2 with fail
 rw[←hw2]
 clear hw2 hc hf
 go_wp2_with (first|(refine wpList_getK rfl _ rfl w.heap.size rfl _ H2.out.1 ?_)|(go_at_call 162;refine c1.mono ?_;rintro e w3 ⟨rfl,b3⟩))
 go_ret
 exact⟨rfl,H2.out.2.trans (b3.mono H2.out.2.size)⟩
def hasF (f:Nat→Int) (k:Int):Nat→Bool
 |0=>false
 |j+1=>hasF f k j||decide (f j=k)
theorem hasF_up (f:Nat→Int) (k:Int) (j:Nat) (hj:j<4) (h:f j=k):hasF f k 4=true:=by
 obtain rfl|rfl|rfl|rfl:j=0∨j=1∨j=2∨j=3:=by omega
 all_goals simp[hasF,h]
theorem iindex_any (f:Nat→Int) (k:Int) (g:Nat) (w:World) (hc:∀j,j<4→w.cell? ⟨g,j,none⟩=some (.int .i64 (f j))):
  Calls Tryz.prog 210 #[.slice (some ⟨g,0,none⟩) 4 4,.int .i64 k] w fun e w'=>∃x:Int,e=.returned (.int .i64 x)∧decide (0≤x)=hasF f k 4∧w'=w:=by
 go_enter Tryz.func210,Tryz.ntmps210
 go_wp2_with fail
 go_loop [8] (fun i=>∃j:Nat,j≤4∧i=.int .i64 j∧hasF f k j=false) (fun i=>(4-intOf i).toNat)
 case atStart=>exact⟨0,by omega,rfl,rfl⟩
 case round=>
  obtain⟨j,hj,rfl,hh⟩:=hrel
  have HH:Hid (hasF f k j=false):=hh
  clear hh
  by_cases hlt:(j:Int)<4
  ·have hcj:=hc j (by omega)
   obtain⟨y,hy⟩:∃y,y=f j:=⟨_,rfl⟩
   rw[←hy]at hcj
   have HY:Hid (y=f j):=hy
   clear hy
   by_cases e:k=y
   ·have HU:Hid (hasF f k 4=true):=hasF_up f k j (by omega) (by rw[←HY.out,e])
    have eb:(k==y)=true:=by simpa using e
    clear e
    go_wp2
    go_ret
    exact⟨_,rfl,by rw[HU.out];simp,rfl⟩
   ·have eb:(k==y)=false:=by simpa using e
    have HU:Hid (hasF f k (j+1)=false):=by
     rw[Hid,hasF,HH.out,←HY.out]
     simp[Ne.symm e]
    clear e
    go_wp2
    go_round
    case rel=>exact⟨j+1,by omega,by go_num,HU.out⟩
    case measure=>simp[intOf];omega
  ·go_wp2
   go_ret
   have:j=4:=by omega
   subst this
   exact⟨_,rfl,by rw[HH.out];rfl,rfl⟩
theorem icontains_any (f:Nat→Int) (k:Int) (g:Nat) (w:World) (hc:∀j,j<4→w.cell? ⟨g,j,none⟩=some (.int .i64 (f j))):
  Calls Tryz.prog 208 #[.slice (some ⟨g,0,none⟩) 4 4,.int .i64 k] w fun e w'=>e=.returned (.bool (hasF f k 4))∧w'=w:=by
 have c1:=iindex_any f k g w hc
 clear hc
 go_enter Tryz.func208,Tryz.ntmps208
 go_wp2_with fail
 refine c1.mono ?_
 rintro e w' ⟨x,rfl,hx,hw⟩
 subst w'
 have HX:Hid (decide (0≤x)=hasF f k 4):=hx
 clear hx
 go_wp2
 go_ret
 exact⟨ret_bool (by rw[←HX.out]),rfl⟩
def takenI (f:Nat→Int) (kd ho i d:Int):Bool:=strI f i||((kd !=0)&&((kd !=d)|| !holdsF f kd ho i))
theorem itaken_any (f:Nat→Int) (kd ho tu i k d:Int) (w:World):
  Calls Tryz.prog 195 #[.agg (heA f kd ho tu),.agg (wiA i k d)] w fun e w'=>e=.returned (.bool (takenI f kd ho i d))∧Below w.heap.size w w':=by
 obtain⟨w1,hw1⟩:∃w1,w1=(w.alloc (.cells (heA f kd ho tu) 106)).alloc (.cells (wiA i k d) 209):=⟨_,rfl⟩
 have HS:Hid (HW2 w w1 f kd ho tu i k d):=by rw[hw1];exact HW2.start _ _ _ _ _ _ _ _
 have c1:=istrange_any f kd ho tu i k d w1
 have c2:=fun wx=>iheldholds_any f kd ho tu i wx
 have HE:Hid (takenI f kd ho i d=(strI f i||((kd !=0)&&((kd !=d)|| !holdsF f kd ho i)))):=rfl
 obtain⟨x,hx⟩:∃x,x=strI f i:=⟨_,rfl⟩
 obtain⟨y,hy⟩:∃y,y=holdsF f kd ho i:=⟨_,rfl⟩
 obtain⟨r,hr⟩:∃r,r=takenI f kd ho i d:=⟨_,rfl⟩
 rw[←hr,←hx,←hy]at HE
 rw[←hr]
 rw[←hx]at c1
 simp only[←hy]at c2
 clear hx hy hr
 obtain⟨a0,ha0⟩:∃a0,a0=(kd !=0):=⟨_,rfl⟩
 obtain⟨a1,ha1⟩:∃a1,a1=(kd !=d):=⟨_,rfl⟩
 rw[←ha0,←ha1]at HE
 rw[heA,wiA]at hw1 c1⊢
 unfold heA at c2
 go_enter Tryz.func195,Tryz.ntmps195
 go_wp2_with fail
 rw[←hw1]
 refine c1.mono ?_
 rintro e w2 ⟨rfl,b2⟩
 have HS2:Hid (HW2 w w2 f kd ho tu i k d):=HS.out.next b2
 obtain⟨m0,m1,m2,m3,m4,m5,m6⟩:=heA_cells HS2.out.1
 obtain⟨p0,p1,p2⟩:=wiA_cells HS2.out.2.1
 clear b2 c1 HS hw1
 cases x with
 |true=>
  clear c2 ha0 ha1
  go_wp2
  go_ret
  exact⟨ret_bool (by rw[HE.out];simp),HS2.out.2.2⟩
 |false=>
  cases a0 with
  |false=>
   have k0:(kd !=0)=false:=ha0.symm
   clear c2 ha1 ha0
   go_wp2
   go_ret
   exact⟨ret_bool (by rw[HE.out];simp),HS2.out.2.2⟩
  |true=>
   have k0:(kd !=0)=true:=ha0.symm
   clear ha0
   cases a1 with
   |true=>
    have k1:(kd !=d)=true:=ha1.symm
    clear c2 ha1
    go_wp2
    go_ret
    exact⟨ret_bool (by rw[HE.out];simp),HS2.out.2.2⟩
   |false=>
    have k1:(kd !=d)=false:=ha1.symm
    clear ha1
    go_wp2_with (first|(go_at_call 142;refine(c2 _).mono ?_;rintro e w3 ⟨rfl,b3⟩))
    go_ret
    exact⟨ret_bool (by rw[HE.out];simp),HS2.out.2.2.trans (b3.mono HS2.out.2.2.size)⟩
end Go.Proofs.YtpdggofaobmnlaaGreatDoor
namespace Go.Proofs.YtpdggofaobmnlaaGreatDoor
open Go.ChangeShapes Go.WideShapes Go.ChangeAt Go.RowKit
def lacksI (f:Nat→Int) (i k:Int):Bool:=strI f i|| !hasF f k 4
theorem heA_at {w:World} {g:Nat} {f:Nat→Int} {kd ho tu:Int} (h:StB w g 106 (heA f kd ho tu)):∀j,j<4→w.cell? ⟨g,j,none⟩=some (.int .i64 (f j)):=
 four (h.cell 0 rfl) (h.cell 1 rfl) (h.cell 2 rfl) (h.cell 3 rfl)
theorem heA_set (f:Nat→Int) (kd ho tu x:Int):∀j,j<4→(heA f kd ho tu).setIfInBounds j (.int .i64 x)=heA (updF f j x) kd ho tu:=four rfl rfl rfl rfl
theorem ilacks_any (f:Nat→Int) (kd ho tu i k d:Int) (w:World):
  Calls Tryz.prog 202 #[.agg (heA f kd ho tu),.agg (wiA i k d)] w fun e w'=>e=.returned (.bool (lacksI f i k))∧Below w.heap.size w w':=by
 obtain⟨w1,hw1⟩:∃w1,w1=(w.alloc (.cells (heA f kd ho tu) 106)).alloc (.cells (wiA i k d) 209):=⟨_,rfl⟩
 have HS:Hid (HW2 w w1 f kd ho tu i k d):=by rw[hw1];exact HW2.start _ _ _ _ _ _ _ _
 have HD:Hid (HW2 w w1.drew f kd ho tu i k d):=HS.out.drew
 have c1:=fun wx=>istrange_any f kd ho tu i k d wx
 have c2:∀wx:World,(∀j,j<4→wx.cell? ⟨w.heap.size,j,none⟩=some (Value.int .i64 (f j)))→_:=fun wx h=>icontains_any f k w.heap.size wx h
 have HE:Hid (lacksI f i k=(strI f i|| !hasF f k 4)):=rfl
 obtain⟨x,hx⟩:∃x,x=strI f i:=⟨_,rfl⟩
 obtain⟨y,hy⟩:∃y,y=hasF f k 4:=⟨_,rfl⟩
 obtain⟨r,hr⟩:∃r,r=lacksI f i k:=⟨_,rfl⟩
 rw[←hr,←hx,←hy]at HE
 rw[←hr]
 simp only[←hx]at c1
 simp only[←hy]at c2
 clear hx hy hr
 obtain⟨p,hp⟩:∃p,p=fun x=>HW2 w x f kd ho tu i k d:=⟨_,rfl⟩
 have HP:Hid (∀x,p x→HW2 w x f kd ho tu i k d):=by rw[hp];exact fun _ h=>h
 have HN:Hid (∀x w',p x→Below x.heap.size x w'→p w'):=by rw[hp];exact fun _ _ h b=>h.next b
 have H0:Hid (p w1.drew):=by rw[hp];exact HD.out
 have hne:Nonempty (Kin p):=⟨⟨_,H0.out⟩⟩
 have m0:∀q:Kin p,q.x.cell? ⟨w.heap.size,0,none⟩=some (.int .i64 (f 0)):=fun q=>(HP.out _ q.h).1.cell 0 rfl
 have m1:∀q:Kin p,q.x.cell? ⟨w.heap.size,1,none⟩=some (.int .i64 (f 1)):=fun q=>(HP.out _ q.h).1.cell 1 rfl
 have m2:∀q:Kin p,q.x.cell? ⟨w.heap.size,2,none⟩=some (.int .i64 (f 2)):=fun q=>(HP.out _ q.h).1.cell 2 rfl
 have m3:∀q:Kin p,q.x.cell? ⟨w.heap.size,3,none⟩=some (.int .i64 (f 3)):=fun q=>(HP.out _ q.h).1.cell 3 rfl
 have m4:∀q:Kin p,q.x.cell? ⟨w.heap.size,4,none⟩=some (.int .i64 kd):=fun q=>(HP.out _ q.h).1.cell 4 rfl
 have m5:∀q:Kin p,q.x.cell? ⟨w.heap.size,5,none⟩=some (.int .i64 ho):=fun q=>(HP.out _ q.h).1.cell 5 rfl
 have m6:∀q:Kin p,q.x.cell? ⟨w.heap.size,6,none⟩=some (.int .i64 tu):=fun q=>(HP.out _ q.h).1.cell 6 rfl
 have p0:∀q:Kin p,q.x.cell? ⟨w.heap.size+1,0,none⟩=some (.int .i64 i):=fun q=>(HP.out _ q.h).2.1.cell 0 rfl
 have p1:∀q:Kin p,q.x.cell? ⟨w.heap.size+1,1,none⟩=some (.int .i64 k):=fun q=>(HP.out _ q.h).2.1.cell 1 rfl
 have p2:∀q:Kin p,q.x.cell? ⟨w.heap.size+1,2,none⟩=some (.int .i64 d):=fun q=>(HP.out _ q.h).2.1.cell 2 rfl
 unfold heA wiA at c1
 rw[heA,wiA]at hw1⊢
 go_enter Tryz.func202,Tryz.ntmps202
 go_upto_region 1 with fail
 rw[←hw1]
 clear hw1 HS hp
 have C2:Hid (∀q:Kin p,_):=fun q=>c2 q.x (heA_at (HP.out _ q.h).1)
 clear c2
 cases x with
 |true=>
  refine wp_region_kin p (by kernel_rfl) (by kernel_rfl) H0.out ?_
  repeat(quiet_step (first|(go_at_call 198;exact Kin.call (c1 _) HN.out)))
  refine wpQuiet_nil ?_
  intro w2 hw'
  have H2:p w2:=by{obtain⟨q,rfl⟩:=hw';exact q.h}
  clear hw'
  go_wp2
  go_ret
  exact⟨ret_bool (by rw[HE.out];simp),(HP.out _ H2).2.2⟩
 |false=>
  refine wp_region_kin p (by kernel_rfl) (by kernel_rfl) H0.out ?_
  repeat(quiet_step (first|(go_at_call 198;exact Kin.call (c1 _) HN.out)|(go_at_call 208;exact Kin.same (C2.out _))))
  refine wpQuiet_nil ?_
  intro w2 hw'
  have H2:p w2:=by{obtain⟨q,rfl⟩:=hw';exact q.h}
  clear hw'
  go_wp2
  go_ret
  exact⟨ret_bool (by rw[HE.out];simp),(HP.out _ H2).2.2⟩
theorem irekeyed_any (f:Nat→Int) (kd ho tu i k d:Int) (w:World) (t0:0≤tu) (t1:tu≤1000000000) (i0:0≤i) (i1:i<4):
  Calls Tryz.prog 193 #[.agg (heA f kd ho tu),.agg (wiA i k d)] w fun e w'=>e=.returned (.agg (heA (updF f i.toNat k) (if midF (updF f i.toNat k) kd ho then kd else 0) (if midF (updF f i.toNat k) kd ho then ho else-1) (turnI tu)))∧Below w.heap.size w w':=by
 obtain⟨j,hj,hj4⟩:∃j:Nat,i=(j:Int)∧j<4:=⟨i.toNat,by omega,by omega⟩
 subst hj
 rw[Int.toNat_natCast]
 obtain⟨w1,hw1⟩:∃w1,w1=((w.alloc (.cells (heA f kd ho tu) 106)).alloc (.cells (wiA j k d) 209)).alloc (.cells he0A 106):=⟨_,rfl⟩
 have HS:Hid (HW w w1 f kd ho tu j k d):=by rw[hw1];exact HW.start _ _ _ _ _ _ _ _
 obtain⟨w2,hw2⟩:∃w2,w2=w1.setCell ⟨w.heap.size,j,none⟩ (.int .i64 k):=⟨_,rfl⟩
 have H2:Hid (HW w w2 (updF f j k) kd ho tu j k d):=by rw[hw2];exact HS.out.put j k (heA_set f kd ho tu k j hj4)
 obtain⟨p0,p1,p2⟩:=wiA_cells HS.out.2.1
 have hc:=heA_at HS.out.1 j hj4
 have hf:=HS.out.1.frozen j
 obtain⟨g,hg⟩:∃g,g=updF f j k:=⟨_,rfl⟩
 rw[←hg]at H2⊢
 have c1:=fun wx=>iholderok_any g kd ho tu wx
 have c2:=fun wx=>iunheld_any g kd ho tu wx
 have c3:=fun wx=>iturned_any g kd ho tu wx t0 t1
 have c4:=fun wx=>iturned_any g 0 (-1) tu wx t0 t1
 obtain⟨x,hx⟩:∃x,x=midF g kd ho:=⟨_,rfl⟩
 rw[←hx]
 simp only[←hx]at c1
 have hl:(j:Int)<4:=by omega
 clear hx hg HS t0 t1 i0 i1 hj4
 rw[heA,wiA,he0A,heA]at hw1
 conv in heA f kd ho tu=>unfold heA
 rw[wiA]
 go_enter Tryz.func193,Tryz.ntmps193
 go_upto_region 1 with fail
 rw[←hw1]
 clear hw1
 go_upto_region 2 with fail
 rw[←hw2]
 clear hw2 p0 p1 p2 hc hf
 cases x with
 |true=>
  clear c2 c4
  go_wp2_with (first|(refine wpList_getS Tryz.isHeld rfl _ rfl w.heap.size rfl (heA g kd ho tu) rfl H3.out.1 ?_)|(refine wpList_getS Tryz.isHeld rfl _ rfl w.heap.size rfl (heA g kd ho tu) rfl H2.out.1 ?_)|(go_at_call 138;refine(c1 _).mono ?_;rintro e w3 ⟨rfl,b3⟩;have H3:Hid (HW w w3 g kd ho tu j k d):=H2.out.next b3;clear b3)|(go_at_call 207;refine(c3 _).mono ?_;rintro e w4 ⟨rfl,b4⟩;have H4:Hid (HW w w4 g kd ho tu j k d):=H3.out.next b4;clear b4)|(refine wpList_putS Tryz.isHeld rfl _ _ rfl (w.heap.size+2) (heA g kd ho (turnI tu)) he0A rfl rfl rfl rfl (heA_one _ _ _ _) H4.out.2.2.1 ?_;intro w5 h5 g5))
  refine bodyPost_ret (results_S Tryz.isHeld rfl _ _ (w.heap.size+2) _ rfl rfl h5) rfl ?_
  exact⟨rfl,H4.out.2.2.2.grown g5 H4.out.2.2.2.size (fun k e=>by cases e;omega)⟩
 |false=>
  clear c3
  go_upto_region 3 with(first|(refine wpList_getS Tryz.isHeld rfl _ rfl w.heap.size rfl (heA g kd ho tu) rfl H2.out.1 ?_)|(go_at_call 138;refine(c1 _).mono ?_;rintro e w3 ⟨rfl,b3⟩;have H3:Hid (HW w w3 g kd ho tu j k d):=H2.out.next b3;clear b3))
  clear H2 c1
  go_upto_region 4 with(first|(refine wpList_getS Tryz.isHeld rfl _ rfl w.heap.size rfl (heA g kd ho tu) rfl H3.out.1 ?_)|(go_at_call 206;refine(c2 _).mono ?_;rintro e w4 ⟨rfl,b4⟩;have H4:Hid (HW w w4 g kd ho tu j k d):=H3.out.next b4;clear b4)|(refine wpList_putS Tryz.isHeld rfl _ _ rfl w.heap.size (heA g 0 (-1) tu) (heA g kd ho tu) rfl rfl rfl rfl (heA_one _ _ _ _) H4.out.1 ?_;intro w5 h5 g5;have H5:Hid (HW w w5 g 0 (-1) tu j k d):=H4.out.set h5 g5;clear h5 g5))
  clear H3 H4 c2
  go_wp2_with (first|(refine wpList_getS Tryz.isHeld rfl _ rfl w.heap.size rfl (heA g 0 (-1) tu) rfl H5.out.1 ?_)|(go_at_call 207;refine(c4 _).mono ?_;rintro e w6 ⟨rfl,b6⟩;have H6:Hid (HW w w6 g 0 (-1) tu j k d):=H5.out.next b6;clear b6)|(refine wpList_putS Tryz.isHeld rfl _ _ rfl (w.heap.size+2) (heA g 0 (-1) (turnI tu)) he0A rfl rfl rfl rfl (heA_one _ _ _ _) H6.out.2.2.1 ?_;intro w7 h7 g7))
  refine bodyPost_ret (results_S Tryz.isHeld rfl _ _ (w.heap.size+2) _ rfl rfl h7) rfl ?_
  exact⟨rfl,H6.out.2.2.2.grown g7 H6.out.2.2.2.size (fun k e=>by cases e;omega)⟩
end Go.Proofs.YtpdggofaobmnlaaGreatDoor
