import Derived.Test.YtpdggofaobmnlaaGreatDoorM9
import Derived.Test.YtpdggofaobmnlaaGreatDoorM12
/- What the laws on commands draw: l6Draw, l6DrawAny, DrawCmdOk, DrawShowCmd, DrawChanges. -/
set_option maxRecDepth 20000
set_option maxHeartbeats 8000000
namespace Go.Proofs.YtpdggofaobmnlaaGreatDoor
open Go.ChangeShapes Go.WideShapes Go.ChangeAt Go.RowKit
theorem grownSetC (w:World) (g j:Nat) (x:Value):w.grownBy (w.setCell ⟨g,j,none⟩ x) (some g):=
 ⟨rfl,rfl,rfl,by simp,fun k _ hk=>heap_setCell_other w ⟨g,j,none⟩ k x (fun e=>hk (by simp[e]))⟩
theorem grown_of_belowC {w w':World} (h:Below w.heap.size w w') (row:Option Nat):w.grownBy w' row:=⟨h.os,h.tape,h.output,h.size,fun k hk _=>h.block k hk⟩
def DC (w wx:World) (B c g k:Nat) (r:Cm):Prop:=
 Cur wx B c∧w.grownBy wx (some c)∧CmB wx g 32 Cm.zero∧CmB wx k 32 r∧w.heap.size≤g∧g<k∧c<w.heap.size∧B≤w.heap.size
theorem DC.draw {w wx wy:World} {B c g k:Nat} {r:Cm} (h:DC w wx B c g k r) (C:Cur wy B c) (G:wx.grownBy wy (some c)):DC w wy B c g k r:=
 ⟨C,h.2.1.trans G,h.2.2.1.kept G (by intro e;have:=Option.some.inj e;have:=h.2.2.2.2;omega),h.2.2.2.1.kept G (by intro e;have:=Option.some.inj e;have:=h.2.2.2.2;omega),h.2.2.2.2⟩
theorem DC.alloc {w wx:World} {B c g k:Nat} {r:Cm} (h:DC w wx B c g k r) (x:Obj):DC w (wx.alloc x) B c g k r:=
 ⟨h.1.kept (World.grownBy_alloc wx x none) (by simp) (by simp),h.2.1.trans (World.grownBy_alloc wx x _),h.2.2.1.alloc x,h.2.2.2.1.alloc x,h.2.2.2.2⟩
theorem CmB.put {w:World} {g:Nat} {t:TypeId} {r:Cm} (h:CmB w g t r) (j:Nat) (x:Int) (q:Cm) (e:(cmA r).setIfInBounds j (.int .i64 x)=cmA q):CmB (w.setCell ⟨g,j,none⟩ (.int .i64 x)) g t q:=by
 have:=heap_setCell_same w g j _ _ (.int .i64 x) h
 rw[e]at this
 exact this
theorem DC.put {w wx:World} {B c g k:Nat} {r:Cm} (h:DC w wx B c g k r) (j:Nat) (x:Int) (q:Cm) (e:(cmA r).setIfInBounds j (.int .i64 x)=cmA q):DC w (wx.setCell ⟨k,j,none⟩ (.int .i64 x)) B c g k q:=
 have G:=grownSetC wx k j (.int .i64 x)
 ⟨h.1.kept G (by intro e;have:=Option.some.inj e;have:=h.2.2.2.2;omega) (fun y e=>by cases e;have:=h.2.2.2.2;omega),grown_ownU h.2.1 G (fun y e=>by cases e;have:=h.2.2.2.2;omega),h.2.2.1.kept G (by intro e;have:=Option.some.inj e;have:=h.2.2.2.2;omega),h.2.2.2.1.put j x q e,h.2.2.2.2⟩
theorem DC.fin {w wx wy:World} {B c g k:Nat} {r:Cm} (h:DC w wx B c g k r) (G:wx.grownBy wy (some g)):Cur wy B c∧w.grownBy wy (some c):=
 ⟨h.1.kept G (by intro e;have:=Option.some.inj e;have:=h.2.2.2.2;omega) (fun x e=>by cases e;have:=h.2.2.2.2;omega),grown_ownU h.2.1 G (fun x e=>by cases e;have:=h.2.2.2.2;omega)⟩
def D0 (w wx:World) (B c g:Nat):Prop:=Cur wx B c∧w.grownBy wx (some c)∧CmB wx g 32 Cm.zero∧w.heap.size≤g∧c<w.heap.size∧B≤w.heap.size
theorem D0.start {w:World} {B c:Nat} (h:Cur w B c):D0 w (w.alloc (.cells (cmA Cm.zero) 32)) B c w.heap.size:=
 ⟨h.kept (World.grownBy_alloc w _ none) (by simp) (by simp),World.grownBy_alloc w _ _,CmB.new w _ _,Nat.le_refl _,h.lt.2,by have:=h.lt;omega⟩
theorem D0.draw {w wx wy:World} {B c g:Nat} (h:D0 w wx B c g) (C:Cur wy B c) (G:wx.grownBy wy (some c)):D0 w wy B c g:=
 ⟨C,h.2.1.trans G,h.2.2.1.kept G (by intro e;have:=Option.some.inj e;have:=h.2.2.2;omega),h.2.2.2⟩
theorem D0.box {w wx:World} {B c g:Nat} (h:D0 w wx B c g) (r:Cm):DC w (wx.alloc (.cells (cmA r) 32)) B c g wx.heap.size r:=
 ⟨h.1.kept (World.grownBy_alloc wx _ none) (by simp) (by simp),h.2.1.trans (World.grownBy_alloc wx _ _),h.2.2.1.alloc _,CmB.new wx _ r,h.2.2.2.1,h.2.2.1.lt,h.2.2.2.2⟩
theorem l6draw_any (B c:Nat) (w:World) (h:Cur w B c):
  Calls Tryz.prog 68 #[.pointer (some ⟨c,0,none⟩)] w fun e w'=>∃r,e=.returned (CV r)∧r.Byt∧Cur w' B c∧w.grownBy w' (some c):=by
 have H0:Hid (D0 w (w.alloc (.cells (cmA Cm.zero) 32)) B c w.heap.size):=D0.start h
 clear h
 go_enter Tryz.func68,Tryz.ntmps68
 go_wp2_with fail
 refine(below_any B c 12 _ H0.out.1 (by omega)).mono ?_
 rintro e w1 ⟨x1,rfl,l1,u1, -,C1,G1⟩
 have y1:=u1 (by omega)
 have H1:Hid (D0 w w1 B c w.heap.size):=H0.out.draw C1 G1
 clear u1 C1 G1 H0
 have hgk:w.heap.size<w1.heap.size:=H1.out.2.2.1.lt
 have hne:w.heap.size≠w1.heap.size:=by omega
 have H2:Hid (DC w (w1.alloc (.cells #[.int .i64 (1+x1),.int .i64 0,.int .i64 0,.int .i64 0,.int .i64 0] 32)) B c w.heap.size w1.heap.size ⟨1+x1,0,0,0,0⟩):=H1.out.box ⟨1+x1,0,0,0,0⟩
 clear H1
 go_wp2_with fail
 refine(once_any B c 3 _ H2.out.1 (by omega)).mono ?_
 rintro e w2 ⟨b,rfl,C2,G2⟩
 have H3:Hid (DC w w2 B c w.heap.size w1.heap.size ⟨1+x1,0,0,0,0⟩):=H2.out.draw C2 G2
 clear C2 G2 H2
 have hk2:w1.heap.size<w2.heap.size:=H3.out.2.2.2.1.lt
 cases b with
 |false=>
  obtain rfl|rfl|rfl|rfl|rfl|rfl|rfl|rfl|rfl|rfl|rfl|rfl:x1=0∨x1=1∨x1=2∨x1=3∨x1=4∨x1=5∨x1=6∨x1=7∨x1=8∨x1=9∨x1=10∨x1=11:=by omega
  ·replace H3:Hid (DC w w2 B c w.heap.size w1.heap.size ⟨1,0,0,0,0⟩):=H3
   have kc:w2.cell? ⟨w1.heap.size,0,none⟩=some (.int .i64 1):=H3.out.2.2.2.1.cell 0 rfl
   clear l1 y1
   go_wp2_with fail
   refine(below_any B c 5 _ H3.out.1 (by omega)).mono ?_
   rintro e v4 ⟨x4,rfl,l4,u4, -,C4,G4⟩
   have y4:=u4 (by omega)
   have H4:Hid (DC w v4 B c w.heap.size w1.heap.size ⟨1,0,0,0,0⟩):=H3.out.draw C4 G4
   clear u4 C4 G4 H3
   have k4:v4.cell? ⟨w1.heap.size,1,none⟩=some (.int .i64 0):=H4.out.2.2.2.1.cell 1 rfl
   have f4:=H4.out.2.2.2.1.frozen 1
   have s4:=H4.out.2.2.2.1.lt
   have J4:Hid (DC w (v4.setCell ⟨w1.heap.size,1,none⟩ (.int .i64 x4)) B c w.heap.size w1.heap.size ⟨1,x4,0,0,0⟩):=H4.out.put 1 x4 ⟨1,x4,0,0,0⟩ rfl
   clear H4
   have q5:CmB (v4.setCell ⟨w1.heap.size,1,none⟩ (.int .i64 x4)) w1.heap.size 32 ⟨1,x4,0,0,0⟩:=J4.out.2.2.2.1
   have z5:CmB (v4.setCell ⟨w1.heap.size,1,none⟩ (.int .i64 x4)) w.heap.size 32 Cm.zero:=J4.out.2.2.1
   have hf:Hid ((⟨1,x4,0,0,0⟩:Cm).Byt):=by unfold Hid Cm.Byt;dsimp only;omega
   go_wp2_with (first|(refine wpList_getC rfl _ rfl w1.heap.size rfl ⟨1,x4,0,0,0⟩ q5 ?_)|(refine wpList_putC rfl _ _ rfl w.heap.size ⟨1,x4,0,0,0⟩ Cm.zero rfl rfl z5 ?_;intro we Re Ge))
   refine bodyPost_ret (results_C rfl _ _ w.heap.size _ rfl Re) rfl ?_
   exact⟨_,rfl,hf.out,J4.out.fin Ge⟩
  ·replace H3:Hid (DC w w2 B c w.heap.size w1.heap.size ⟨2,0,0,0,0⟩):=H3
   have kc:w2.cell? ⟨w1.heap.size,0,none⟩=some (.int .i64 2):=H3.out.2.2.2.1.cell 0 rfl
   clear l1 y1
   go_wp2_with fail
   refine(below_any B c 5 _ H3.out.1 (by omega)).mono ?_
   rintro e v4 ⟨x4,rfl,l4,u4, -,C4,G4⟩
   have y4:=u4 (by omega)
   have H4:Hid (DC w v4 B c w.heap.size w1.heap.size ⟨2,0,0,0,0⟩):=H3.out.draw C4 G4
   clear u4 C4 G4 H3
   have k4:v4.cell? ⟨w1.heap.size,1,none⟩=some (.int .i64 0):=H4.out.2.2.2.1.cell 1 rfl
   have f4:=H4.out.2.2.2.1.frozen 1
   have s4:=H4.out.2.2.2.1.lt
   have J4:Hid (DC w (v4.setCell ⟨w1.heap.size,1,none⟩ (.int .i64 x4)) B c w.heap.size w1.heap.size ⟨2,x4,0,0,0⟩):=H4.out.put 1 x4 ⟨2,x4,0,0,0⟩ rfl
   clear H4
   go_wp2_with fail
   refine(below_any B c 6 _ J4.out.1 (by omega)).mono ?_
   rintro e v5 ⟨x5,rfl,l5,u5, -,C5,G5⟩
   have y5:=u5 (by omega)
   have H5:Hid (DC w v5 B c w.heap.size w1.heap.size ⟨2,x4,0,0,0⟩):=J4.out.draw C5 G5
   clear u5 C5 G5 J4 k4 f4 s4
   have k5:v5.cell? ⟨w1.heap.size,2,none⟩=some (.int .i64 0):=H5.out.2.2.2.1.cell 2 rfl
   have f5:=H5.out.2.2.2.1.frozen 2
   have s5:=H5.out.2.2.2.1.lt
   have J5:Hid (DC w (v5.setCell ⟨w1.heap.size,2,none⟩ (.int .i64 x5)) B c w.heap.size w1.heap.size ⟨2,x4,x5,0,0⟩):=H5.out.put 2 x5 ⟨2,x4,x5,0,0⟩ rfl
   clear H5
   have q6:CmB (v5.setCell ⟨w1.heap.size,2,none⟩ (.int .i64 x5)) w1.heap.size 32 ⟨2,x4,x5,0,0⟩:=J5.out.2.2.2.1
   have z6:CmB (v5.setCell ⟨w1.heap.size,2,none⟩ (.int .i64 x5)) w.heap.size 32 Cm.zero:=J5.out.2.2.1
   have hf:Hid ((⟨2,x4,x5,0,0⟩:Cm).Byt):=by unfold Hid Cm.Byt;dsimp only;omega
   go_wp2_with (first|(refine wpList_getC rfl _ rfl w1.heap.size rfl ⟨2,x4,x5,0,0⟩ q6 ?_)|(refine wpList_putC rfl _ _ rfl w.heap.size ⟨2,x4,x5,0,0⟩ Cm.zero rfl rfl z6 ?_;intro we Re Ge))
   refine bodyPost_ret (results_C rfl _ _ w.heap.size _ rfl Re) rfl ?_
   exact⟨_,rfl,hf.out,J5.out.fin Ge⟩
  ·replace H3:Hid (DC w w2 B c w.heap.size w1.heap.size ⟨3,0,0,0,0⟩):=H3
   have kc:w2.cell? ⟨w1.heap.size,0,none⟩=some (.int .i64 3):=H3.out.2.2.2.1.cell 0 rfl
   clear l1 y1
   go_wp2_with fail
   refine(below_any B c 4 _ H3.out.1 (by omega)).mono ?_
   rintro e v4 ⟨x4,rfl,l4,u4, -,C4,G4⟩
   have y4:=u4 (by omega)
   have H4:Hid (DC w v4 B c w.heap.size w1.heap.size ⟨3,0,0,0,0⟩):=H3.out.draw C4 G4
   clear u4 C4 G4 H3
   have k4:v4.cell? ⟨w1.heap.size,1,none⟩=some (.int .i64 0):=H4.out.2.2.2.1.cell 1 rfl
   have f4:=H4.out.2.2.2.1.frozen 1
   have s4:=H4.out.2.2.2.1.lt
   have J4:Hid (DC w (v4.setCell ⟨w1.heap.size,1,none⟩ (.int .i64 x4)) B c w.heap.size w1.heap.size ⟨3,x4,0,0,0⟩):=H4.out.put 1 x4 ⟨3,x4,0,0,0⟩ rfl
   clear H4
   go_wp2_with fail
   refine(below_any B c 4 _ J4.out.1 (by omega)).mono ?_
   rintro e v5 ⟨x5,rfl,l5,u5, -,C5,G5⟩
   have y5:=u5 (by omega)
   have H5:Hid (DC w v5 B c w.heap.size w1.heap.size ⟨3,x4,0,0,0⟩):=J4.out.draw C5 G5
   clear u5 C5 G5 J4 k4 f4 s4
   have k5:v5.cell? ⟨w1.heap.size,2,none⟩=some (.int .i64 0):=H5.out.2.2.2.1.cell 2 rfl
   have f5:=H5.out.2.2.2.1.frozen 2
   have s5:=H5.out.2.2.2.1.lt
   have J5:Hid (DC w (v5.setCell ⟨w1.heap.size,2,none⟩ (.int .i64 x5)) B c w.heap.size w1.heap.size ⟨3,x4,x5,0,0⟩):=H5.out.put 2 x5 ⟨3,x4,x5,0,0⟩ rfl
   clear H5
   go_wp2_with fail
   refine(below_any B c 6 _ J5.out.1 (by omega)).mono ?_
   rintro e v6 ⟨x6,rfl,l6,u6, -,C6,G6⟩
   have y6:=u6 (by omega)
   have H6:Hid (DC w v6 B c w.heap.size w1.heap.size ⟨3,x4,x5,0,0⟩):=J5.out.draw C6 G6
   clear u6 C6 G6 J5 k5 f5 s5
   have k6:v6.cell? ⟨w1.heap.size,3,none⟩=some (.int .i64 0):=H6.out.2.2.2.1.cell 3 rfl
   have f6:=H6.out.2.2.2.1.frozen 3
   have s6:=H6.out.2.2.2.1.lt
   have J6:Hid (DC w (v6.setCell ⟨w1.heap.size,3,none⟩ (.int .i64 x6)) B c w.heap.size w1.heap.size ⟨3,x4,x5,x6,0⟩):=H6.out.put 3 x6 ⟨3,x4,x5,x6,0⟩ rfl
   clear H6
   have q7:CmB (v6.setCell ⟨w1.heap.size,3,none⟩ (.int .i64 x6)) w1.heap.size 32 ⟨3,x4,x5,x6,0⟩:=J6.out.2.2.2.1
   have z7:CmB (v6.setCell ⟨w1.heap.size,3,none⟩ (.int .i64 x6)) w.heap.size 32 Cm.zero:=J6.out.2.2.1
   have hf:Hid ((⟨3,x4,x5,x6,0⟩:Cm).Byt):=by unfold Hid Cm.Byt;dsimp only;omega
   go_wp2_with (first|(refine wpList_getC rfl _ rfl w1.heap.size rfl ⟨3,x4,x5,x6,0⟩ q7 ?_)|(refine wpList_putC rfl _ _ rfl w.heap.size ⟨3,x4,x5,x6,0⟩ Cm.zero rfl rfl z7 ?_;intro we Re Ge))
   refine bodyPost_ret (results_C rfl _ _ w.heap.size _ rfl Re) rfl ?_
   exact⟨_,rfl,hf.out,J6.out.fin Ge⟩
  ·replace H3:Hid (DC w w2 B c w.heap.size w1.heap.size ⟨4,0,0,0,0⟩):=H3
   have kc:w2.cell? ⟨w1.heap.size,0,none⟩=some (.int .i64 4):=H3.out.2.2.2.1.cell 0 rfl
   clear l1 y1
   go_wp2_with fail
   refine(below_any B c 5 _ H3.out.1 (by omega)).mono ?_
   rintro e v4 ⟨x4,rfl,l4,u4, -,C4,G4⟩
   have y4:=u4 (by omega)
   have H4:Hid (DC w v4 B c w.heap.size w1.heap.size ⟨4,0,0,0,0⟩):=H3.out.draw C4 G4
   clear u4 C4 G4 H3
   have k4:v4.cell? ⟨w1.heap.size,1,none⟩=some (.int .i64 0):=H4.out.2.2.2.1.cell 1 rfl
   have f4:=H4.out.2.2.2.1.frozen 1
   have s4:=H4.out.2.2.2.1.lt
   have J4:Hid (DC w (v4.setCell ⟨w1.heap.size,1,none⟩ (.int .i64 x4)) B c w.heap.size w1.heap.size ⟨4,x4,0,0,0⟩):=H4.out.put 1 x4 ⟨4,x4,0,0,0⟩ rfl
   clear H4
   have q5:CmB (v4.setCell ⟨w1.heap.size,1,none⟩ (.int .i64 x4)) w1.heap.size 32 ⟨4,x4,0,0,0⟩:=J4.out.2.2.2.1
   have z5:CmB (v4.setCell ⟨w1.heap.size,1,none⟩ (.int .i64 x4)) w.heap.size 32 Cm.zero:=J4.out.2.2.1
   have hf:Hid ((⟨4,x4,0,0,0⟩:Cm).Byt):=by unfold Hid Cm.Byt;dsimp only;omega
   go_wp2_with (first|(refine wpList_getC rfl _ rfl w1.heap.size rfl ⟨4,x4,0,0,0⟩ q5 ?_)|(refine wpList_putC rfl _ _ rfl w.heap.size ⟨4,x4,0,0,0⟩ Cm.zero rfl rfl z5 ?_;intro we Re Ge))
   refine bodyPost_ret (results_C rfl _ _ w.heap.size _ rfl Re) rfl ?_
   exact⟨_,rfl,hf.out,J4.out.fin Ge⟩
  ·replace H3:Hid (DC w w2 B c w.heap.size w1.heap.size ⟨5,0,0,0,0⟩):=H3
   have kc:w2.cell? ⟨w1.heap.size,0,none⟩=some (.int .i64 5):=H3.out.2.2.2.1.cell 0 rfl
   clear l1 y1
   have q4:CmB w2 w1.heap.size 32 ⟨5,0,0,0,0⟩:=H3.out.2.2.2.1
   have z4:CmB w2 w.heap.size 32 Cm.zero:=H3.out.2.2.1
   have hf:Hid ((⟨5,0,0,0,0⟩:Cm).Byt):=by unfold Hid Cm.Byt;dsimp only;omega
   go_wp2_with (first|(refine wpList_getC rfl _ rfl w1.heap.size rfl ⟨5,0,0,0,0⟩ q4 ?_)|(refine wpList_putC rfl _ _ rfl w.heap.size ⟨5,0,0,0,0⟩ Cm.zero rfl rfl z4 ?_;intro we Re Ge))
   refine bodyPost_ret (results_C rfl _ _ w.heap.size _ rfl Re) rfl ?_
   exact⟨_,rfl,hf.out,H3.out.fin Ge⟩
  ·replace H3:Hid (DC w w2 B c w.heap.size w1.heap.size ⟨6,0,0,0,0⟩):=H3
   have kc:w2.cell? ⟨w1.heap.size,0,none⟩=some (.int .i64 6):=H3.out.2.2.2.1.cell 0 rfl
   clear l1 y1
   go_wp2_with fail
   refine(below_any B c 3 _ H3.out.1 (by omega)).mono ?_
   rintro e v4 ⟨x4,rfl,l4,u4, -,C4,G4⟩
   have y4:=u4 (by omega)
   have H4:Hid (DC w v4 B c w.heap.size w1.heap.size ⟨6,0,0,0,0⟩):=H3.out.draw C4 G4
   clear u4 C4 G4 H3
   have k4:v4.cell? ⟨w1.heap.size,2,none⟩=some (.int .i64 0):=H4.out.2.2.2.1.cell 2 rfl
   have f4:=H4.out.2.2.2.1.frozen 2
   have s4:=H4.out.2.2.2.1.lt
   have J4:Hid (DC w (v4.setCell ⟨w1.heap.size,2,none⟩ (.int .i64 x4)) B c w.heap.size w1.heap.size ⟨6,0,x4,0,0⟩):=H4.out.put 2 x4 ⟨6,0,x4,0,0⟩ rfl
   clear H4
   have q5:CmB (v4.setCell ⟨w1.heap.size,2,none⟩ (.int .i64 x4)) w1.heap.size 32 ⟨6,0,x4,0,0⟩:=J4.out.2.2.2.1
   have z5:CmB (v4.setCell ⟨w1.heap.size,2,none⟩ (.int .i64 x4)) w.heap.size 32 Cm.zero:=J4.out.2.2.1
   have hf:Hid ((⟨6,0,x4,0,0⟩:Cm).Byt):=by unfold Hid Cm.Byt;dsimp only;omega
   go_wp2_with (first|(refine wpList_getC rfl _ rfl w1.heap.size rfl ⟨6,0,x4,0,0⟩ q5 ?_)|(refine wpList_putC rfl _ _ rfl w.heap.size ⟨6,0,x4,0,0⟩ Cm.zero rfl rfl z5 ?_;intro we Re Ge))
   refine bodyPost_ret (results_C rfl _ _ w.heap.size _ rfl Re) rfl ?_
   exact⟨_,rfl,hf.out,J4.out.fin Ge⟩
  ·replace H3:Hid (DC w w2 B c w.heap.size w1.heap.size ⟨7,0,0,0,0⟩):=H3
   have kc:w2.cell? ⟨w1.heap.size,0,none⟩=some (.int .i64 7):=H3.out.2.2.2.1.cell 0 rfl
   clear l1 y1
   go_wp2_with fail
   refine(below_any B c 6 _ H3.out.1 (by omega)).mono ?_
   rintro e v4 ⟨x4,rfl,l4,u4, -,C4,G4⟩
   have y4:=u4 (by omega)
   have H4:Hid (DC w v4 B c w.heap.size w1.heap.size ⟨7,0,0,0,0⟩):=H3.out.draw C4 G4
   clear u4 C4 G4 H3
   have k4:v4.cell? ⟨w1.heap.size,4,none⟩=some (.int .i64 0):=H4.out.2.2.2.1.cell 4 rfl
   have f4:=H4.out.2.2.2.1.frozen 4
   have s4:=H4.out.2.2.2.1.lt
   have J4:Hid (DC w (v4.setCell ⟨w1.heap.size,4,none⟩ (.int .i64 (1+x4))) B c w.heap.size w1.heap.size ⟨7,0,0,0,(1+x4)⟩):=H4.out.put 4 (1+x4) ⟨7,0,0,0,(1+x4)⟩ rfl
   clear H4
   have q5:CmB (v4.setCell ⟨w1.heap.size,4,none⟩ (.int .i64 (1+x4))) w1.heap.size 32 ⟨7,0,0,0,(1+x4)⟩:=J4.out.2.2.2.1
   have z5:CmB (v4.setCell ⟨w1.heap.size,4,none⟩ (.int .i64 (1+x4))) w.heap.size 32 Cm.zero:=J4.out.2.2.1
   have hf:Hid ((⟨7,0,0,0,(1+x4)⟩:Cm).Byt):=by unfold Hid Cm.Byt;dsimp only;omega
   go_wp2_with (first|(refine wpList_getC rfl _ rfl w1.heap.size rfl ⟨7,0,0,0,(1+x4)⟩ q5 ?_)|(refine wpList_putC rfl _ _ rfl w.heap.size ⟨7,0,0,0,(1+x4)⟩ Cm.zero rfl rfl z5 ?_;intro we Re Ge))
   refine bodyPost_ret (results_C rfl _ _ w.heap.size _ rfl Re) rfl ?_
   exact⟨_,rfl,hf.out,J4.out.fin Ge⟩
  ·replace H3:Hid (DC w w2 B c w.heap.size w1.heap.size ⟨8,0,0,0,0⟩):=H3
   have kc:w2.cell? ⟨w1.heap.size,0,none⟩=some (.int .i64 8):=H3.out.2.2.2.1.cell 0 rfl
   clear l1 y1
   have q4:CmB w2 w1.heap.size 32 ⟨8,0,0,0,0⟩:=H3.out.2.2.2.1
   have z4:CmB w2 w.heap.size 32 Cm.zero:=H3.out.2.2.1
   have hf:Hid ((⟨8,0,0,0,0⟩:Cm).Byt):=by unfold Hid Cm.Byt;dsimp only;omega
   go_wp2_with (first|(refine wpList_getC rfl _ rfl w1.heap.size rfl ⟨8,0,0,0,0⟩ q4 ?_)|(refine wpList_putC rfl _ _ rfl w.heap.size ⟨8,0,0,0,0⟩ Cm.zero rfl rfl z4 ?_;intro we Re Ge))
   refine bodyPost_ret (results_C rfl _ _ w.heap.size _ rfl Re) rfl ?_
   exact⟨_,rfl,hf.out,H3.out.fin Ge⟩
  ·replace H3:Hid (DC w w2 B c w.heap.size w1.heap.size ⟨9,0,0,0,0⟩):=H3
   have kc:w2.cell? ⟨w1.heap.size,0,none⟩=some (.int .i64 9):=H3.out.2.2.2.1.cell 0 rfl
   clear l1 y1
   have q4:CmB w2 w1.heap.size 32 ⟨9,0,0,0,0⟩:=H3.out.2.2.2.1
   have z4:CmB w2 w.heap.size 32 Cm.zero:=H3.out.2.2.1
   have hf:Hid ((⟨9,0,0,0,0⟩:Cm).Byt):=by unfold Hid Cm.Byt;dsimp only;omega
   go_wp2_with (first|(refine wpList_getC rfl _ rfl w1.heap.size rfl ⟨9,0,0,0,0⟩ q4 ?_)|(refine wpList_putC rfl _ _ rfl w.heap.size ⟨9,0,0,0,0⟩ Cm.zero rfl rfl z4 ?_;intro we Re Ge))
   refine bodyPost_ret (results_C rfl _ _ w.heap.size _ rfl Re) rfl ?_
   exact⟨_,rfl,hf.out,H3.out.fin Ge⟩
  ·replace H3:Hid (DC w w2 B c w.heap.size w1.heap.size ⟨10,0,0,0,0⟩):=H3
   have kc:w2.cell? ⟨w1.heap.size,0,none⟩=some (.int .i64 10):=H3.out.2.2.2.1.cell 0 rfl
   clear l1 y1
   go_wp2_with fail
   refine(below_any B c 3 _ H3.out.1 (by omega)).mono ?_
   rintro e v4 ⟨x4,rfl,l4,u4, -,C4,G4⟩
   have y4:=u4 (by omega)
   have H4:Hid (DC w v4 B c w.heap.size w1.heap.size ⟨10,0,0,0,0⟩):=H3.out.draw C4 G4
   clear u4 C4 G4 H3
   have k4:v4.cell? ⟨w1.heap.size,2,none⟩=some (.int .i64 0):=H4.out.2.2.2.1.cell 2 rfl
   have f4:=H4.out.2.2.2.1.frozen 2
   have s4:=H4.out.2.2.2.1.lt
   have J4:Hid (DC w (v4.setCell ⟨w1.heap.size,2,none⟩ (.int .i64 x4)) B c w.heap.size w1.heap.size ⟨10,0,x4,0,0⟩):=H4.out.put 2 x4 ⟨10,0,x4,0,0⟩ rfl
   clear H4
   go_wp2_with fail
   refine(below_any B c 2 _ J4.out.1 (by omega)).mono ?_
   rintro e v5 ⟨x5,rfl,l5,u5, -,C5,G5⟩
   have y5:=u5 (by omega)
   have H5:Hid (DC w v5 B c w.heap.size w1.heap.size ⟨10,0,x4,0,0⟩):=J4.out.draw C5 G5
   clear u5 C5 G5 J4 k4 f4 s4
   have k5:v5.cell? ⟨w1.heap.size,3,none⟩=some (.int .i64 0):=H5.out.2.2.2.1.cell 3 rfl
   have f5:=H5.out.2.2.2.1.frozen 3
   have s5:=H5.out.2.2.2.1.lt
   have J5:Hid (DC w (v5.setCell ⟨w1.heap.size,3,none⟩ (.int .i64 (1+x5))) B c w.heap.size w1.heap.size ⟨10,0,x4,(1+x5),0⟩):=H5.out.put 3 (1+x5) ⟨10,0,x4,(1+x5),0⟩ rfl
   clear H5
   go_wp2_with fail
   refine(below_any B c 6 _ J5.out.1 (by omega)).mono ?_
   rintro e v6 ⟨x6,rfl,l6,u6, -,C6,G6⟩
   have y6:=u6 (by omega)
   have H6:Hid (DC w v6 B c w.heap.size w1.heap.size ⟨10,0,x4,(1+x5),0⟩):=J5.out.draw C6 G6
   clear u6 C6 G6 J5 k5 f5 s5
   have k6:v6.cell? ⟨w1.heap.size,4,none⟩=some (.int .i64 0):=H6.out.2.2.2.1.cell 4 rfl
   have f6:=H6.out.2.2.2.1.frozen 4
   have s6:=H6.out.2.2.2.1.lt
   have J6:Hid (DC w (v6.setCell ⟨w1.heap.size,4,none⟩ (.int .i64 (1+x6))) B c w.heap.size w1.heap.size ⟨10,0,x4,(1+x5),(1+x6)⟩):=H6.out.put 4 (1+x6) ⟨10,0,x4,(1+x5),(1+x6)⟩ rfl
   clear H6
   have q7:CmB (v6.setCell ⟨w1.heap.size,4,none⟩ (.int .i64 (1+x6))) w1.heap.size 32 ⟨10,0,x4,(1+x5),(1+x6)⟩:=J6.out.2.2.2.1
   have z7:CmB (v6.setCell ⟨w1.heap.size,4,none⟩ (.int .i64 (1+x6))) w.heap.size 32 Cm.zero:=J6.out.2.2.1
   have hf:Hid ((⟨10,0,x4,(1+x5),(1+x6)⟩:Cm).Byt):=by unfold Hid Cm.Byt;dsimp only;omega
   go_wp2_with (first|(refine wpList_getC rfl _ rfl w1.heap.size rfl ⟨10,0,x4,(1+x5),(1+x6)⟩ q7 ?_)|(refine wpList_putC rfl _ _ rfl w.heap.size ⟨10,0,x4,(1+x5),(1+x6)⟩ Cm.zero rfl rfl z7 ?_;intro we Re Ge))
   refine bodyPost_ret (results_C rfl _ _ w.heap.size _ rfl Re) rfl ?_
   exact⟨_,rfl,hf.out,J6.out.fin Ge⟩
  ·replace H3:Hid (DC w w2 B c w.heap.size w1.heap.size ⟨11,0,0,0,0⟩):=H3
   have kc:w2.cell? ⟨w1.heap.size,0,none⟩=some (.int .i64 11):=H3.out.2.2.2.1.cell 0 rfl
   clear l1 y1
   have q4:CmB w2 w1.heap.size 32 ⟨11,0,0,0,0⟩:=H3.out.2.2.2.1
   have z4:CmB w2 w.heap.size 32 Cm.zero:=H3.out.2.2.1
   have hf:Hid ((⟨11,0,0,0,0⟩:Cm).Byt):=by unfold Hid Cm.Byt;dsimp only;omega
   go_wp2_with (first|(refine wpList_getC rfl _ rfl w1.heap.size rfl ⟨11,0,0,0,0⟩ q4 ?_)|(refine wpList_putC rfl _ _ rfl w.heap.size ⟨11,0,0,0,0⟩ Cm.zero rfl rfl z4 ?_;intro we Re Ge))
   refine bodyPost_ret (results_C rfl _ _ w.heap.size _ rfl Re) rfl ?_
   exact⟨_,rfl,hf.out,H3.out.fin Ge⟩
  ·replace H3:Hid (DC w w2 B c w.heap.size w1.heap.size ⟨12,0,0,0,0⟩):=H3
   have kc:w2.cell? ⟨w1.heap.size,0,none⟩=some (.int .i64 12):=H3.out.2.2.2.1.cell 0 rfl
   clear l1 y1
   have q4:CmB w2 w1.heap.size 32 ⟨12,0,0,0,0⟩:=H3.out.2.2.2.1
   have z4:CmB w2 w.heap.size 32 Cm.zero:=H3.out.2.2.1
   have hf:Hid ((⟨12,0,0,0,0⟩:Cm).Byt):=by unfold Hid Cm.Byt;dsimp only;omega
   go_wp2_with (first|(refine wpList_getC rfl _ rfl w1.heap.size rfl ⟨12,0,0,0,0⟩ q4 ?_)|(refine wpList_putC rfl _ _ rfl w.heap.size ⟨12,0,0,0,0⟩ Cm.zero rfl rfl z4 ?_;intro we Re Ge))
   refine bodyPost_ret (results_C rfl _ _ w.heap.size _ rfl Re) rfl ?_
   exact⟨_,rfl,hf.out,H3.out.fin Ge⟩
 |true=>
  go_wp2_with fail
  refine(below_any B c 3 _ H3.out.1 (by omega)).mono ?_
  rintro e w3 ⟨x2,rfl,l2,u2, -,C3,G3⟩
  have y2:=u2 (by omega)
  have H4:Hid (DC w w3 B c w.heap.size w1.heap.size ⟨1+x1,0,0,0,0⟩):=H3.out.draw C3 G3
  clear u2 C3 G3 H3 hk2
  have k3:w3.cell? ⟨w1.heap.size,0,none⟩=some (.int .i64 (1+x1)):=H4.out.2.2.2.1.cell 0 rfl
  have f3:=H4.out.2.2.2.1.frozen 0
  have s3:=H4.out.2.2.2.1.lt
  obtain rfl|rfl|rfl:x2=0∨x2=1∨x2=2:=by omega
  ·have J4:Hid (DC w (w3.setCell ⟨w1.heap.size,0,none⟩ (.int .i64 1)) B c w.heap.size w1.heap.size ⟨1,0,0,0,0⟩):=H4.out.put 0 1 ⟨1,0,0,0,0⟩ rfl
   clear H4 l2 y2
   go_wp2_with fail
   refine(below_any B c 5 _ J4.out.1 (by omega)).mono ?_
   rintro e v5 ⟨x5,rfl,l5,u5, -,C5,G5⟩
   have y5:=u5 (by omega)
   have H5:Hid (DC w v5 B c w.heap.size w1.heap.size ⟨1,0,0,0,0⟩):=J4.out.draw C5 G5
   clear u5 C5 G5 J4 k3 f3 s3
   have k5:v5.cell? ⟨w1.heap.size,1,none⟩=some (.int .i64 0):=H5.out.2.2.2.1.cell 1 rfl
   have f5:=H5.out.2.2.2.1.frozen 1
   have s5:=H5.out.2.2.2.1.lt
   have J5:Hid (DC w (v5.setCell ⟨w1.heap.size,1,none⟩ (.int .i64 x5)) B c w.heap.size w1.heap.size ⟨1,x5,0,0,0⟩):=H5.out.put 1 x5 ⟨1,x5,0,0,0⟩ rfl
   clear H5
   have q6:CmB (v5.setCell ⟨w1.heap.size,1,none⟩ (.int .i64 x5)) w1.heap.size 32 ⟨1,x5,0,0,0⟩:=J5.out.2.2.2.1
   have z6:CmB (v5.setCell ⟨w1.heap.size,1,none⟩ (.int .i64 x5)) w.heap.size 32 Cm.zero:=J5.out.2.2.1
   have hf:Hid ((⟨1,x5,0,0,0⟩:Cm).Byt):=by unfold Hid Cm.Byt;dsimp only;omega
   go_wp2_with (first|(refine wpList_getC rfl _ rfl w1.heap.size rfl ⟨1,x5,0,0,0⟩ q6 ?_)|(refine wpList_putC rfl _ _ rfl w.heap.size ⟨1,x5,0,0,0⟩ Cm.zero rfl rfl z6 ?_;intro we Re Ge))
   refine bodyPost_ret (results_C rfl _ _ w.heap.size _ rfl Re) rfl ?_
   exact⟨_,rfl,hf.out,J5.out.fin Ge⟩
  ·have J4:Hid (DC w (w3.setCell ⟨w1.heap.size,0,none⟩ (.int .i64 2)) B c w.heap.size w1.heap.size ⟨2,0,0,0,0⟩):=H4.out.put 0 2 ⟨2,0,0,0,0⟩ rfl
   clear H4 l2 y2
   go_wp2_with fail
   refine(below_any B c 5 _ J4.out.1 (by omega)).mono ?_
   rintro e v5 ⟨x5,rfl,l5,u5, -,C5,G5⟩
   have y5:=u5 (by omega)
   have H5:Hid (DC w v5 B c w.heap.size w1.heap.size ⟨2,0,0,0,0⟩):=J4.out.draw C5 G5
   clear u5 C5 G5 J4 k3 f3 s3
   have k5:v5.cell? ⟨w1.heap.size,1,none⟩=some (.int .i64 0):=H5.out.2.2.2.1.cell 1 rfl
   have f5:=H5.out.2.2.2.1.frozen 1
   have s5:=H5.out.2.2.2.1.lt
   have J5:Hid (DC w (v5.setCell ⟨w1.heap.size,1,none⟩ (.int .i64 x5)) B c w.heap.size w1.heap.size ⟨2,x5,0,0,0⟩):=H5.out.put 1 x5 ⟨2,x5,0,0,0⟩ rfl
   clear H5
   go_wp2_with fail
   refine(below_any B c 6 _ J5.out.1 (by omega)).mono ?_
   rintro e v6 ⟨x6,rfl,l6,u6, -,C6,G6⟩
   have y6:=u6 (by omega)
   have H6:Hid (DC w v6 B c w.heap.size w1.heap.size ⟨2,x5,0,0,0⟩):=J5.out.draw C6 G6
   clear u6 C6 G6 J5 k5 f5 s5
   have k6:v6.cell? ⟨w1.heap.size,2,none⟩=some (.int .i64 0):=H6.out.2.2.2.1.cell 2 rfl
   have f6:=H6.out.2.2.2.1.frozen 2
   have s6:=H6.out.2.2.2.1.lt
   have J6:Hid (DC w (v6.setCell ⟨w1.heap.size,2,none⟩ (.int .i64 x6)) B c w.heap.size w1.heap.size ⟨2,x5,x6,0,0⟩):=H6.out.put 2 x6 ⟨2,x5,x6,0,0⟩ rfl
   clear H6
   have q7:CmB (v6.setCell ⟨w1.heap.size,2,none⟩ (.int .i64 x6)) w1.heap.size 32 ⟨2,x5,x6,0,0⟩:=J6.out.2.2.2.1
   have z7:CmB (v6.setCell ⟨w1.heap.size,2,none⟩ (.int .i64 x6)) w.heap.size 32 Cm.zero:=J6.out.2.2.1
   have hf:Hid ((⟨2,x5,x6,0,0⟩:Cm).Byt):=by unfold Hid Cm.Byt;dsimp only;omega
   go_wp2_with (first|(refine wpList_getC rfl _ rfl w1.heap.size rfl ⟨2,x5,x6,0,0⟩ q7 ?_)|(refine wpList_putC rfl _ _ rfl w.heap.size ⟨2,x5,x6,0,0⟩ Cm.zero rfl rfl z7 ?_;intro we Re Ge))
   refine bodyPost_ret (results_C rfl _ _ w.heap.size _ rfl Re) rfl ?_
   exact⟨_,rfl,hf.out,J6.out.fin Ge⟩
  ·have J4:Hid (DC w (w3.setCell ⟨w1.heap.size,0,none⟩ (.int .i64 3)) B c w.heap.size w1.heap.size ⟨3,0,0,0,0⟩):=H4.out.put 0 3 ⟨3,0,0,0,0⟩ rfl
   clear H4 l2 y2
   go_wp2_with fail
   refine(below_any B c 4 _ J4.out.1 (by omega)).mono ?_
   rintro e v5 ⟨x5,rfl,l5,u5, -,C5,G5⟩
   have y5:=u5 (by omega)
   have H5:Hid (DC w v5 B c w.heap.size w1.heap.size ⟨3,0,0,0,0⟩):=J4.out.draw C5 G5
   clear u5 C5 G5 J4 k3 f3 s3
   have k5:v5.cell? ⟨w1.heap.size,1,none⟩=some (.int .i64 0):=H5.out.2.2.2.1.cell 1 rfl
   have f5:=H5.out.2.2.2.1.frozen 1
   have s5:=H5.out.2.2.2.1.lt
   have J5:Hid (DC w (v5.setCell ⟨w1.heap.size,1,none⟩ (.int .i64 x5)) B c w.heap.size w1.heap.size ⟨3,x5,0,0,0⟩):=H5.out.put 1 x5 ⟨3,x5,0,0,0⟩ rfl
   clear H5
   go_wp2_with fail
   refine(below_any B c 4 _ J5.out.1 (by omega)).mono ?_
   rintro e v6 ⟨x6,rfl,l6,u6, -,C6,G6⟩
   have y6:=u6 (by omega)
   have H6:Hid (DC w v6 B c w.heap.size w1.heap.size ⟨3,x5,0,0,0⟩):=J5.out.draw C6 G6
   clear u6 C6 G6 J5 k5 f5 s5
   have k6:v6.cell? ⟨w1.heap.size,2,none⟩=some (.int .i64 0):=H6.out.2.2.2.1.cell 2 rfl
   have f6:=H6.out.2.2.2.1.frozen 2
   have s6:=H6.out.2.2.2.1.lt
   have J6:Hid (DC w (v6.setCell ⟨w1.heap.size,2,none⟩ (.int .i64 x6)) B c w.heap.size w1.heap.size ⟨3,x5,x6,0,0⟩):=H6.out.put 2 x6 ⟨3,x5,x6,0,0⟩ rfl
   clear H6
   go_wp2_with fail
   refine(below_any B c 6 _ J6.out.1 (by omega)).mono ?_
   rintro e v7 ⟨x7,rfl,l7,u7, -,C7,G7⟩
   have y7:=u7 (by omega)
   have H7:Hid (DC w v7 B c w.heap.size w1.heap.size ⟨3,x5,x6,0,0⟩):=J6.out.draw C7 G7
   clear u7 C7 G7 J6 k6 f6 s6
   have k7:v7.cell? ⟨w1.heap.size,3,none⟩=some (.int .i64 0):=H7.out.2.2.2.1.cell 3 rfl
   have f7:=H7.out.2.2.2.1.frozen 3
   have s7:=H7.out.2.2.2.1.lt
   have J7:Hid (DC w (v7.setCell ⟨w1.heap.size,3,none⟩ (.int .i64 x7)) B c w.heap.size w1.heap.size ⟨3,x5,x6,x7,0⟩):=H7.out.put 3 x7 ⟨3,x5,x6,x7,0⟩ rfl
   clear H7
   have q8:CmB (v7.setCell ⟨w1.heap.size,3,none⟩ (.int .i64 x7)) w1.heap.size 32 ⟨3,x5,x6,x7,0⟩:=J7.out.2.2.2.1
   have z8:CmB (v7.setCell ⟨w1.heap.size,3,none⟩ (.int .i64 x7)) w.heap.size 32 Cm.zero:=J7.out.2.2.1
   have hf:Hid ((⟨3,x5,x6,x7,0⟩:Cm).Byt):=by unfold Hid Cm.Byt;dsimp only;omega
   go_wp2_with (first|(refine wpList_getC rfl _ rfl w1.heap.size rfl ⟨3,x5,x6,x7,0⟩ q8 ?_)|(refine wpList_putC rfl _ _ rfl w.heap.size ⟨3,x5,x6,x7,0⟩ Cm.zero rfl rfl z8 ?_;intro we Re Ge))
   refine bodyPost_ret (results_C rfl _ _ w.heap.size _ rfl Re) rfl ?_
   exact⟨_,rfl,hf.out,J7.out.fin Ge⟩
theorem l6any_any (B c:Nat) (w:World) (h:Cur w B c):
  Calls Tryz.prog 30 #[.pointer (some ⟨c,0,none⟩)] w fun e w'=>∃r,e=.returned (CV r)∧Cur w' B c∧w.grownBy w' (some c):=by
 have H0:Hid (D0 w (w.alloc (.cells (cmA Cm.zero) 32)) B c w.heap.size):=D0.start h
 clear h
 go_enter Tryz.func30,Tryz.ntmps30
 go_wp2_with fail
 refine(l6draw_any B c _ H0.out.1).mono ?_
 rintro e w1 ⟨r,rfl,hr,C1,G1⟩
 have H1:Hid (D0 w w1 B c w.heap.size):=H0.out.draw C1 G1
 clear C1 G1 H0 hr
 have hgk:w.heap.size<w1.heap.size:=H1.out.2.2.1.lt
 have hne:w.heap.size≠w1.heap.size:=by omega
 have H2:Hid (DC w (w1.alloc (.cells #[.int .i64 r.o,.int .i64 r.p,.int .i64 r.a,.int .i64 r.b,.int .i64 r.k] 32)) B c w.heap.size w1.heap.size r):=H1.out.box r
 clear H1
 unfold CV cmA
 go_wp2_with fail
 refine(once_any B c 6 _ H2.out.1 (by omega)).mono ?_
 rintro e w2 ⟨b,rfl,C2,G2⟩
 have H3:Hid (DC w w2 B c w.heap.size w1.heap.size r):=H2.out.draw C2 G2
 clear C2 G2 H2
 have hk2:w1.heap.size<w2.heap.size:=H3.out.2.2.2.1.lt
 cases b with
 |false=>
  have q:CmB w2 w1.heap.size 32 r:=H3.out.2.2.2.1
  have z:CmB w2 w.heap.size 32 Cm.zero:=H3.out.2.2.1
  go_wp2_with (first|(refine wpList_getC rfl _ rfl w1.heap.size rfl r q ?_)|(refine wpList_putC rfl _ _ rfl w.heap.size r Cm.zero rfl rfl z ?_;intro we Re Ge))
  refine bodyPost_ret (results_C rfl _ _ w.heap.size _ rfl Re) rfl ?_
  exact⟨_,rfl,H3.out.fin Ge⟩
 |true=>
  go_wp2_with fail
  refine(below_any B c 5 _ H3.out.1 (by omega)).mono ?_
  rintro e w3 ⟨x2,rfl,l2,u2, -,C3,G3⟩
  have y2:=u2 (by omega)
  have H4:Hid (DC w w3 B c w.heap.size w1.heap.size r):=H3.out.draw C3 G3
  clear u2 C3 G3 H3 hk2
  have s3:=H4.out.2.2.2.1.lt
  obtain rfl|rfl|rfl|rfl|rfl:x2=0∨x2=1∨x2=2∨x2=3∨x2=4:=by omega
  ·clear l2 y2
   have L4:Hid (DC w (w3.alloc (.cells #[.int .i64 0,.int .i64 13,.int .i64 (-1),.int .i64 5] 2)) B c w.heap.size w1.heap.size r):=H4.out.alloc _
   have hcw:c<w3.heap.size:=by have:=H4.out.1.lt;omega
   clear H4
   go_wp2_with fail
   refine(below_any B c 4 _ L4.out.1 (by omega)).mono ?_
   rintro e w4 ⟨i,rfl,li,ui, -,C4,G4⟩
   have vi:=ui (by omega)
   have H5:Hid (DC w w4 B c w.heap.size w1.heap.size r):=L4.out.draw C4 G4
   have hc:=lit_kept G4 (by simp;omega)
   clear ui C4 G4 L4
   obtain⟨x,hx⟩:∃x:Int,w4.cell? ⟨w3.heap.size,i.toNat,none⟩=some (.int .i64 x):=by
    obtain rfl|rfl|rfl|rfl:i=0∨i=1∨i=2∨i=3:=by omega
    ·exact⟨0,hc 0⟩
    ·exact⟨13,hc 1⟩
    ·exact⟨(-1),hc 2⟩
    ·exact⟨5,hc 3⟩
   clear hc
   have k4:w4.cell? ⟨w1.heap.size,0,none⟩=some (.int .i64 r.o):=H5.out.2.2.2.1.cell 0 rfl
   have f4:=H5.out.2.2.2.1.frozen 0
   have s4:=H5.out.2.2.2.1.lt
   have J5:Hid (DC w (w4.setCell ⟨w1.heap.size,0,none⟩ (.int .i64 x)) B c w.heap.size w1.heap.size ⟨x,r.p,r.a,r.b,r.k⟩):=H5.out.put 0 x ⟨x,r.p,r.a,r.b,r.k⟩ rfl
   clear H5
   have q:CmB (w4.setCell ⟨w1.heap.size,0,none⟩ (.int .i64 x)) w1.heap.size 32 ⟨x,r.p,r.a,r.b,r.k⟩:=J5.out.2.2.2.1
   have z:CmB (w4.setCell ⟨w1.heap.size,0,none⟩ (.int .i64 x)) w.heap.size 32 Cm.zero:=J5.out.2.2.1
   go_wp2_with (first|(refine wpList_getC rfl _ rfl w1.heap.size rfl ⟨x,r.p,r.a,r.b,r.k⟩ q ?_)|(refine wpList_putC rfl _ _ rfl w.heap.size ⟨x,r.p,r.a,r.b,r.k⟩ Cm.zero rfl rfl z ?_;intro we Re Ge))
   refine bodyPost_ret (results_C rfl _ _ w.heap.size _ rfl Re) rfl ?_
   exact⟨_,rfl,J5.out.fin Ge⟩
  ·clear l2 y2
   have L4:Hid (DC w (w3.alloc (.cells #[.int .i64 (-1),.int .i64 255,.int .i64 256,.int .i64 3] 2)) B c w.heap.size w1.heap.size r):=H4.out.alloc _
   have hcw:c<w3.heap.size:=by have:=H4.out.1.lt;omega
   clear H4
   go_wp2_with fail
   refine(below_any B c 4 _ L4.out.1 (by omega)).mono ?_
   rintro e w4 ⟨i,rfl,li,ui, -,C4,G4⟩
   have vi:=ui (by omega)
   have H5:Hid (DC w w4 B c w.heap.size w1.heap.size r):=L4.out.draw C4 G4
   have hc:=lit_kept G4 (by simp;omega)
   clear ui C4 G4 L4
   obtain⟨x,hx⟩:∃x:Int,w4.cell? ⟨w3.heap.size,i.toNat,none⟩=some (.int .i64 x):=by
    obtain rfl|rfl|rfl|rfl:i=0∨i=1∨i=2∨i=3:=by omega
    ·exact⟨(-1),hc 0⟩
    ·exact⟨255,hc 1⟩
    ·exact⟨256,hc 2⟩
    ·exact⟨3,hc 3⟩
   clear hc
   have k4:w4.cell? ⟨w1.heap.size,1,none⟩=some (.int .i64 r.p):=H5.out.2.2.2.1.cell 1 rfl
   have f4:=H5.out.2.2.2.1.frozen 1
   have s4:=H5.out.2.2.2.1.lt
   have J5:Hid (DC w (w4.setCell ⟨w1.heap.size,1,none⟩ (.int .i64 x)) B c w.heap.size w1.heap.size ⟨r.o,x,r.a,r.b,r.k⟩):=H5.out.put 1 x ⟨r.o,x,r.a,r.b,r.k⟩ rfl
   clear H5
   have q:CmB (w4.setCell ⟨w1.heap.size,1,none⟩ (.int .i64 x)) w1.heap.size 32 ⟨r.o,x,r.a,r.b,r.k⟩:=J5.out.2.2.2.1
   have z:CmB (w4.setCell ⟨w1.heap.size,1,none⟩ (.int .i64 x)) w.heap.size 32 Cm.zero:=J5.out.2.2.1
   go_wp2_with (first|(refine wpList_getC rfl _ rfl w1.heap.size rfl ⟨r.o,x,r.a,r.b,r.k⟩ q ?_)|(refine wpList_putC rfl _ _ rfl w.heap.size ⟨r.o,x,r.a,r.b,r.k⟩ Cm.zero rfl rfl z ?_;intro we Re Ge))
   refine bodyPost_ret (results_C rfl _ _ w.heap.size _ rfl Re) rfl ?_
   exact⟨_,rfl,J5.out.fin Ge⟩
  ·clear l2 y2
   have L4:Hid (DC w (w3.alloc (.cells #[.int .i64 (-1),.int .i64 9999,.int .i64 10000,.int .i64 65535,.int .i64 65536] 2)) B c w.heap.size w1.heap.size r):=H4.out.alloc _
   have hcw:c<w3.heap.size:=by have:=H4.out.1.lt;omega
   clear H4
   go_wp2_with fail
   refine(below_any B c 5 _ L4.out.1 (by omega)).mono ?_
   rintro e w4 ⟨i,rfl,li,ui, -,C4,G4⟩
   have vi:=ui (by omega)
   have H5:Hid (DC w w4 B c w.heap.size w1.heap.size r):=L4.out.draw C4 G4
   have hc:=lit_kept G4 (by simp;omega)
   clear ui C4 G4 L4
   obtain⟨x,hx⟩:∃x:Int,w4.cell? ⟨w3.heap.size,i.toNat,none⟩=some (.int .i64 x):=by
    obtain rfl|rfl|rfl|rfl|rfl:i=0∨i=1∨i=2∨i=3∨i=4:=by omega
    ·exact⟨(-1),hc 0⟩
    ·exact⟨9999,hc 1⟩
    ·exact⟨10000,hc 2⟩
    ·exact⟨65535,hc 3⟩
    ·exact⟨65536,hc 4⟩
   clear hc
   have k4:w4.cell? ⟨w1.heap.size,2,none⟩=some (.int .i64 r.a):=H5.out.2.2.2.1.cell 2 rfl
   have f4:=H5.out.2.2.2.1.frozen 2
   have s4:=H5.out.2.2.2.1.lt
   have J5:Hid (DC w (w4.setCell ⟨w1.heap.size,2,none⟩ (.int .i64 x)) B c w.heap.size w1.heap.size ⟨r.o,r.p,x,r.b,r.k⟩):=H5.out.put 2 x ⟨r.o,r.p,x,r.b,r.k⟩ rfl
   clear H5
   have q:CmB (w4.setCell ⟨w1.heap.size,2,none⟩ (.int .i64 x)) w1.heap.size 32 ⟨r.o,r.p,x,r.b,r.k⟩:=J5.out.2.2.2.1
   have z:CmB (w4.setCell ⟨w1.heap.size,2,none⟩ (.int .i64 x)) w.heap.size 32 Cm.zero:=J5.out.2.2.1
   go_wp2_with (first|(refine wpList_getC rfl _ rfl w1.heap.size rfl ⟨r.o,r.p,x,r.b,r.k⟩ q ?_)|(refine wpList_putC rfl _ _ rfl w.heap.size ⟨r.o,r.p,x,r.b,r.k⟩ Cm.zero rfl rfl z ?_;intro we Re Ge))
   refine bodyPost_ret (results_C rfl _ _ w.heap.size _ rfl Re) rfl ?_
   exact⟨_,rfl,J5.out.fin Ge⟩
  ·clear l2 y2
   have L4:Hid (DC w (w3.alloc (.cells #[.int .i64 (-1),.int .i64 9999,.int .i64 10000,.int .i64 65535,.int .i64 65536] 2)) B c w.heap.size w1.heap.size r):=H4.out.alloc _
   have hcw:c<w3.heap.size:=by have:=H4.out.1.lt;omega
   clear H4
   go_wp2_with fail
   refine(below_any B c 5 _ L4.out.1 (by omega)).mono ?_
   rintro e w4 ⟨i,rfl,li,ui, -,C4,G4⟩
   have vi:=ui (by omega)
   have H5:Hid (DC w w4 B c w.heap.size w1.heap.size r):=L4.out.draw C4 G4
   have hc:=lit_kept G4 (by simp;omega)
   clear ui C4 G4 L4
   obtain⟨x,hx⟩:∃x:Int,w4.cell? ⟨w3.heap.size,i.toNat,none⟩=some (.int .i64 x):=by
    obtain rfl|rfl|rfl|rfl|rfl:i=0∨i=1∨i=2∨i=3∨i=4:=by omega
    ·exact⟨(-1),hc 0⟩
    ·exact⟨9999,hc 1⟩
    ·exact⟨10000,hc 2⟩
    ·exact⟨65535,hc 3⟩
    ·exact⟨65536,hc 4⟩
   clear hc
   have k4:w4.cell? ⟨w1.heap.size,3,none⟩=some (.int .i64 r.b):=H5.out.2.2.2.1.cell 3 rfl
   have f4:=H5.out.2.2.2.1.frozen 3
   have s4:=H5.out.2.2.2.1.lt
   have J5:Hid (DC w (w4.setCell ⟨w1.heap.size,3,none⟩ (.int .i64 x)) B c w.heap.size w1.heap.size ⟨r.o,r.p,r.a,x,r.k⟩):=H5.out.put 3 x ⟨r.o,r.p,r.a,x,r.k⟩ rfl
   clear H5
   have q:CmB (w4.setCell ⟨w1.heap.size,3,none⟩ (.int .i64 x)) w1.heap.size 32 ⟨r.o,r.p,r.a,x,r.k⟩:=J5.out.2.2.2.1
   have z:CmB (w4.setCell ⟨w1.heap.size,3,none⟩ (.int .i64 x)) w.heap.size 32 Cm.zero:=J5.out.2.2.1
   go_wp2_with (first|(refine wpList_getC rfl _ rfl w1.heap.size rfl ⟨r.o,r.p,r.a,x,r.k⟩ q ?_)|(refine wpList_putC rfl _ _ rfl w.heap.size ⟨r.o,r.p,r.a,x,r.k⟩ Cm.zero rfl rfl z ?_;intro we Re Ge))
   refine bodyPost_ret (results_C rfl _ _ w.heap.size _ rfl Re) rfl ?_
   exact⟨_,rfl,J5.out.fin Ge⟩
  ·clear l2 y2
   go_wp2_with fail
   refine(from_any B c (-1) 9 _ H4.out.1 (by omega) (by omega) (by omega)).mono ?_
   rintro e w4 ⟨x,rfl,lx,ux,C4,G4⟩
   have H5:Hid (DC w w4 B c w.heap.size w1.heap.size r):=H4.out.draw C4 G4
   clear C4 G4 H4
   have k4:w4.cell? ⟨w1.heap.size,4,none⟩=some (.int .i64 r.k):=H5.out.2.2.2.1.cell 4 rfl
   have f4:=H5.out.2.2.2.1.frozen 4
   have s4:=H5.out.2.2.2.1.lt
   have J5:Hid (DC w (w4.setCell ⟨w1.heap.size,4,none⟩ (.int .i64 x)) B c w.heap.size w1.heap.size ⟨r.o,r.p,r.a,r.b,x⟩):=H5.out.put 4 x ⟨r.o,r.p,r.a,r.b,x⟩ rfl
   clear H5
   have q:CmB (w4.setCell ⟨w1.heap.size,4,none⟩ (.int .i64 x)) w1.heap.size 32 ⟨r.o,r.p,r.a,r.b,x⟩:=J5.out.2.2.2.1
   have z:CmB (w4.setCell ⟨w1.heap.size,4,none⟩ (.int .i64 x)) w.heap.size 32 Cm.zero:=J5.out.2.2.1
   go_wp2_with (first|(refine wpList_getC rfl _ rfl w1.heap.size rfl ⟨r.o,r.p,r.a,r.b,x⟩ q ?_)|(refine wpList_putC rfl _ _ rfl w.heap.size ⟨r.o,r.p,r.a,r.b,x⟩ Cm.zero rfl rfl z ?_;intro we Re Ge))
   refine bodyPost_ret (results_C rfl _ _ w.heap.size _ rfl Re) rfl ?_
   exact⟨_,rfl,J5.out.fin Ge⟩
end Go.Proofs.YtpdggofaobmnlaaGreatDoor
