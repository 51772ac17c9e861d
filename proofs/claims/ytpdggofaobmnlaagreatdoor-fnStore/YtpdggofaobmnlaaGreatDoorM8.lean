import Derived.Test.YtpdggofaobmnlaaGreatDoorM7
import Derived.Deep.RegionWith
import Derived.Test.YtpdggofaobmnlaaGreatDoorM5
import Derived.Deep.RegionHeld3
import Derived.Test.YtpdggofaobmnlaaGreatDoorM4
import Derived.Test.YtpdggofaobmnlaaGreatDoorM2
import Derived.Test.YtpdggofaobmnlaaGreatDoorDisk
import Derived.WalkSpells
/- What the laws on holdings draw: l8DrawAny, l8DrawWho, DrawMay. -/
set_option maxRecDepth 20000
set_option maxHeartbeats 4000000
namespace Go.Proofs.YtpdggofaobmnlaaGreatDoor
open Go.ChangeShapes Go.WideShapes Go.ChangeAt Go.RowKit
def DrawnH (w w':World) (u:Value) (h:Hd):Prop:=Reads w' u h.ks∧(∃q off cap,u=.slice (some ⟨q,off,none⟩) h.ks.length cap∧w.heap.size≤q∧q<w'.heap.size)∧h.ks.length≤4
theorem DrawnH.own {w w':World} {q cap:Nat} {h:Hd} (o:Own w' w.heap.size (.slice (some ⟨q,0,none⟩) 4 cap) h.ks) (hl:h.ks.length=4) (hq:w.heap.size≤q):DrawnH w w' (.slice (some ⟨q,0,none⟩) 4 cap) h:=
 ⟨o.reads,⟨q,0,cap,by rw[hl],hq,(o.lt q rfl).2⟩,by omega⟩
theorem DrawnH.tail {w w':World} {q cap:Nat} {h:Hd} (o:Own w' w.heap.size (.slice (some ⟨q,0,none⟩) 4 cap) h.ks) (hl:h.ks.length=4) (hq:w.heap.size≤q):DrawnH w w' (.slice (some ⟨q,1,none⟩) 3 (cap-1)) ⟨h.ks.drop 1,h.kd,h.ho,h.tu⟩:=by
 have r:=o.reads
 have hlt:=(o.lt q rfl).2
 obtain⟨e1,e2,e3,hc⟩:=reads_cells r
 refine⟨⟨some ⟨q,1,none⟩,cap-1,by simp[hl],by simp[hl];omega,⟨by omega,?_⟩,.inr ⟨q,1,rfl,?_⟩⟩,⟨q,1,cap-1,by simp[hl],hq,hlt⟩,by simp[hl]⟩
 ·intro e;cases e
 ·intro j hj
  have hj3:j<3:=by simpa[hl]using hj
  obtain⟨b,off,e,hcell⟩:=hc (1+j) (by omega)
  simp only[Option.some.injEq,Addr.mk.injEq]at e
  obtain⟨rfl,rfl, -⟩:=e
  have hx:h.ks.getD (1+j) 0=(h.ks.drop 1).getD j 0:=by simp[List.getD,Nat.add_comm]
  rw[Nat.zero_add,hx]at hcell
  exact hcell
theorem lit_at {w w':World} (xs:List Int) {t:TypeId} {row:Option Nat} (hg:(w.alloc (.cells (xs.map (Value.int .i64)).toArray t)).grownBy w' row) (hne:row≠some w.heap.size) (i:Int) (h0:0≤i) (h1:i<xs.length):
  ∃x:Int,w'.cell? ⟨w.heap.size,i.toNat,none⟩=some (.int .i64 x):=by
 rw[lit_kept hg hne i.toNat]
 have:i.toNat<xs.length:=by omega
 exact⟨xs[i.toNat],by simp[this]⟩
theorem lit_idx (xs:List Int) (i:Int) (h0:0≤i) (h1:i<xs.length):∃x:Int,∀hh:i.toNat<(xs.map (Value.int .i64)).length,(xs.map (Value.int .i64))[i.toNat]'hh=.int .i64 x:=by
 have:i.toNat<xs.length:=by omega
 exact⟨xs[i.toNat],fun hh=>by simp⟩
theorem DH.cut {w wx:World} {B c g k q n cap:Nat} {h:Hd} (d:DH w wx B c g k q n cap h) (u:Value):StB (wx.setCell ⟨k,0,none⟩ u) k 28 (hdA u h)∧StB (wx.setCell ⟨k,0,none⟩ u) g 28 zeroH∧
  ∀wy,(wx.setCell ⟨k,0,none⟩ u).grownBy wy (some g)→Own wy w.heap.size (.slice (some ⟨q,0,none⟩) n cap) h.ks∧Cur wy B c∧w.grownBy wy (some c):=by
 obtain⟨h1,h2,h3,h4,h5,h6⟩:=d
 have G:=grownSet wx k 0 u
 refine⟨h4.put 0 u rfl,h3.kept G (by intro e;have:=Option.some.inj e;omega),fun wy G2=>?_⟩
 have c1:Cur (wx.setCell ⟨k,0,none⟩ u) B c:=h1.kept G (by intro e;have:=Option.some.inj e;omega) (fun y e=>by cases e;omega)
 have g1:w.grownBy (wx.setCell ⟨k,0,none⟩ u) (some c):=grown_ownU h2 G (fun y e=>by cases e;omega)
 have o1:Own (wx.setCell ⟨k,0,none⟩ u) w.heap.size (.slice (some ⟨q,0,none⟩) n cap) h.ks:=h5.kept G (.inr (by intro e;have:q=k:=Option.some.inj e;omega))
 refine⟨o1.kept G2 (.inr ?_),c1.kept G2 ?_ (fun x e=>by cases e;omega),grown_ownU g1 G2 (fun x e=>by cases e;omega)⟩
 ·intro e;have:q=g:=Option.some.inj e;omega
 ·intro e;have:=Option.some.inj e;omega
theorem l8drawAny_any (B c:Nat) (w:World) (hcur:Cur w B c):
  Calls Tryz.prog 66 #[.pointer (some ⟨c,0,none⟩)] w fun e w'=>∃(h:Hd) (u:Value),e=.returned (HV u h)∧DrawnH w w' u h∧Cur w' B c∧w.grownBy w' (some c):=by
 have hlt:=hcur.lt
 have C0:Cur (w.alloc (.cells zeroH 28)) B c:=hcur.kept (World.grownBy_alloc w _ none) (by simp) (by simp)
 have S0:StB (w.alloc (.cells zeroH 28)) w.heap.size 28 zeroH:=StB.new w _ _
 have HC0:Hid (Cur (w.alloc (.cells zeroH 28)) B c∧StB (w.alloc (.cells zeroH 28)) w.heap.size 28 zeroH):=⟨C0,S0⟩
 clear hcur C0 S0
 go_enter Tryz.func66,Tryz.ntmps66
 go_wp2_with fail
 refine(l8draw_any B c _ HC0.out.1).mono ?_
 rintro e w1 ⟨h,q,cap,rfl,hl,hq,o1,C1,G1⟩
 have hq1:=(o1.lt q rfl).2
 have hq2:w.heap.size<q:=by simp at hq;omega
 have HL:Hid (h.ks.length=4):=hl
 clear hl hq
 have HD:Hid (DH w (w1.alloc (.cells (hdA (.slice (some ⟨q,0,none⟩) 4 cap) h) 28)) B c w.heap.size w1.heap.size q 4 cap h):=by
  have G2:=World.grownBy_alloc w1 (.cells (hdA (.slice (some ⟨q,0,none⟩) 4 cap) h) 28) (some c)
  have b2:Below w1.heap.size w1 (w1.alloc (.cells (hdA (.slice (some ⟨q,0,none⟩) 4 cap) h) 28)):=(Below.refl _ _).alloc (Nat.le_refl _) _
  have bs:=G1.size
  simp at bs
  refine⟨C1.below b2,((World.grownBy_alloc w _ _).trans G1).trans G2,(HC0.out.2.kept G1 (by intro e;have:=Option.some.inj e;omega)).below b2,StB.new w1 _ _,(Own.below o1 b2).mono (by simp),by omega,by omega,by omega,by omega,by omega,by omega,by omega,by omega,HL.out.symm⟩
 clear o1 C1 G1 HC0
 unfold HV hdA
 have hs1:w.heap.size<w1.heap.size:=by omega
 have hne1:w.heap.size≠w1.heap.size:=by omega
 have hne2:w1.heap.size≠q:=by omega
 have hne3:w.heap.size≠q:=by omega
 unfold hdA at HD
 go_wp2_with fail
 refine(once_any B c 8 _ HD.out.1 (by omega)).mono ?_
 rintro e w2 ⟨b2,rfl,C2,G2⟩
 have H2:Hid (DH w w2 B c w.heap.size w1.heap.size q 4 cap h):=HD.out.draw C2 G2
 clear C2 G2 HD
 have s2:=H2.out.2.2.2.1.lt
 cases b2 with
 |false=>
  have zq:=H2.out.2.2.2.1
  have zz:=H2.out.2.2.1
  go_wp2_with (first|(refine wpList_getS Tryz.isH rfl _ rfl w1.heap.size rfl (hdA (.slice (some ⟨q,0,none⟩) 4 cap) h) rfl zq ?_)|(refine wpList_putS Tryz.isH rfl _ _ rfl w.heap.size (hdA (.slice (some ⟨q,0,none⟩) 4 cap) h) zeroH rfl rfl rfl rfl (hdA_one _ rfl) zz ?_;intro we se ge))
  refine bodyPost_ret (results_S Tryz.isH rfl _ _ w.heap.size _ rfl rfl se) rfl ?_
  have hfin:=H2.out.fin ge
  exact⟨h,_,rfl,DrawnH.own (h:=h) hfin.1 HL.out (by omega),hfin.2⟩
 |true=>
  go_wp2_with fail
  refine(below_any B c 5 _ H2.out.1 (by omega)).mono ?_
  rintro e w3 ⟨x3,rfl,l3,u3, -,C3,G3⟩
  have y3:=u3 (by omega)
  have H3:Hid (DH w w3 B c w.heap.size w1.heap.size q 4 cap h):=H2.out.draw C3 G3
  clear u3 C3 G3 H2 s2
  have s3:=H3.out.2.2.2.1.lt
  obtain rfl|rfl|rfl|rfl|rfl:x3=0∨x3=1∨x3=2∨x3=3∨x3=4:=by omega
  ·clear l3 y3
   have k3:w3.cell? ⟨w1.heap.size,0,none⟩=some (.slice (some ⟨q,0,none⟩) 4 cap):=H3.out.2.2.2.1.cell 0 rfl
   have hcw:c<w3.heap.size:=by have:=H3.out.1.lt;omega
   have L3:Hid (DH w (w3.alloc (.cells #[.int .i64 (-1),.int .i64 9999,.int .i64 10000] 2)).drew B c w.heap.size w1.heap.size q 4 cap h):=(H3.out.alloc _).drew
   have q3:=(H3.out.2.2.2.2.1.lt q rfl).2
   go_wp2_with fail
   go_region_with (first
    |(go_at_call 67;refine(below_any B c 3 _ L3.out.1 (by omega)).mono ?_;rintro e w4 ⟨i,rfl,li,ui, -,C4,G4⟩;have vi:=ui (by omega);have H4:Hid (DH w w4 B c w.heap.size w1.heap.size q 4 cap h):=L3.out.draw C4 G4;obtain⟨x,hx⟩:=lit_at (w:=w3) [-1,9999,10000] (t:=2) ⟨G4.os,G4.tape,G4.output,G4.size,G4.block⟩ (by simp;omega) i (by omega) (by simp;omega);clear ui C4 G4;have k4:w4.cell? ⟨w1.heap.size,0,none⟩=some (.slice (some ⟨q,0,none⟩) 4 cap):=H4.out.2.2.2.1.cell 0 rfl;obtain⟨fj,⟨yj,cj⟩,HK⟩:=H4.out.key 0 (by omega) x;have HK2:Hid (DH w (w4.setCell ⟨q,0,none⟩ (.int .i64 x)) B c w.heap.size w1.heap.size q 4 cap ⟨h.ks.set 0 x,h.kd,h.ho,h.tu⟩):=HK;clear HK H4)
    |(go_at_call 67;refine(below_any B c 3 _ H3.out.drew.1 (by omega)).mono ?_;rintro e w4 ⟨i,rfl,li,ui, -,C4,G4⟩;have vi:=ui (by omega);have H4:Hid (DH w w4 B c w.heap.size w1.heap.size q 4 cap h):=H3.out.drew.draw C4 G4;have L4:Hid (DH w (w4.alloc (.cells #[.int .i64 (-1),.int .i64 9999,.int .i64 10000] 2)) B c w.heap.size w1.heap.size q 4 cap h):=H4.out.alloc _;obtain⟨x,hx'⟩:=lit_idx [-1,9999,10000] i (by omega) (by simp;omega);have hx:∀hh:i.toNat<([.int .i64 (-1),.int .i64 9999,.int .i64 10000]:List Value).length,([.int .i64 (-1),.int .i64 9999,.int .i64 10000]:List Value)[i.toNat]'hh=.int .i64 x:=hx';clear hx';have k4':w4.cell? ⟨w1.heap.size,0,none⟩=some (.slice (some ⟨q,0,none⟩) 4 cap):=H4.out.2.2.2.1.cell 0 rfl;clear ui C4 G4;have k4:=L4.out.2.2.2.1.cell 0 (x:=(.slice (some ⟨q,0,none⟩) 4 cap)) rfl;obtain⟨fj,⟨yj,cj⟩,HK⟩:=L4.out.key 0 (by omega) x;have HK2:Hid (DH w ((w4.setCell ⟨q,0,none⟩ (.int .i64 x)).alloc (.cells #[.int .i64 (-1),.int .i64 9999,.int .i64 10000] 2)) B c w.heap.size w1.heap.size q 4 cap ⟨h.ks.set 0 x,h.kd,h.ho,h.tu⟩):=(H4.out.key 0 (by omega) x).2.2.alloc _;have s4:=H4.out.2.2.2.1.lt;have q4:=(H4.out.2.2.2.2.1.lt q rfl).2;have n4:q≠w4.heap.size:=Nat.ne_of_lt q4;have z4:=H4.out.key 0 (by omega) x;have fz:=z4.1;have⟨yz,cz⟩:=z4.2.1;clear z4 HK H4 L4))
   all_goals
    (skip
     have zq:=HK2.out.2.2.2.1
     have zz:=HK2.out.2.2.1
     go_wp2_with (first|(refine wpList_getS Tryz.isH rfl _ rfl w1.heap.size rfl (hdA (.slice (some ⟨q,0,none⟩) 4 cap) ⟨h.ks.set 0 x,h.kd,h.ho,h.tu⟩) rfl zq ?_)|(refine wpList_putS Tryz.isH rfl _ _ rfl w.heap.size (hdA (.slice (some ⟨q,0,none⟩) 4 cap) ⟨h.ks.set 0 x,h.kd,h.ho,h.tu⟩) zeroH rfl rfl rfl rfl (hdA_one _ rfl) zz ?_;intro we se ge))
     refine bodyPost_ret (results_S Tryz.isH rfl _ _ w.heap.size _ rfl rfl se) rfl ?_
     have hfin:=HK2.out.fin ge
     exact⟨⟨h.ks.set 0 x,h.kd,h.ho,h.tu⟩,_,rfl,DrawnH.own (h:=⟨h.ks.set 0 x,h.kd,h.ho,h.tu⟩) hfin.1 (by rw[List.length_set];exact HL.out) (by omega),hfin.2⟩)
  ·clear l3 y3
   have k3:w3.cell? ⟨w1.heap.size,0,none⟩=some (.slice (some ⟨q,0,none⟩) 4 cap):=H3.out.2.2.2.1.cell 0 rfl
   have f3:=H3.out.2.2.2.1.frozen 0
   have hcap:4≤cap:=(reads_cells H3.out.2.2.2.2.1.reads).2.1
   obtain⟨zq,zz,HF⟩:=H3.out.cut (.slice (some ⟨q,1,none⟩) 3 (cap-1))
   go_wp2_with (first|(refine wpList_getS Tryz.isH rfl _ rfl w1.heap.size rfl (hdA (.slice (some ⟨q,1,none⟩) 3 (cap-1)) h) rfl zq ?_)|(refine wpList_putS Tryz.isH rfl _ _ rfl w.heap.size (hdA (.slice (some ⟨q,1,none⟩) 3 (cap-1)) h) zeroH rfl rfl rfl rfl (hdA_one _ rfl) zz ?_;intro we se ge))
   refine bodyPost_ret (results_S Tryz.isH rfl _ _ w.heap.size _ rfl rfl se) rfl ?_
   have hfin:=HF we ge
   exact⟨⟨h.ks.drop 1,h.kd,h.ho,h.tu⟩,_,rfl,DrawnH.tail hfin.1 HL.out (by omega),hfin.2⟩
  ·clear l3 y3
   go_wp2_with fail
   refine(from_any B c (-1) 9 _ H3.out.1 (by omega) (by omega) (by omega)).mono ?_
   rintro e w4 ⟨x,rfl,lx,ux,C4,G4⟩
   have H4:Hid (DH w w4 B c w.heap.size w1.heap.size q 4 cap h):=H3.out.draw C4 G4
   clear C4 G4 H3
   have k4:w4.cell? ⟨w1.heap.size,1,none⟩=some (.int .i64 h.kd):=H4.out.2.2.2.1.cell 1 rfl
   have f4:=H4.out.2.2.2.1.frozen 1
   have s4:=H4.out.2.2.2.1.lt
   have J4:Hid (DH w (w4.setCell ⟨w1.heap.size,1,none⟩ (.int .i64 x)) B c w.heap.size w1.heap.size q 4 cap ⟨h.ks,x,h.ho,h.tu⟩):=H4.out.put 1 x ⟨h.ks,x,h.ho,h.tu⟩ rfl rfl
   clear H4
   have zq:=J4.out.2.2.2.1
   have zz:=J4.out.2.2.1
   go_wp2_with (first|(refine wpList_getS Tryz.isH rfl _ rfl w1.heap.size rfl (hdA (.slice (some ⟨q,0,none⟩) 4 cap) ⟨h.ks,x,h.ho,h.tu⟩) rfl zq ?_)|(refine wpList_putS Tryz.isH rfl _ _ rfl w.heap.size (hdA (.slice (some ⟨q,0,none⟩) 4 cap) ⟨h.ks,x,h.ho,h.tu⟩) zeroH rfl rfl rfl rfl (hdA_one _ rfl) zz ?_;intro we se ge))
   refine bodyPost_ret (results_S Tryz.isH rfl _ _ w.heap.size _ rfl rfl se) rfl ?_
   have hfin:=J4.out.fin ge
   exact⟨⟨h.ks,x,h.ho,h.tu⟩,_,rfl,DrawnH.own (h:=⟨h.ks,x,h.ho,h.tu⟩) hfin.1 HL.out (by omega),hfin.2⟩
  ·clear l3 y3
   go_wp2_with fail
   refine(from_any B c (-2) 7 _ H3.out.1 (by omega) (by omega) (by omega)).mono ?_
   rintro e w4 ⟨x,rfl,lx,ux,C4,G4⟩
   have H4:Hid (DH w w4 B c w.heap.size w1.heap.size q 4 cap h):=H3.out.draw C4 G4
   clear C4 G4 H3
   have k4:w4.cell? ⟨w1.heap.size,2,none⟩=some (.int .i64 h.ho):=H4.out.2.2.2.1.cell 2 rfl
   have f4:=H4.out.2.2.2.1.frozen 2
   have s4:=H4.out.2.2.2.1.lt
   have J4:Hid (DH w (w4.setCell ⟨w1.heap.size,2,none⟩ (.int .i64 x)) B c w.heap.size w1.heap.size q 4 cap ⟨h.ks,h.kd,x,h.tu⟩):=H4.out.put 2 x ⟨h.ks,h.kd,x,h.tu⟩ rfl rfl
   clear H4
   have zq:=J4.out.2.2.2.1
   have zz:=J4.out.2.2.1
   go_wp2_with (first|(refine wpList_getS Tryz.isH rfl _ rfl w1.heap.size rfl (hdA (.slice (some ⟨q,0,none⟩) 4 cap) ⟨h.ks,h.kd,x,h.tu⟩) rfl zq ?_)|(refine wpList_putS Tryz.isH rfl _ _ rfl w.heap.size (hdA (.slice (some ⟨q,0,none⟩) 4 cap) ⟨h.ks,h.kd,x,h.tu⟩) zeroH rfl rfl rfl rfl (hdA_one _ rfl) zz ?_;intro we se ge))
   refine bodyPost_ret (results_S Tryz.isH rfl _ _ w.heap.size _ rfl rfl se) rfl ?_
   have hfin:=J4.out.fin ge
   exact⟨⟨h.ks,h.kd,x,h.tu⟩,_,rfl,DrawnH.own (h:=⟨h.ks,h.kd,x,h.tu⟩) hfin.1 HL.out (by omega),hfin.2⟩
  ·clear l3 y3
   have L3:Hid (DH w (w3.alloc (.cells #[.int .i64 (-1),.int .i64 1000000001] 2)) B c w.heap.size w1.heap.size q 4 cap h):=H3.out.alloc _
   have hcw:c<w3.heap.size:=by have:=H3.out.1.lt;omega
   clear H3
   go_wp2_with fail
   refine(below_any B c 2 _ L3.out.1 (by omega)).mono ?_
   rintro e w4 ⟨i,rfl,li,ui, -,C4,G4⟩
   have vi:=ui (by omega)
   have H4:Hid (DH w w4 B c w.heap.size w1.heap.size q 4 cap h):=L3.out.draw C4 G4
   obtain⟨x,hx⟩:=lit_at (w:=w3) [-1,1000000001] (t:=2) G4 (by simp;omega) i (by omega) (by simp;omega)
   clear ui C4 G4 L3
   have k4:w4.cell? ⟨w1.heap.size,3,none⟩=some (.int .i64 h.tu):=H4.out.2.2.2.1.cell 3 rfl
   have f4:=H4.out.2.2.2.1.frozen 3
   have s4:=H4.out.2.2.2.1.lt
   have J4:Hid (DH w (w4.setCell ⟨w1.heap.size,3,none⟩ (.int .i64 x)) B c w.heap.size w1.heap.size q 4 cap ⟨h.ks,h.kd,h.ho,x⟩):=H4.out.put 3 x ⟨h.ks,h.kd,h.ho,x⟩ rfl rfl
   clear H4
   have zq:=J4.out.2.2.2.1
   have zz:=J4.out.2.2.1
   go_wp2_with (first|(refine wpList_getS Tryz.isH rfl _ rfl w1.heap.size rfl (hdA (.slice (some ⟨q,0,none⟩) 4 cap) ⟨h.ks,h.kd,h.ho,x⟩) rfl zq ?_)|(refine wpList_putS Tryz.isH rfl _ _ rfl w.heap.size (hdA (.slice (some ⟨q,0,none⟩) 4 cap) ⟨h.ks,h.kd,h.ho,x⟩) zeroH rfl rfl rfl rfl (hdA_one _ rfl) zz ?_;intro we se ge))
   refine bodyPost_ret (results_S Tryz.isH rfl _ _ w.heap.size _ rfl rfl se) rfl ?_
   have hfin:=J4.out.fin ge
   exact⟨⟨h.ks,h.kd,h.ho,x⟩,_,rfl,DrawnH.own (h:=⟨h.ks,h.kd,h.ho,x⟩) hfin.1 HL.out (by omega),hfin.2⟩
end Go.Proofs.YtpdggofaobmnlaaGreatDoor
namespace Go.Proofs.YtpdggofaobmnlaaGreatDoor
open Go.ChangeShapes Go.WideShapes Go.ChangeAt Go.RowKit
theorem l8who_any (B c:Nat) (w:World) (hcur:Cur w B c):
  Calls Tryz.prog 29 #[.pointer (some ⟨c,0,none⟩)] w fun e w'=>∃x:Int,e=.returned (.int .i64 x)∧Cur w' B c∧w.grownBy w' (some c):=by
 have hcw:=hcur.lt.2
 have HC0:Hid (Cur w B c):=hcur
 clear hcur
 go_enter Tryz.func29,Tryz.ntmps29
 go_wp2_with fail
 refine(once_any B c 14 _ HC0.out (by omega)).mono ?_
 rintro e w1 ⟨b,rfl,C1,G1⟩
 have HC1:Hid (Cur w1 B c∧w.grownBy w1 (some c)):=⟨C1,G1⟩
 have hc1:=C1.lt.2
 clear HC0 C1 G1
 cases b with
 |false=>
  go_wp2_with fail
  refine(below_any B c 4 _ HC1.out.1 (by omega)).mono ?_
  rintro e w2 ⟨x,rfl,lx,ux, -,C2,G2⟩
  go_wp2_with fail
  go_ret
  exact⟨x,rfl,C2,HC1.out.2.trans G2⟩
 |true=>
  have L1:Hid (Cur (w1.alloc (.cells #[.int .i64 (-1),.int .i64 4,.int .i64 4611686018427387904] 2)) B c∧w.grownBy (w1.alloc (.cells #[.int .i64 (-1),.int .i64 4,.int .i64 4611686018427387904] 2)) (some c)):=
   ⟨HC1.out.1.kept (World.grownBy_alloc w1 _ none) (by simp) (by simp),HC1.out.2.trans (World.grownBy_alloc w1 _ _)⟩
  clear HC1
  go_wp2_with fail
  refine(below_any B c 3 _ L1.out.1 (by omega)).mono ?_
  rintro e w2 ⟨i,rfl,li,ui, -,C2,G2⟩
  have vi:=ui (by omega)
  obtain⟨x,hx⟩:=lit_at (w:=w1) [-1,4,4611686018427387904] (t:=2) G2 (by simp;omega) i (by omega) (by simp;omega)
  have HC2:Hid (Cur w2 B c∧w.grownBy w2 (some c)):=⟨C2,L1.out.2.trans G2⟩
  clear ui C2 G2 L1
  go_wp2_with fail
  go_ret
  exact⟨x,rfl,HC2.out⟩
theorem DrawnH.kept {w w' w2:World} {u:Value} {h:Hd} {row:Option Nat} (d:DrawnH w w' u h) (G:w'.grownBy w2 row) (hr:∀k,row=some k→k<w.heap.size∨w'.heap.size≤k):DrawnH w w2 u h:=by
 obtain⟨⟨ao,cap',e,h1,h2,h3⟩,⟨q,off,cap,e2,hq1,hq2⟩,hl⟩:=d
 subst e
 simp only[Value.slice.injEq]at e2
 obtain⟨rfl, -,rfl⟩:=e2
 refine⟨⟨_,_,rfl,h1,h2,?_⟩,⟨q,off,cap',rfl,hq1,Nat.lt_of_lt_of_le hq2 G.size⟩,hl⟩
 rcases h3 with h3|⟨b,o2,e3,h3⟩
 ·exact .inl h3
 ·refine .inr ⟨b,o2,e3,fun j hj=>?_⟩
  simp only[Option.some.injEq,Addr.mk.injEq]at e3
  obtain⟨rfl,rfl, -⟩:=e3
  exact G.cell (h3 j hj) (fun e=>by rcases hr q e.symm with h|h<;>omega)
theorem DrawnH.mono {w0 w w':World} {u:Value} {h:Hd} (d:DrawnH w w' u h) (hb:w0.heap.size≤w.heap.size):DrawnH w0 w' u h:=by
 obtain⟨h1,⟨q,off,cap,e2,hq1,hq2⟩,hl⟩:=d
 exact⟨h1,⟨q,off,cap,e2,Nat.le_trans hb hq1,hq2⟩,hl⟩
def DM (w w1 wx:World) (B c g k:Nat) (u:Value) (h:Hd):Prop:=
 Cur wx B c∧Below w.heap.size w wx∧StB wx g 28 zeroH∧StB wx k 28 (hdA u h)∧DrawnH w1 wx u h∧(w.heap.size≤g∧g<w1.heap.size∧w.heap.size≤c∧c<w1.heap.size∧g≠c∧w1.heap.size≤k∧g≠k∧w.heap.size≤w1.heap.size)
theorem DM.draw {w w1 wx wy:World} {B c g k:Nat} {u:Value} {h:Hd} (d:DM w w1 wx B c g k u h) (C:Cur wy B c) (G:wx.grownBy wy (some c)):DM w w1 wy B c g k u h:=by
 obtain⟨h1,h2,h3,h4,h5,h6⟩:=d
 refine⟨C,h2.grown G h2.size (fun x e=>by cases e;omega),h3.kept G ?_,h4.kept G ?_,h5.kept G (fun x e=>by cases e;omega),h6⟩
 ·intro e;have:=Option.some.inj e;omega
 ·intro e;have:=Option.some.inj e;omega
theorem DM.drew {w w1 wx:World} {B c g k:Nat} {u:Value} {h:Hd} (d:DM w w1 wx B c g k u h):DM w w1 wx.drew B c g k u h:=by
 obtain⟨h1,h2,h3,h4,h5,h6⟩:=d
 exact⟨h1,h2.drew,h3,h4,h5,h6⟩
theorem DM.fin {w w1 wx wy:World} {B c g k:Nat} {u:Value} {h:Hd} (d:DM w w1 wx B c g k u h) (G:wx.grownBy wy (some g)):DrawnH w wy u h∧Below w.heap.size w wy:=by
 obtain⟨h1,h2,h3,h4,h5,h6⟩:=d
 exact⟨(h5.kept G (fun x e=>by cases e;omega)).mono h6.2.2.2.2.2.2.2,h2.grown G h2.size (fun x e=>by cases e;omega)⟩
end Go.Proofs.YtpdggofaobmnlaaGreatDoor
namespace Go.Proofs.YtpdggofaobmnlaaGreatDoor
open Go.ChangeShapes Go.WideShapes Go.ChangeAt Go.RowKit
theorem bel_alloc {w wx:World} {o:Obj} (h:Below w.heap.size w wx):Below w.heap.size w (wx.alloc o):=h.alloc h.size _
theorem bel_drew {w wx:World} (h:Below w.heap.size w wx):Below w.heap.size w wx.drew:=h.drew
theorem bel_trans {w wx wy:World} (h:Below w.heap.size w wx) (b:Below wx.heap.size wx wy):Below w.heap.size w wy:=h.trans (b.mono h.size)
def Sx (w wx:World):Prop:=Below w.heap.size w wx
theorem later_cell {w wx:World} {a:Addr} {v:Value} (h:w.cell? a=some v) (b:Below w.heap.size w wx):wx.cell? a=some v:=by
 rw[b.cell (World.block_lt_of_cell? w _ h)];exact h
theorem StB.newE (w:World) (t:TypeId) (cs:Array Value) {g:Nat} (h:g=w.heap.size):StB (w.alloc (.cells cs t)) g t cs:=by subst h;exact StB.new w t cs
theorem StB.dr {w:World} {g:Nat} {t:TypeId} {cs:Array Value} (h:StB w g t cs):StB w.drew g t cs:=h
theorem StB.al {w:World} {g:Nat} {t:TypeId} {cs:Array Value} {o:Obj} (h:StB w g t cs):StB (w.alloc o) g t cs:=h.alloc o
theorem StB.bel {w w':World} {g:Nat} {t:TypeId} {cs:Array Value} (h:StB w g t cs) (b:Below w.heap.size w w'):StB w' g t cs:=h.below b
theorem StB.typ {w:World} {g k:Nat} {t s:TypeId} {cs ds:Array Value} (h:StB w g t cs) (h':StB w k s ds) (hne:t≠s):g≠k:=by
 rintro rfl
 unfold StB at h h'
 rw[h]at h'
 simp at h'
 exact hne h'.2
theorem Own.ne {w:World} {base g:Nat} {v:Value} {xs:List Int} {t:TypeId} {cs:Array Value} (h:Own w base v xs) (h':StB w g t cs) (hne:t≠2):v.ownBlock≠some g:=by
 intro e
 rcases h.2 with⟨rfl, -⟩|⟨k,cap,cur,rfl, -,hg, -⟩
 ·cases e
 ·simp only[Value.ownBlock,Option.some.injEq]at e
  subst e
  unfold StB at h'
  rw[hg]at h'
  simp at h'
  exact hne h'.2.symm
theorem Own.putBy {w w':World} {base g:Nat} {v:Value} {xs:List Int} {t:TypeId} {cs:Array Value} (h:Own w base v xs) (h':StB w g t cs) (hne:t≠2) (b:w.grownBy w' (some g)):Own w' base v xs:=
 h.kept b (.inr (h.ne h' hne))
theorem bel_put {w wx wy:World} {g:Nat} (h:Below w.heap.size w wx) (b:wx.grownBy wy (some g)) (hg:w.heap.size≤g):Below w.heap.size w wy:=
 h.grown b h.size (fun k e=>by cases e;exact hg)
theorem step_putS {t:TypeId} {n:Nat} (hS:IsS t n) {ops:Array Oper} {o:Oper} {a:Act} {w:World} {K:Act→World→Prop} {Q:Exit→Act→World→Prop} {E:Prop} (hgd:o.guard=none) (x y:Operand) (ho:o.op=.store t x y)
  (g:Nat) (cs ds:Array Value) (hx:a.eval x=.pointer (some ⟨g,0,none⟩)) (hy:a.eval y=.agg cs) (hn:cs.size=n) (hd:ds.size=n) (h1:cs.all (·.oneCell')=true) (hr:StB w g t ds)
  (h:∀w',StB w' g t cs→w.grownBy w' (some g)→K (a.put o.dst undef) w'):if Region.wanted o (yielded ops a.tmps)=true then Oper.wp Tryz.prog o a w K Q else E:=by
 have hw:Region.wanted o (yielded ops a.tmps)=true:=by simp[Region.wanted,hgd]
 rw[if_pos hw]
 exact wp_store_row t x y ho g cs hx hy _ _ hr (by rw[hS.2,hn]) (by rw[hd,hn]) h1 (h _ (setRow_heap w g _ _ _ _ hr) (grownRowS w g _))
theorem ge_of {w wx wy:World} {g:Nat} (_:wx.grownBy wy (some g)) (l:w.heap.size≤g):w.heap.size≤g:=l
theorem StB.keptT {w w':World} {g k:Nat} {t s:TypeId} {cs ds:Array Value} (h:StB w k s ds) (h':StB w g t cs) (b:w.grownBy w' (some g)) (ne:t≠s):StB w' k s ds:=h.kept b (fun e=>StB.typ h' h ne (Option.some.inj e).symm)
theorem upon_putS {o:Oper} {a:Act} {w:World} {K:Act→World→Prop} {Q:Exit→Act→World→Prop} (g:Nat) (t:TypeId) (cs ds:Array Value) (hd:ds.size=cs.size) (h1:cs.all (·.oneCell')=true) (hr:StB w g t ds)
  (h:∀w',StB w' g t cs→w.grownBy w' (some g)→Oper.upon Tryz.prog o a K Q (.ok .skip w')):
  Oper.upon Tryz.prog o a K Q (((storeCells ⟨g,0,none⟩ cs.toList).run Tryz.prog w).andThen fun _ w'=>.ok .skip w'):=by
 have e:=run_storeCells_from (P:=Tryz.prog) g t cs.toList 0 ds w hr (by simp;omega) (fun v hv=>(Array.all_eq_true_iff_forall_mem.1 h1) v (by simpa using hv))
 rw[e]
 simp only[List.take_zero,List.nil_append,Array.toArray_toList,Result.andThen_ok]
 exact h _ (setRow_heap w g _ _ _ _ hr) (grownRowS w g _)
def dkA (u v:Value):Array Value:=#[u,v]
end Go.Proofs.YtpdggofaobmnlaaGreatDoor
namespace Go.Proofs.YtpdggofaobmnlaaGreatDoor
def Cm.rd (c:Cm):Bool:=c.ok&&decide (c.o=1)
def Cm.wr (c:Cm):Bool:=c.ok&&inI c.o 2 5
end Go.Proofs.YtpdggofaobmnlaaGreatDoor
namespace Go.Proofs.YtpdggofaobmnlaaGreatDoor
open Go.RowKit
structure An where
 st:Int
 tx:Bs
def anA (x:An):Array Value:=#[.int .i64 x.st,S x.tx]
def AV (x:An):Value:=.agg (anA x)
def rangeI (ys:List Int) (c:Cm):Bool:=decide ((ys.length:Int)≤c.p)||(decide (c.o=2)&& !valOk c.a)||(decide (c.o=3)&& !valOk c.b)
def atI (ys:List Int) (c:Cm):Int:=ys.getD c.p.toNat 0
def didI (xs ys:List Int) (c:Cm):List Int×List Int×An:=
 if c.o=5 then(ys,ys,⟨0,[]⟩)
 else if rangeI ys c then(xs,ys,⟨1,[]⟩)
 else if c.o=1 then(xs,ys,⟨0,decI (atI ys c)⟩)
 else if c.o=2 then(xs,ys.set c.p.toNat c.a,⟨0,[]⟩)
 else if c.o=3 then(if atI ys c=c.a then(xs,ys.set c.p.toNat c.b,⟨0,[]⟩)else(xs,ys,⟨2,decI (atI ys c)⟩))
 else(xs,ys.set c.p.toNat 0,⟨0,[]⟩)
def didD (xs ys:List Int) (c:Cm):List Int×List Int×An:=
 if bothOk xs ys then(if c.ok&&decide (c.o≤5)then didI xs ys c else(xs,ys,⟨7,[]⟩))else([],[],⟨7,[]⟩)
theorem Cm.ok_vol {c:Cm} (h:c.ok=true) (h5:c.o≤5):(c.o=1∨c.o=2∨c.o=3∨c.o=4∨c.o=5)∧0≤c.p:=by
 obtain⟨o,p,a,b,k⟩:=c
 have hb:=Cm.ok_byt h
 unfold Cm.ok Cm.told at h
 dsimp only at h h5
 simp only[Bool.and_eq_true,inI_iff]at h
 unfold Cm.Byt at hb
 dsimp only at hb
 dsimp only
 omega
theorem didI_len (xs ys:List Int) (c:Cm) (h:xs.length≤1048576) (h':ys.length≤1048576):(didI xs ys c).1.length≤1048576∧(didI xs ys c).2.1.length≤1048576:=by
 unfold didI
 split
 ·exact⟨h',h'⟩
 ·split
  ·exact⟨h,h'⟩
  ·split
   ·exact⟨h,h'⟩
   ·split
    ·exact⟨h,by simpa using h'⟩
    ·split
     ·split
      ·exact⟨h,by simpa using h'⟩
      ·exact⟨h,h'⟩
     ·exact⟨h,by simpa using h'⟩
theorem didD_len (xs ys:List Int) (c:Cm) (h:xs.length≤1048576) (h':ys.length≤1048576):(didD xs ys c).1.length≤1048576∧(didD xs ys c).2.1.length≤1048576:=by
 unfold didD
 split
 ·split
  ·exact didI_len xs ys c h h'
  ·exact⟨h,h'⟩
 ·simp
end Go.Proofs.YtpdggofaobmnlaaGreatDoor
namespace Go.Proofs.YtpdggofaobmnlaaGreatDoor
open Go.ChangeShapes Go.WideShapes Go.ChangeAt Go.RowKit
def Boxes (w wx:World) (u v:Value):Prop:=
 Pair wx w.heap.size 26 u v∧Pair wx (w.heap.size+1) 26 (.slice none 0 0) (.slice none 0 0)∧Below w.heap.size w wx∧w.heap.size+2≤wx.heap.size
theorem Boxes.start (w:World) (u v:Value):Boxes w ((w.alloc (.cells #[u,v] 26)).alloc (.cells #[.slice none 0 0,.slice none 0 0] 26)) u v:=by
 refine⟨(Pair.new w _ u v).alloc _,?_,((Below.refl _ _).alloc (Nat.le_refl _) _).alloc (by simp) _,by simp⟩
 have:=Pair.new (w.alloc (.cells #[u,v] 26)) 26 (.slice none 0 0) (.slice none 0 0)
 simpa using this
theorem Boxes.below {w wx wy:World} {u v:Value} (h:Boxes w wx u v) (b:Below wx.heap.size wx wy):Boxes w wy u v:=
 ⟨h.1.below b,h.2.1.below b,h.2.2.1.trans (b.mono h.2.2.1.size),Nat.le_trans h.2.2.2 b.size⟩
theorem Boxes.drew {w wx:World} {u v:Value} (h:Boxes w wx u v):Boxes w wx.drew u v:=⟨h.1,h.2.1,below_drewN h.2.2.1 1,h.2.2.2⟩
theorem Boxes.done {w wx wy:World} {u v a b:Value} {xs ys:List Int} {base base':Nat} (h:Boxes w wx u v) (g:wx.grownBy wy (some (w.heap.size+1))) (oa:Own wx base a xs) (ob:Own wx base' b ys) (hb:w.heap.size+2≤base) (hb':w.heap.size+2≤base') (hap:apart a b):
  OwnD wy w.heap.size a b xs ys∧Below w.heap.size w wy:=
 ⟨⟨(oa.keptLt g (by omega)).mono (by omega),(ob.keptLt g (by omega)).mono (by omega),hap⟩,h.2.2.1.grown g h.2.2.1.size (fun k e=>by cases e;omega)⟩
theorem cell_set1 {w:World} {g j k:Nat} {x y:Value} (h:w.cell? ⟨g,j,none⟩=some x):(w.setCell ⟨g+1,k,none⟩ y).cell? ⟨g,j,none⟩=some x:=by
 rw[World.cell?_of_block (w:=w) (heap_setCell_other w ⟨g+1,k,none⟩ g y (by simp)),h]
theorem grown_two (w:World) (g:Nat) (x y:Value):w.grownBy ((w.setCell ⟨g,0,none⟩ x).setCell ⟨g,1,none⟩ y) (some g):=(grownSet w g 0 x).trans (grownSet _ g 1 y)
theorem apart.symm {u v:Value} (h:apart u v):apart v u:=⟨h.2,h.1⟩
theorem beq_cast (n m:Nat):((n:Int)==(m:Int))=decide (n=m):=by
 by_cases h:n=m
 ·subst h;simp
 ·have:(n:Int)≠m:=by omega
  simp[h,this]
theorem l3Copy_any (u v:Value) (xs ys:List Int) (w:World) (h:Reads w u xs) (h':Reads w v ys) (gx:xs.length≤1099511627776) (gy:ys.length≤1099511627776):
  Calls Tryz.prog 86 #[.agg #[u,v]] w fun e w'=>∃a b,e=.returned (.agg #[a,b])∧OwnD w' w.heap.size a b xs ys∧Below w.heap.size w w':=by
 have HR:Hid (Reads w u xs∧Reads w v ys):=⟨h,h'⟩
 clear h h'
 obtain⟨w2,hw2⟩:∃w2,w2=(w.alloc (.cells #[u,v] 26)).alloc (.cells #[.slice none 0 0,.slice none 0 0] 26):=⟨_,rfl⟩
 have HB:Hid (Boxes w w2 u v):=by rw[hw2];exact Boxes.start w u v
 have c0:=HB.out.1.cell0
 have c1:=HB.out.1.cell1
 go_enter Tryz.func86,Tryz.ntmps86
 go_wp2_with fail
 rw[←hw2]
 clear hw2
 have HB2:=HB.out.drew
 go_region_held3 (fun w'=>w'.cell? ⟨w.heap.size,0,none⟩=some u∧w'.cell? ⟨w.heap.size,1,none⟩=some v) (constructor<;>first|assumption|exact cell_set1 (cell_set1 (by assumption)))
  (first
   |(go_at_call_of 125 u;refine(copy_any u xs w2.drew (HR.out.1.below HB2.2.2.1 (Nat.le_refl _)) gx).mono ?_;rintro e w4 ⟨a,rfl,oa,ba⟩;have HB4:=HB2.below ba;have d0:=HB4.1.cell0;have d1:=HB4.1.cell1;obtain⟨ao,ca,hea⟩:=oa.reads.form;subst hea)
   |(go_at_call_of 125 v;refine(copy_any v ys w4 (HR.out.2.below HB4.2.2.1 (Nat.le_refl _)) gy).mono ?_;rintro e w5 ⟨b,rfl,ob,bb⟩;have hap:=apart_of oa ob (Nat.le_refl _);replace oa:=oa.below bb;have hs5:=ba.size;have HB5:=HB4.below bb;have e0:=HB5.1.cell0;have e1:=HB5.1.cell1;have e2:=HB5.2.1.cell0;have e3:=HB5.2.1.cell1;have f2:=HB5.2.1.frozen 0;have f3:=HB5.2.1.frozen 1;obtain⟨bo,cb,heb⟩:=ob.reads.form;subst heb))
 go_wp2_with fail
 refine bodyPost_ret (results_pair rfl _ _ (w.heap.size+1) _ _ rfl ((HB5.2.1.set0 _).set1 _)) rfl ?_
 exact⟨_,_,rfl,HB5.done (grown_two _ _ _ _) oa ob (HB2.2.2.2) (Nat.le_trans HB2.2.2.2 hs5) hap⟩
theorem l3Flushed_any (u v:Value) (ys:List Int) (w:World) (h':Reads w v ys) (gy:ys.length≤1099511627776):
  Calls Tryz.prog 133 #[.agg #[u,v]] w fun e w'=>∃a b,e=.returned (.agg #[a,b])∧OwnD w' w.heap.size a b ys ys∧Below w.heap.size w w':=by
 have HR:Hid (Reads w v ys):=h'
 clear h'
 obtain⟨w2,hw2⟩:∃w2,w2=(w.alloc (.cells #[u,v] 26)).alloc (.cells #[.slice none 0 0,.slice none 0 0] 26):=⟨_,rfl⟩
 have HB:Hid (Boxes w w2 u v):=by rw[hw2];exact Boxes.start w u v
 have c0:=HB.out.1.cell0
 have c1:=HB.out.1.cell1
 go_enter Tryz.func133,Tryz.ntmps133
 go_wp2_with fail
 rw[←hw2]
 clear hw2
 have HB2:=HB.out.drew
 go_region_held3 (fun w'=>w'.cell? ⟨w.heap.size,0,none⟩=some u∧w'.cell? ⟨w.heap.size,1,none⟩=some v) (constructor<;>first|assumption|exact cell_set1 (cell_set1 (by assumption)))
  (first
   |(go_at_call_of 125 v;refine(copy_any v ys w2.drew (HR.out.below HB2.2.2.1 (Nat.le_refl _)) gy).mono ?_;rintro e w4 ⟨a,rfl,oa,ba⟩;have HB4:=HB2.below ba;have d0:=HB4.1.cell0;have d1:=HB4.1.cell1;obtain⟨ao,ca,hea⟩:=oa.reads.form;subst hea)
   |(go_at_call_of 125 v;refine(copy_any v ys w4 (HR.out.below HB4.2.2.1 (Nat.le_refl _)) gy).mono ?_;rintro e w5 ⟨b,rfl,ob,bb⟩;have hap:=apart_of oa ob (Nat.le_refl _);replace oa:=oa.below bb;have hs5:=ba.size;have HB5:=HB4.below bb;have e0:=HB5.1.cell0;have e1:=HB5.1.cell1;have e2:=HB5.2.1.cell0;have e3:=HB5.2.1.cell1;have f2:=HB5.2.1.frozen 0;have f3:=HB5.2.1.frozen 1;obtain⟨bo,cb,heb⟩:=ob.reads.form;subst heb))
 go_wp2_with fail
 refine bodyPost_ret (results_pair rfl _ _ (w.heap.size+1) _ _ rfl ((HB5.2.1.set0 _).set1 _)) rfl ?_
 exact⟨_,_,rfl,HB5.done (grown_two _ _ _ _) oa ob (HB2.2.2.2) (Nat.le_trans HB2.2.2.2 hs5) hap⟩
theorem sdiskOk_any (u v:Value) (xs ys:List Int) (w:World) (h:Reads w u xs) (h':Reads w v ys) (gx:xs.length≤1099511627776) (gy:ys.length≤1099511627776):
  Calls Tryz.prog 43 #[.agg #[u,v]] w fun e w'=>e=.returned (.bool (bothOk xs ys))∧Below w.heap.size w w':=by
 have b1:=belowAlloc w (.cells #[u,v] 26)
 have c1:=sok_any u xs _ (h.below b1 (Nat.le_refl _)) gx
 have c2:=sok_any v ys _ (h'.below b1 (Nat.le_refl _)) gy
 obtain⟨ao,ca,rfl⟩:=h.form
 obtain⟨bo,cb,rfl⟩:=h'.form
 have HB:Hid (Below w.heap.size w (w.alloc (.cells #[.slice ao xs.length ca,.slice bo ys.length cb] 26))):=b1
 clear h h' b1
 by_cases h1:blocksOk xs=true
 ·rw[h1]at c1
  by_cases h2:blocksOk ys=true
  ·rw[h2]at c2
   have HD:Hid (bothOk xs ys=decide (xs.length=ys.length)):=by simp[Hid,bothOk,h1,h2]
   obtain⟨n,hn⟩:∃n,n=xs.length:=⟨_,rfl⟩
   obtain⟨m,hm⟩:∃m,m=ys.length:=⟨_,rfl⟩
   rw[←hn]at c1 c2 HB HD⊢
   rw[←hm]at c1 c2 HB HD⊢
   clear h1 h2 gx gy hn hm
   go_enter Tryz.func43,Tryz.ntmps43
   go_wp2_with fail
   refine c1.mono ?_
   rintro e w' ⟨rfl,hw⟩;subst w'
   go_wp2_with fail
   refine c2.mono ?_
   rintro e w' ⟨rfl,hw⟩;subst w'
   go_wp2_with fail
   go_ret
   refine⟨ret_bool ?_,HB.out⟩
   rw[HD.out]
   exact beq_cast n m
  ·have h2':blocksOk ys=false:=by simpa using h2
   rw[h2']at c2
   have HD:Hid (bothOk xs ys=false):=by simp[Hid,bothOk,h2']
   obtain⟨n,hn⟩:∃n,n=xs.length:=⟨_,rfl⟩
   obtain⟨m,hm⟩:∃m,m=ys.length:=⟨_,rfl⟩
   rw[←hn]at c1 c2 HB⊢
   rw[←hm]at c1 c2 HB⊢
   clear h1 h2 h2' gx gy hn hm
   go_enter Tryz.func43,Tryz.ntmps43
   go_wp2_with fail
   refine c1.mono ?_
   rintro e w' ⟨rfl,hw⟩;subst w'
   go_wp2_with fail
   refine c2.mono ?_
   rintro e w' ⟨rfl,hw⟩;subst w'
   go_wp2_with fail
   go_ret
   exact⟨ret_bool HD.out.symm,HB.out⟩
 ·have h1':blocksOk xs=false:=by simpa using h1
  rw[h1']at c1
  have HD:Hid (bothOk xs ys=false):=by simp[Hid,bothOk,h1']
  obtain⟨n,hn⟩:∃n,n=xs.length:=⟨_,rfl⟩
  obtain⟨m,hm⟩:∃m,m=ys.length:=⟨_,rfl⟩
  rw[←hn]at c1 HB⊢
  rw[←hm]at c1 HB⊢
  clear h1 h1' gx gy hn hm c2
  go_enter Tryz.func43,Tryz.ntmps43
  go_wp2_with fail
  refine c1.mono ?_
  rintro e w' ⟨rfl,hw⟩;subst w'
  go_wp2_with fail
  go_ret
  exact⟨ret_bool HD.out.symm,HB.out⟩
end Go.Proofs.YtpdggofaobmnlaaGreatDoor
