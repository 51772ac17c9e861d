/- A list of numbers that a call writes out, looked at by a number that was drawn. -/
import Derived.Test.YtfngkbogcjodaaaGreatDoorM3
import Derived.Test.YtfngkbogcjodaaaGreatDoorDrawHold
import Derived.Deep.RegionWith
namespace Go.Proofs.YtfngkbogcjodaaaGreatDoor
open Go.ChangeShapes Go.WideShapes Go.ChangeAt Go.RowKit
theorem lit_at {w w':World} (xs:List Int) {t:TypeId} {row:Option Nat} (hg:(w.alloc (.cells (xs.map (Value.int .i64)).toArray t)).grownBy w' row) (hne:row≠some w.heap.size) (i:Int) (h0:0≤i) (h1:i<xs.length):
  ∃x:Int,w'.cell? ⟨w.heap.size,i.toNat,none⟩=some (.int .i64 x):=by
 rw[lit_kept hg hne i.toNat]
 have:i.toNat<xs.length:=by omega
 exact⟨xs[i.toNat],by simp[this]⟩
theorem lit_idx (xs:List Int) (i:Int) (h0:0≤i) (h1:i<xs.length):∃x:Int,∀hh:i.toNat<(xs.map (Value.int .i64)).length,(xs.map (Value.int .i64))[i.toNat]'hh=.int .i64 x:=by
 have:i.toNat<xs.length:=by omega
 exact⟨xs[i.toNat],fun hh=>by simp⟩
end Go.Proofs.YtfngkbogcjodaaaGreatDoor
set_option maxRecDepth 20000
set_option maxHeartbeats 4000000
namespace Go.Proofs.YtfngkbogcjodaaaGreatDoor
open Go.ChangeShapes Go.WideShapes Go.ChangeAt Go.RowKit
def DrawnH (w w':World) (u:Value) (h:Hd):Prop:=Reads w' u h.ks∧(∃q off cap,u=.slice (some ⟨q,off,none⟩) h.ks.length cap∧w.heap.size≤q∧q<w'.heap.size)∧h.ks.length≤4
theorem DrawnH.own {w w':World} {q cap:Nat} {h:Hd} (o:Own w' w.heap.size (.slice (some ⟨q,0,none⟩) 4 cap) h.ks) (hl:h.ks.length=4) (hq:w.heap.size≤q):DrawnH w w' (.slice (some ⟨q,0,none⟩) 4 cap) h:=
 ⟨o.reads,⟨q,0,cap,by rw[hl],hq,(o.lt q rfl).2⟩,by omega⟩
theorem DrawnH.tail {w w':World} {q cap:Nat} {h:Hd} (o:Own w' w.heap.size (.slice (some ⟨q,0,none⟩) 4 cap) h.ks) (hl:h.ks.length=4) (hq:w.heap.size≤q):DrawnH w w' (.slice (some ⟨q,1,none⟩) 3 (cap-1)) ⟨h.ks.drop 1,h.kd,h.ho,h.tu⟩:=by
 have r:=o.reads
 have hlt:=(o.lt q rfl).2
 obtain⟨e1,e2,e3,hc⟩:=reads_cells r
 refine⟨⟨some ⟨q,1,none⟩,cap-1,by simp[hl],by simp[hl];omega,⟨by omega,?_⟩,.inr ⟨q,1,rfl,?_⟩⟩,⟨q,1,cap-1,by simp[hl],hq,hlt⟩,by simp[hl]⟩
 ·intro e;cases e
 ·intro j hj
  have hj3:j<3:=by simpa[hl]using hj
  obtain⟨b,off,e,hcell⟩:=hc (1+j) (by omega)
  simp only[Option.some.injEq,Addr.mk.injEq]at e
  obtain⟨rfl,rfl, -⟩:=e
  have hx:h.ks.getD (1+j) 0=(h.ks.drop 1).getD j 0:=by simp[List.getD,Nat.add_comm]
  rw[Nat.zero_add,hx]at hcell
  exact hcell
theorem DH.cut {w wx:World} {B c g k q n cap:Nat} {h:Hd} (d:DH w wx B c g k q n cap h) (u:Value):StB (wx.setCell ⟨k,0,none⟩ u) k 28 (hdA u h)∧StB (wx.setCell ⟨k,0,none⟩ u) g 28 zeroH∧
  ∀wy,(wx.setCell ⟨k,0,none⟩ u).grownBy wy (some g)→Own wy w.heap.size (.slice (some ⟨q,0,none⟩) n cap) h.ks∧Cur wy B c∧w.grownBy wy (some c):=by
 obtain⟨h1,h2,h3,h4,h5,h6⟩:=d
 have G:=grownSet wx k 0 u
 refine⟨h4.put 0 u rfl,h3.kept G (by intro e;have:=Option.some.inj e;omega),fun wy G2=>?_⟩
 have c1:Cur (wx.setCell ⟨k,0,none⟩ u) B c:=h1.kept G (by intro e;have:=Option.some.inj e;omega) (fun y e=>by cases e;omega)
 have g1:w.grownBy (wx.setCell ⟨k,0,none⟩ u) (some c):=grown_ownU h2 G (fun y e=>by cases e;omega)
 have o1:Own (wx.setCell ⟨k,0,none⟩ u) w.heap.size (.slice (some ⟨q,0,none⟩) n cap) h.ks:=h5.kept G (.inr (by intro e;have:q=k:=Option.some.inj e;omega))
 refine⟨o1.kept G2 (.inr ?_),c1.kept G2 ?_ (fun x e=>by cases e;omega),grown_ownU g1 G2 (fun x e=>by cases e;omega)⟩
 ·intro e;have:q=g:=Option.some.inj e;omega
 ·intro e;have:=Option.some.inj e;omega
theorem l8drawAny_any (B c:Nat) (w:World) (hcur:Cur w B c):
  Calls Tryz.prog 48 #[.pointer (some ⟨c,0,none⟩)] w fun e w'=>∃(h:Hd) (u:Value),e=.returned (HV u h)∧DrawnH w w' u h∧Cur w' B c∧w.grownBy w' (some c):=by
 have hlt:=hcur.lt
 have C0:Cur (w.alloc (.cells zeroH 28)) B c:=hcur.kept (World.grownBy_alloc w _ none) (by simp) (by simp)
 have S0:StB (w.alloc (.cells zeroH 28)) w.heap.size 28 zeroH:=StB.new w _ _
 have HC0:Hid (Cur (w.alloc (.cells zeroH 28)) B c∧StB (w.alloc (.cells zeroH 28)) w.heap.size 28 zeroH):=⟨C0,S0⟩
 clear hcur C0 S0
 go_enter Tryz.func48,Tryz.ntmps48
 go_wp2_with fail
 refine(l8draw_any B c _ HC0.out.1).mono ?_
 rintro e w1 ⟨h,q,cap,rfl,hl,hq,o1,C1,G1⟩
 have hq1:=(o1.lt q rfl).2
 have hq2:w.heap.size<q:=by simp at hq;omega
 have HL:Hid (h.ks.length=4):=hl
 clear hl hq
 have HD:Hid (DH w (w1.alloc (.cells (hdA (.slice (some ⟨q,0,none⟩) 4 cap) h) 28)) B c w.heap.size w1.heap.size q 4 cap h):=by
  have G2:=World.grownBy_alloc w1 (.cells (hdA (.slice (some ⟨q,0,none⟩) 4 cap) h) 28) (some c)
  have b2:Below w1.heap.size w1 (w1.alloc (.cells (hdA (.slice (some ⟨q,0,none⟩) 4 cap) h) 28)):=(Below.refl _ _).alloc (Nat.le_refl _) _
  have bs:=G1.size
  simp at bs
  refine⟨C1.below b2,((World.grownBy_alloc w _ _).trans G1).trans G2,(HC0.out.2.kept G1 (by intro e;have:=Option.some.inj e;omega)).below b2,StB.new w1 _ _,(Own.below o1 b2).mono (by simp),by omega,by omega,by omega,by omega,by omega,by omega,by omega,by omega,HL.out.symm⟩
 clear o1 C1 G1 HC0
 unfold HV hdA
 have hs1:w.heap.size<w1.heap.size:=by omega
 have hne1:w.heap.size≠w1.heap.size:=by omega
 have hne2:w1.heap.size≠q:=by omega
 have hne3:w.heap.size≠q:=by omega
 unfold hdA at HD
 go_wp2_with fail
 refine(once_any B c 8 _ HD.out.1 (by omega)).mono ?_
 rintro e w2 ⟨b2,rfl,C2,G2⟩
 have H2:Hid (DH w w2 B c w.heap.size w1.heap.size q 4 cap h):=HD.out.draw C2 G2
 clear C2 G2 HD
 have s2:=H2.out.2.2.2.1.lt
 cases b2 with
 |false=>
  have zq:=H2.out.2.2.2.1
  have zz:=H2.out.2.2.1
  go_wp2_with (first|(refine wpList_getS Tryz.isH rfl _ rfl w1.heap.size rfl (hdA (.slice (some ⟨q,0,none⟩) 4 cap) h) rfl zq ?_)|(refine wpList_putS Tryz.isH rfl _ _ rfl w.heap.size (hdA (.slice (some ⟨q,0,none⟩) 4 cap) h) zeroH rfl rfl rfl rfl (hdA_one _ rfl) zz ?_;intro we se ge))
  refine bodyPost_ret (results_S Tryz.isH rfl _ _ w.heap.size _ rfl rfl se) rfl ?_
  have hfin:=H2.out.fin ge
  exact⟨h,_,rfl,DrawnH.own (h:=h) hfin.1 HL.out (by omega),hfin.2⟩
 |true=>
  go_wp2_with fail
  refine(below_any B c 5 _ H2.out.1 (by omega)).mono ?_
  rintro e w3 ⟨x3,rfl,l3,u3, -,C3,G3⟩
  have y3:=u3 (by omega)
  have H3:Hid (DH w w3 B c w.heap.size w1.heap.size q 4 cap h):=H2.out.draw C3 G3
  clear u3 C3 G3 H2 s2
  have s3:=H3.out.2.2.2.1.lt
  obtain rfl|rfl|rfl|rfl|rfl:x3=0∨x3=1∨x3=2∨x3=3∨x3=4:=by omega
  ·clear l3 y3
   have k3:w3.cell? ⟨w1.heap.size,0,none⟩=some (.slice (some ⟨q,0,none⟩) 4 cap):=H3.out.2.2.2.1.cell 0 rfl
   have hcw:c<w3.heap.size:=by have:=H3.out.1.lt;omega
   have L3:Hid (DH w (w3.alloc (.cells #[.int .i64 (-1),.int .i64 9999,.int .i64 10000] 2)).drew B c w.heap.size w1.heap.size q 4 cap h):=(H3.out.alloc _).drew
   have q3:=(H3.out.2.2.2.2.1.lt q rfl).2
   go_wp2_with fail
   go_region_with (first
    |(go_at_call 49;refine(below_any B c 3 _ L3.out.1 (by omega)).mono ?_;rintro e w4 ⟨i,rfl,li,ui, -,C4,G4⟩;have vi:=ui (by omega);have H4:Hid (DH w w4 B c w.heap.size w1.heap.size q 4 cap h):=L3.out.draw C4 G4;obtain⟨x,hx⟩:=lit_at (w:=w3) [-1,9999,10000] (t:=2) ⟨G4.os,G4.tape,G4.output,G4.size,G4.block⟩ (by simp;omega) i (by omega) (by simp;omega);clear ui C4 G4;have k4:w4.cell? ⟨w1.heap.size,0,none⟩=some (.slice (some ⟨q,0,none⟩) 4 cap):=H4.out.2.2.2.1.cell 0 rfl;obtain⟨fj,⟨yj,cj⟩,HK⟩:=H4.out.key 0 (by omega) x;have HK2:Hid (DH w (w4.setCell ⟨q,0,none⟩ (.int .i64 x)) B c w.heap.size w1.heap.size q 4 cap ⟨h.ks.set 0 x,h.kd,h.ho,h.tu⟩):=HK;clear HK H4)
    |(go_at_call 49;refine(below_any B c 3 _ H3.out.drew.1 (by omega)).mono ?_;rintro e w4 ⟨i,rfl,li,ui, -,C4,G4⟩;have vi:=ui (by omega);have H4:Hid (DH w w4 B c w.heap.size w1.heap.size q 4 cap h):=H3.out.drew.draw C4 G4;have L4:Hid (DH w (w4.alloc (.cells #[.int .i64 (-1),.int .i64 9999,.int .i64 10000] 2)) B c w.heap.size w1.heap.size q 4 cap h):=H4.out.alloc _;obtain⟨x,hx'⟩:=lit_idx [-1,9999,10000] i (by omega) (by simp;omega);have hx:∀hh:i.toNat<([.int .i64 (-1),.int .i64 9999,.int .i64 10000]:List Value).length,([.int .i64 (-1),.int .i64 9999,.int .i64 10000]:List Value)[i.toNat]'hh=.int .i64 x:=hx';clear hx';have k4':w4.cell? ⟨w1.heap.size,0,none⟩=some (.slice (some ⟨q,0,none⟩) 4 cap):=H4.out.2.2.2.1.cell 0 rfl;clear ui C4 G4;have k4:=L4.out.2.2.2.1.cell 0 (x:=(.slice (some ⟨q,0,none⟩) 4 cap)) rfl;obtain⟨fj,⟨yj,cj⟩,HK⟩:=L4.out.key 0 (by omega) x;have HK2:Hid (DH w ((w4.setCell ⟨q,0,none⟩ (.int .i64 x)).alloc (.cells #[.int .i64 (-1),.int .i64 9999,.int .i64 10000] 2)) B c w.heap.size w1.heap.size q 4 cap ⟨h.ks.set 0 x,h.kd,h.ho,h.tu⟩):=(H4.out.key 0 (by omega) x).2.2.alloc _;have s4:=H4.out.2.2.2.1.lt;have q4:=(H4.out.2.2.2.2.1.lt q rfl).2;have n4:q≠w4.heap.size:=Nat.ne_of_lt q4;have z4:=H4.out.key 0 (by omega) x;have fz:=z4.1;have⟨yz,cz⟩:=z4.2.1;clear z4 HK H4 L4))
   all_goals
    (skip
     have zq:=HK2.out.2.2.2.1
     have zz:=HK2.out.2.2.1
     go_wp2_with (first|(refine wpList_getS Tryz.isH rfl _ rfl w1.heap.size rfl (hdA (.slice (some ⟨q,0,none⟩) 4 cap) ⟨h.ks.set 0 x,h.kd,h.ho,h.tu⟩) rfl zq ?_)|(refine wpList_putS Tryz.isH rfl _ _ rfl w.heap.size (hdA (.slice (some ⟨q,0,none⟩) 4 cap) ⟨h.ks.set 0 x,h.kd,h.ho,h.tu⟩) zeroH rfl rfl rfl rfl (hdA_one _ rfl) zz ?_;intro we se ge))
     refine bodyPost_ret (results_S Tryz.isH rfl _ _ w.heap.size _ rfl rfl se) rfl ?_
     have hfin:=HK2.out.fin ge
     exact⟨⟨h.ks.set 0 x,h.kd,h.ho,h.tu⟩,_,rfl,DrawnH.own (h:=⟨h.ks.set 0 x,h.kd,h.ho,h.tu⟩) hfin.1 (by rw[List.length_set];exact HL.out) (by omega),hfin.2⟩)
  ·clear l3 y3
   have k3:w3.cell? ⟨w1.heap.size,0,none⟩=some (.slice (some ⟨q,0,none⟩) 4 cap):=H3.out.2.2.2.1.cell 0 rfl
   have f3:=H3.out.2.2.2.1.frozen 0
   have hcap:4≤cap:=(reads_cells H3.out.2.2.2.2.1.reads).2.1
   obtain⟨zq,zz,HF⟩:=H3.out.cut (.slice (some ⟨q,1,none⟩) 3 (cap-1))
   go_wp2_with (first|(refine wpList_getS Tryz.isH rfl _ rfl w1.heap.size rfl (hdA (.slice (some ⟨q,1,none⟩) 3 (cap-1)) h) rfl zq ?_)|(refine wpList_putS Tryz.isH rfl _ _ rfl w.heap.size (hdA (.slice (some ⟨q,1,none⟩) 3 (cap-1)) h) zeroH rfl rfl rfl rfl (hdA_one _ rfl) zz ?_;intro we se ge))
   refine bodyPost_ret (results_S Tryz.isH rfl _ _ w.heap.size _ rfl rfl se) rfl ?_
   have hfin:=HF we ge
   exact⟨⟨h.ks.drop 1,h.kd,h.ho,h.tu⟩,_,rfl,DrawnH.tail hfin.1 HL.out (by omega),hfin.2⟩
  ·clear l3 y3
   go_wp2_with fail
   refine(from_any B c (-1) 9 _ H3.out.1 (by omega) (by omega) (by omega)).mono ?_
   rintro e w4 ⟨x,rfl,lx,ux,C4,G4⟩
   have H4:Hid (DH w w4 B c w.heap.size w1.heap.size q 4 cap h):=H3.out.draw C4 G4
   clear C4 G4 H3
   have k4:w4.cell? ⟨w1.heap.size,1,none⟩=some (.int .i64 h.kd):=H4.out.2.2.2.1.cell 1 rfl
   have f4:=H4.out.2.2.2.1.frozen 1
   have s4:=H4.out.2.2.2.1.lt
   have J4:Hid (DH w (w4.setCell ⟨w1.heap.size,1,none⟩ (.int .i64 x)) B c w.heap.size w1.heap.size q 4 cap ⟨h.ks,x,h.ho,h.tu⟩):=H4.out.put 1 x ⟨h.ks,x,h.ho,h.tu⟩ rfl rfl
   clear H4
   have zq:=J4.out.2.2.2.1
   have zz:=J4.out.2.2.1
   go_wp2_with (first|(refine wpList_getS Tryz.isH rfl _ rfl w1.heap.size rfl (hdA (.slice (some ⟨q,0,none⟩) 4 cap) ⟨h.ks,x,h.ho,h.tu⟩) rfl zq ?_)|(refine wpList_putS Tryz.isH rfl _ _ rfl w.heap.size (hdA (.slice (some ⟨q,0,none⟩) 4 cap) ⟨h.ks,x,h.ho,h.tu⟩) zeroH rfl rfl rfl rfl (hdA_one _ rfl) zz ?_;intro we se ge))
   refine bodyPost_ret (results_S Tryz.isH rfl _ _ w.heap.size _ rfl rfl se) rfl ?_
   have hfin:=J4.out.fin ge
   exact⟨⟨h.ks,x,h.ho,h.tu⟩,_,rfl,DrawnH.own (h:=⟨h.ks,x,h.ho,h.tu⟩) hfin.1 HL.out (by omega),hfin.2⟩
  ·clear l3 y3
   go_wp2_with fail
   refine(from_any B c (-2) 7 _ H3.out.1 (by omega) (by omega) (by omega)).mono ?_
   rintro e w4 ⟨x,rfl,lx,ux,C4,G4⟩
   have H4:Hid (DH w w4 B c w.heap.size w1.heap.size q 4 cap h):=H3.out.draw C4 G4
   clear C4 G4 H3
   have k4:w4.cell? ⟨w1.heap.size,2,none⟩=some (.int .i64 h.ho):=H4.out.2.2.2.1.cell 2 rfl
   have f4:=H4.out.2.2.2.1.frozen 2
   have s4:=H4.out.2.2.2.1.lt
   have J4:Hid (DH w (w4.setCell ⟨w1.heap.size,2,none⟩ (.int .i64 x)) B c w.heap.size w1.heap.size q 4 cap ⟨h.ks,h.kd,x,h.tu⟩):=H4.out.put 2 x ⟨h.ks,h.kd,x,h.tu⟩ rfl rfl
   clear H4
   have zq:=J4.out.2.2.2.1
   have zz:=J4.out.2.2.1
   go_wp2_with (first|(refine wpList_getS Tryz.isH rfl _ rfl w1.heap.size rfl (hdA (.slice (some ⟨q,0,none⟩) 4 cap) ⟨h.ks,h.kd,x,h.tu⟩) rfl zq ?_)|(refine wpList_putS Tryz.isH rfl _ _ rfl w.heap.size (hdA (.slice (some ⟨q,0,none⟩) 4 cap) ⟨h.ks,h.kd,x,h.tu⟩) zeroH rfl rfl rfl rfl (hdA_one _ rfl) zz ?_;intro we se ge))
   refine bodyPost_ret (results_S Tryz.isH rfl _ _ w.heap.size _ rfl rfl se) rfl ?_
   have hfin:=J4.out.fin ge
   exact⟨⟨h.ks,h.kd,x,h.tu⟩,_,rfl,DrawnH.own (h:=⟨h.ks,h.kd,x,h.tu⟩) hfin.1 HL.out (by omega),hfin.2⟩
  ·clear l3 y3
   have L3:Hid (DH w (w3.alloc (.cells #[.int .i64 (-1),.int .i64 1000000001] 2)) B c w.heap.size w1.heap.size q 4 cap h):=H3.out.alloc _
   have hcw:c<w3.heap.size:=by have:=H3.out.1.lt;omega
   clear H3
   go_wp2_with fail
   refine(below_any B c 2 _ L3.out.1 (by omega)).mono ?_
   rintro e w4 ⟨i,rfl,li,ui, -,C4,G4⟩
   have vi:=ui (by omega)
   have H4:Hid (DH w w4 B c w.heap.size w1.heap.size q 4 cap h):=L3.out.draw C4 G4
   obtain⟨x,hx⟩:=lit_at (w:=w3) [-1,1000000001] (t:=2) G4 (by simp;omega) i (by omega) (by simp;omega)
   clear ui C4 G4 L3
   have k4:w4.cell? ⟨w1.heap.size,3,none⟩=some (.int .i64 h.tu):=H4.out.2.2.2.1.cell 3 rfl
   have f4:=H4.out.2.2.2.1.frozen 3
   have s4:=H4.out.2.2.2.1.lt
   have J4:Hid (DH w (w4.setCell ⟨w1.heap.size,3,none⟩ (.int .i64 x)) B c w.heap.size w1.heap.size q 4 cap ⟨h.ks,h.kd,h.ho,x⟩):=H4.out.put 3 x ⟨h.ks,h.kd,h.ho,x⟩ rfl rfl
   clear H4
   have zq:=J4.out.2.2.2.1
   have zz:=J4.out.2.2.1
   go_wp2_with (first|(refine wpList_getS Tryz.isH rfl _ rfl w1.heap.size rfl (hdA (.slice (some ⟨q,0,none⟩) 4 cap) ⟨h.ks,h.kd,h.ho,x⟩) rfl zq ?_)|(refine wpList_putS Tryz.isH rfl _ _ rfl w.heap.size (hdA (.slice (some ⟨q,0,none⟩) 4 cap) ⟨h.ks,h.kd,h.ho,x⟩) zeroH rfl rfl rfl rfl (hdA_one _ rfl) zz ?_;intro we se ge))
   refine bodyPost_ret (results_S Tryz.isH rfl _ _ w.heap.size _ rfl rfl se) rfl ?_
   have hfin:=J4.out.fin ge
   exact⟨⟨h.ks,h.kd,h.ho,x⟩,_,rfl,DrawnH.own (h:=⟨h.ks,h.kd,h.ho,x⟩) hfin.1 HL.out (by omega),hfin.2⟩
end Go.Proofs.YtfngkbogcjodaaaGreatDoor
