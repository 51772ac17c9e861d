import Derived.Test.YtpdggofaobmnlaaGreatDoorM22
import Derived.Test.YtpdggofaobmnlaaGreatDoorM24
/- The program's Written, Flushed and Lost. -/
set_option maxRecDepth 20000
set_option maxHeartbeats 4000000
namespace Go.Proofs.YtpdggofaobmnlaaGreatDoor
open Go.ChangeShapes Go.WideShapes Go.ChangeAt Go.RowKit
theorem run_copyL (w:World) (ty:TypeId) (u v:Value) (xs ys:List Int) (base:Nat) (ou:Own w base u xs) (rv:Reads w v ys) (hl:ys.length=xs.length) (h1:1≤xs.length):
  ∃w',(Builtin.copy_ #[24,24] ty #[u,v]).run Tryz.prog w=.ok (goInt xs.length) w'∧Own w' base u ys∧w.grownBy w' u.ownBlock:=by
 rcases ou.2 with⟨_,h0⟩|⟨g,cap,cur,rfl,hb,hg,hnc,hcm,hcs,ht⟩
 ·omega
 ·obtain⟨ao,c2,rfl,_,_,hc⟩:=rv
  rcases hc with e|⟨b,off,rfl,hcell⟩
  ·subst e;simp at hl;omega
  ·have hsz:(Tryz.prog.info? 2).map (·.size)=some 1:=by
    obtain⟨i0,hi,hz0,hz1,hz2⟩:=info_parts Tryz.infoI
    simp[hi,hz1]
   have hsrc:∀j z,(ys.map (Value.int .i64))[j]?=some z→w.cell? ((⟨b,off,none⟩:Addr).add j)=some z:=by
    intro j z hj
    have hlt:j<ys.length:=by
     rcases Nat.lt_or_ge j ys.length with h|h
     ·exact h
     ·rw[List.getElem?_eq_none (by simpa using h)]at hj;cases hj
    rw[show(⟨b,off,none⟩:Addr).add j=⟨b,off+j,none⟩ by unfold Addr.add;split<;>simp_all]
    rw[hcell j hlt]
    simp[List.getD,hlt]at hj⊢
    exact hj
   have hone:∀z∈ys.map (Value.int .i64),z.oneCell'=true:=by
    intro z hz
    obtain⟨x,_,rfl⟩:=List.mem_map.1 hz
    rfl
   have hcz:cur.size=cap:=by simpa using hcs
   have hrun:=run_copy_row (P:=Tryz.prog) w 24 24 ty 2 g 0 xs.length cap ⟨b,off,none⟩ ys.length c2 cur _ (ys.map (Value.int .i64)) Tryz.underlying24 hsz hg (by simp[hl]) hsrc (by simp;omega) hone
   rw[show goInt ((ys.map (Value.int .i64)).length:Nat)=goInt (xs.length:Nat) by simp[hl]]at hrun
   refine⟨_,hrun,⟨by simp,.inr ⟨g,cap,_,by rw[hl],hb,setRow_heap w g _ _ _ _ hg,by omega,hcm,?_,?_⟩⟩,?_⟩
   ·simp;omega
   ·simp[hl]
   ·exact grownRow w g _
theorem wpList_copyL {ops:Array Oper} {rest:List Oper} {o:Oper} {a:Act} {w:World} {Q:Exit→Act→World→Prop} (hgd:o.guard=none) (d s:Operand)
  (ho:o.op=.call {callee:=.builtin .copy,args:=#[d,s],argTypes:=#[24,24]}) (u v:Value) (xs ys:List Int) (base:Nat) (hd:a.eval d=u) (hs:a.eval s=v)
  (ou:Own w base u xs) (rv:Reads w v ys) (hl:ys.length=xs.length) (h1:1≤xs.length)
  (h:∀w',Own w' base u ys→w.grownBy w' u.ownBlock→wpList Tryz.prog ops Q rest (a.put o.dst (goInt xs.length)) w'):wpList Tryz.prog ops Q (o::rest) a w:=by
 refine wpList_plain hgd fun K hK=>?_
 obtain⟨w',hrun,h2,h3⟩:=run_copyL w o.type u v xs ys base ou rv hl h1
 unfold Oper.wp
 simp[execOp,ho,resolve,invoke,builtin,hd,hs,hrun,Result.andThen]
 exact hK _ _ (h w' h2 h3)
theorem step_copyL {ops:Array Oper} {o:Oper} {a:Act} {w:World} {K:Act→World→Prop} {Q:Exit→Act→World→Prop} {E:Prop} (hgd:o.guard=none) (d s:Operand)
  (ho:o.op=.call {callee:=.builtin .copy,args:=#[d,s],argTypes:=#[24,24]}) (u v:Value) (xs ys:List Int) (base:Nat) (hd:a.eval d=u) (hs:a.eval s=v)
  (ou:Own w base u xs) (rv:Reads w v ys) (hl:ys.length=xs.length) (h1:1≤xs.length)
  (h:∀w',Own w' base u ys→w.grownBy w' u.ownBlock→K (a.put o.dst (goInt xs.length)) w'):if Region.wanted o (yielded ops a.tmps)=true then Oper.wp Tryz.prog o a w K Q else E:=by
 have hw:Region.wanted o (yielded ops a.tmps)=true:=by simp[Region.wanted,hgd]
 rw[if_pos hw]
 obtain⟨w',hrun,h2,h3⟩:=run_copyL w o.type u v xs ys base ou rv hl h1
 unfold Oper.wp
 simp[execOp,ho,resolve,invoke,builtin,hd,hs,hrun,Result.andThen]
 exact h w' h2 h3
theorem written_any (u v:Value) (xs ys:List Int) (i x:Int) (w:World) (h:Reads w u xs) (h':Reads w v ys) (gx:xs.length≤1099511627776) (gy:ys.length≤1099511627776):
  Calls Tryz.prog 175 #[.agg #[u,v],.int .i64 i,.int .i64 x] w fun e w'=>∃a b,e=.returned (.tuple #[.agg #[a,b],.bool (wrB xs ys i x)])∧OwnD w' w.heap.size a b (wrK xs ys) (wrN xs ys i x)∧Below w.heap.size w w':=by
 obtain⟨w2,hw2⟩:∃w2,w2=(w.alloc (.cells #[u,v] 26)).alloc (.cells #[.slice none 0 0,.slice none 0 0] 26):=⟨_,rfl⟩
 have HB:Hid (Boxes w w2 u v):=by rw[hw2];exact Boxes.start w u v
 have b2:=HB.out.2.2.1
 have c1:=diskOk_any u v xs ys w2 (h.below b2 (Nat.le_refl _)) (h'.below b2 (Nat.le_refl _)) gx gy
 by_cases hb:bothOk xs ys=true
 ·have e1:wrB xs ys i x=putB ys i x:=by simp[wrB,hb]
  have e2:wrK xs ys=xs:=by simp[wrK,hb]
  have e3:wrN xs ys i x=putI ys i x:=by simp[wrN,hb]
  rw[e1,e2,e3]
  have hx1:=(blocksOk_len (bothOk_yes hb).1).1
  have c2:∀w',Below w.heap.size w w'→_:=fun w' b=>put_any v ys i x w' (h'.below b (Nat.le_refl _)) gy
  have c3:∀w',Below w.heap.size w w'→_:=fun w' b=>fresh_any u xs w' (h.below b (Nat.le_refl _)) hx1 gx
  obtain⟨zs,hz⟩:∃zs,zs=putI ys i x:=⟨_,rfl⟩
  obtain⟨pb,hpb⟩:∃pb,pb=putB ys i x:=⟨_,rfl⟩
  simp only[←hz,←hpb]at c2⊢
  rw[hb]at c1
  clear hb e1 e2 e3 hz hpb h h' b2 hx1
  go_enter Tryz.func175,Tryz.ntmps175
  go_wp2_with fail
  rw[←hw2]
  clear hw2
  refine c1.mono ?_
  rintro e w3 ⟨rfl,b3⟩
  replace HB:Hid (Boxes w w3 u v):=HB.out.below b3
  have q0:=HB.out.1.cell0
  have q1:=HB.out.1.cell1
  clear b3 c1
  go_wp2_with fail
  refine(c2 _ HB.out.2.2.1).mono ?_
  rintro e w4 ⟨b,rfl,o4,b4⟩
  have HS:Hid (w.heap.size+2≤w3.heap.size∧w3.heap.size≤w4.heap.size):=⟨HB.out.2.2.2,b4.size⟩
  replace HB:Hid (Boxes w w4 u v):=HB.out.below b4
  replace q0:=HB.out.1.cell0
  clear b4 c2 q1
  go_wp2_with fail
  refine(c3 _ HB.out.2.2.1).mono ?_
  rintro e w5 ⟨a,rfl,o5,b5⟩
  have hap:=apart_of o4 o5 (Nat.le_refl _)
  replace o4:=o4.below b5
  replace HB:Hid (Boxes w w5 u v):=HB.out.below b5
  have p5:=HB.out.2.1
  obtain⟨ao,ca,hea⟩:=o5.reads.form
  obtain⟨bo,cb,heb⟩:=o4.reads.form
  subst hea heb
  have HO:Hid (Own w5 w4.heap.size _ xs∧Own w5 w3.heap.size _ zs∧apart _ _):=⟨o5,o4,hap.symm⟩
  clear b5 o4 o5 hap c3 q0
  go_wp2_with (refine wpList_putP rfl _ _ rfl (w.heap.size+1) _ _ _ _ rfl rfl rfl rfl p5 ?_;intro w6 p6 g6)
  refine bodyPost_ret (results_pair2 rfl _ _ (w.heap.size+1) _ _ _ rfl rfl p6) rfl ?_
  exact⟨_,_,rfl,HB.out.done g6 HO.out.1 HO.out.2.1 (Nat.le_trans HS.out.1 HS.out.2) HS.out.1 HO.out.2.2⟩
 ·have hb':bothOk xs ys=false:=by simpa using hb
  have e1:wrB xs ys i x=false:=by simp[wrB,hb']
  have e2:wrK xs ys=[]:=by simp[wrK,hb']
  have e3:wrN xs ys i x=[]:=by simp[wrN,hb']
  rw[e1,e2,e3]
  rw[hb']at c1
  clear hb hb' b2 e1 e2 e3 h h'
  go_enter Tryz.func175,Tryz.ntmps175
  go_wp2_with fail
  rw[←hw2]
  clear hw2
  refine c1.mono ?_
  rintro e w3 ⟨rfl,b3⟩
  replace HB:Hid (Boxes w w3 u v):=HB.out.below b3
  have p3:=HB.out.2.1
  clear b3 c1
  go_wp2_with (refine wpList_putP rfl _ _ rfl (w.heap.size+1) _ _ _ _ rfl rfl rfl rfl p3 ?_;intro w5 p5 g5)
  refine bodyPost_ret (results_pair2 rfl _ _ (w.heap.size+1) _ _ _ rfl rfl p5) rfl ?_
  exact⟨_,_,rfl,ownNil2 _ _,HB.out.2.2.1.grown g5 HB.out.2.2.1.size (fun k e=>by cases e;omega)⟩
theorem apart_slice {g n cap:Nat} {z:Value} (h:apart (.slice (some ⟨g,0,none⟩) n cap) z):z.ownBlock=none∨z.ownBlock≠some g:=h.2
theorem flushed_any (u v:Value) (xs ys:List Int) (w:World) (h:Reads w u xs) (h':Reads w v ys) (gx:xs.length≤1099511627776) (gy:ys.length≤1099511627776):
  Calls Tryz.prog 168 #[.agg #[u,v]] w fun e w'=>∃a b,e=.returned (.agg #[a,b])∧OwnD w' w.heap.size a b (flN xs ys) (flN xs ys)∧Below w.heap.size w w':=by
 obtain⟨w2,hw2⟩:∃w2,w2=(w.alloc (.cells #[u,v] 26)).alloc (.cells #[.slice none 0 0,.slice none 0 0] 26):=⟨_,rfl⟩
 have HB:Hid (Boxes w w2 u v):=by rw[hw2];exact Boxes.start w u v
 have b2:=HB.out.2.2.1
 have c1:=diskOk_any u v xs ys w2 (h.below b2 (Nat.le_refl _)) (h'.below b2 (Nat.le_refl _)) gx gy
 by_cases hb:bothOk xs ys=true
 ·have HD:Hid (flN xs ys=ys):=by simp[Hid,flN,hb]
  obtain⟨k1,k2,k3⟩:=bothOk_yes hb
  have hx1:=(blocksOk_len k1).1
  have hy1:=(blocksOk_len k2).1
  have c3:∀w',Below w.heap.size w w'→_:=fun w' b=>freshDisk_any u v xs ys w' (h.below b (Nat.le_refl _)) (h'.below b (Nat.le_refl _)) hx1 hy1 gx gy
  rw[hb]at c1
  have HL:Hid (ys.length=xs.length∧1≤xs.length):=⟨k3.symm,hx1⟩
  clear b2 hb k1 k2 k3 hx1 hy1 h h'
  go_enter Tryz.func168,Tryz.ntmps168
  go_wp2_with fail
  rw[←hw2]
  clear hw2
  refine c1.mono ?_
  rintro e w3 ⟨rfl,b3⟩
  replace HB:Hid (Boxes w w3 u v):=HB.out.below b3
  have p3:=HB.out.1
  clear b3 c1
  go_wp2_with (refine wpList_getP rfl _ rfl w.heap.size rfl _ _ p3 ?_)
  refine(c3 _ HB.out.2.2.1).mono ?_
  rintro e w4 ⟨a,b,rfl,o4,b4⟩
  have HS:Hid (w.heap.size+2≤w3.heap.size):=HB.out.2.2.2
  have hs4:=Nat.le_trans HS.out b4.size
  replace HB:Hid (Boxes w w4 u v):=HB.out.below b4
  have ha1:=o4.1.reads.one
  have hb1:=o4.2.1.reads.one
  obtain⟨g,ca,hea,hgl⟩:=World.ownsRow.form o4.1 (by have:=HL.out.2;omega)
  obtain⟨hg1,hg2⟩:=o4.1.ltBlock hea
  have HO:Hid (OwnD w4 w3.heap.size a b xs ys):=o4
  have hab:a.ownBlock=some g:=by rw[hea];rfl
  have HG:Hid (a.ownBlock=some g∧w3.heap.size≤g∧g<w4.heap.size):=⟨hab,hg1,hg2⟩
  clear b4 o4 p3 c3 hgl hea hab hg1 hg2
  go_wp2_with (first
   |(refine wpList_putP rfl _ _ rfl w4.heap.size _ _ _ _ rfl rfl ha1 hb1 (Pair.new w4 _ _ _) ?_;intro w5 p5 g5;have hg5:w4.grownBy w5 (some w4.heap.size):=(grown_alloc w4 _ _).trans g5;have HB5:Hid (Boxes w w5 u v∧OwnD w5 w3.heap.size a b xs ys):=⟨HB.out.kept hg5 hs4,HO.out.1.keptNew hg5,HO.out.2.1.keptNew hg5,HO.out.2.2⟩;have e0:=p5.cell0;have e1:=p5.cell1;clear g5 hg5)
   |(refine wpList_copyL rfl _ _ rfl a b xs ys w3.heap.size rfl rfl HB5.out.2.1 HB5.out.2.2.1.reads HL.out.1 HL.out.2 ?_;intro w6 o6 g6;rw[HG.out.1]at g6;have HB6:Hid (Boxes w w6 u v∧OwnD w6 w3.heap.size a b ys ys):=⟨HB5.out.1.kept g6 (by have:=HG.out;have:=HS.out;omega),o6,HB5.out.2.2.1.kept g6 (by have:=HB5.out.2.2.2.2;rw[HG.out.1]at this;exact this),HB5.out.2.2.2⟩;have p6:=p5.kept g6 (by have:=HG.out;simp;omega);have p7:=HB6.out.1.2.1;clear g6 o6)
   |(refine wpList_getP rfl _ rfl w4.heap.size rfl _ _ p6 ?_)
   |(refine wpList_putP rfl _ _ rfl (w.heap.size+1) _ _ _ _ rfl rfl ha1 hb1 p7 ?_;intro w7 p8 g8))
  refine bodyPost_ret (results_pair rfl _ _ (w.heap.size+1) _ _ rfl p8) rfl ?_
  rw[HD.out]
  exact⟨_,_,rfl,HB6.out.1.done g8 HB6.out.2.1 HB6.out.2.2.1 HS.out HS.out HB6.out.2.2.2⟩
 ·have hb':bothOk xs ys=false:=by simpa using hb
  have HD:Hid (flN xs ys=[]):=by simp[Hid,flN,hb']
  rw[hb']at c1
  clear b2 hb hb' h h'
  go_enter Tryz.func168,Tryz.ntmps168
  go_wp2_with fail
  rw[←hw2]
  clear hw2
  refine c1.mono ?_
  rintro e w3 ⟨rfl,b3⟩
  replace HB:Hid (Boxes w w3 u v):=HB.out.below b3
  have p3:=HB.out.2.1
  clear b3 c1
  go_wp2_with (refine wpList_putP rfl _ _ rfl (w.heap.size+1) _ _ _ _ rfl rfl rfl rfl p3 ?_;intro w5 p5 g5)
  refine bodyPost_ret (results_pair rfl _ _ (w.heap.size+1) _ _ rfl p5) rfl ?_
  rw[HD.out]
  exact⟨_,_,rfl,ownNil2 _ _,HB.out.2.2.1.grown g5 HB.out.2.2.1.size (fun k e=>by cases e;omega)⟩
end Go.Proofs.YtpdggofaobmnlaaGreatDoor
namespace Go.Proofs.YtpdggofaobmnlaaGreatDoor
open Go.ChangeShapes Go.WideShapes Go.ChangeAt Go.RowKit
theorem Pair.drew {w:World} {g:Nat} {t:TypeId} {u v:Value} (h:Pair w g t u v):Pair w.drew g t u v:=h
theorem OwnD.drew {w:World} {base:Nat} {u v:Value} {xs ys:List Int} (h:OwnD w base u v xs ys):OwnD w.drew base u v xs ys:=h
theorem OwnD.below {w w':World} {base:Nat} {u v:Value} {xs ys:List Int} (h:OwnD w base u v xs ys) (b:Below w.heap.size w w'):OwnD w' base u v xs ys:=⟨h.1.below b,h.2.1.below b,h.2.2⟩
def Mid (w wx:World) (u v:Value) (h base:Nat) (a b:Value) (xs ys:List Int):Prop:=Boxes w wx u v∧Pair wx h 26 a b∧OwnD wx base a b xs ys
theorem Mid.below {w wx wy:World} {u v a b:Value} {h base:Nat} {xs ys:List Int} (m:Mid w wx u v h base a b xs ys) (k:Below wx.heap.size wx wy):Mid w wy u v h base a b xs ys:=
 ⟨m.1.below k,m.2.1.below k,m.2.2.below k⟩
theorem Mid.drew {w wx:World} {u v a b:Value} {h base:Nat} {xs ys:List Int} (m:Mid w wx u v h base a b xs ys):Mid w wx.drew u v h base a b xs ys:=⟨m.1.drew,m.2.1,m.2.2⟩
theorem Mid.copy0 {w wx wy:World} {u v a b:Value} {h base:Nat} {xs ys zs:List Int} (m:Mid w wx u v h base a b xs ys) (o:Own wy base a zs) (g:wx.grownBy wy a.ownBlock) (hb:w.heap.size+2≤base) (hh:∀k,a.ownBlock=some k→k≠h) (h1:1≤xs.length):Mid w wy u v h base a b zs ys:=by
 obtain⟨k,ca,hea,_⟩:=World.ownsRow.form m.2.2.1 h1
 have hab:a.ownBlock=some k:=by rw[hea];rfl
 have hk:=(m.2.2.1.lt k hab).1
 have hap:=m.2.2.2.2.2
 rw[hab]at g hap
 exact⟨m.1.kept g (by omega),m.2.1.kept g (by have:=hh k hab;simp;omega),o,m.2.2.2.1.kept g hap,m.2.2.2.2⟩
theorem Mid.copy1 {w wx wy:World} {u v a b:Value} {h base:Nat} {xs ys zs:List Int} (m:Mid w wx u v h base a b xs ys) (o:Own wy base b zs) (g:wx.grownBy wy b.ownBlock) (hb:w.heap.size+2≤base) (hh:∀k,b.ownBlock=some k→k≠h) (h1:1≤ys.length):Mid w wy u v h base a b xs zs:=by
 obtain⟨k,cb,heb,_⟩:=World.ownsRow.form m.2.2.2.1 h1
 have hab:b.ownBlock=some k:=by rw[heb];rfl
 have hk:=(m.2.2.2.1.lt k hab).1
 have hap:=m.2.2.2.2.1
 rw[hab]at g hap
 exact⟨m.1.kept g (by omega),m.2.1.kept g (by have:=hh k hab;simp;omega),m.2.2.1.kept g hap,o,m.2.2.2.2⟩
end Go.Proofs.YtpdggofaobmnlaaGreatDoor
namespace Go.Proofs.YtpdggofaobmnlaaGreatDoor
open Go.ChangeShapes Go.WideShapes Go.ChangeAt Go.RowKit
theorem holdsF_ok {h:Hd} (hk:h.ok=true) (i:Int):holdsF (KF h.ks) h.kd h.ho i=(inI i 0 3&&h.holds i):=by
 have hm:h.mid=true:=by
  unfold Hd.ok at hk
  simp only[Bool.and_eq_true]at hk
  exact hk.2
 unfold holdsF Hd.holds
 rw[show decide (KF h.ks i.toNat≠0)=regI h.ks i from rfl]
 unfold Hd.mid at hm
 cases hin:inI i 0 3
 ·simp
 ·have hi:0≤i∧i≤3:=by simpa[inI]using hin
  simp only[Bool.true_and]
  by_cases h0:h.kd=0
  ·rw[if_pos h0]at hm
   have ho:h.ho= -1:=by simpa using hm
   rw[h0,ho]
   simp[show allI 0=false from rfl]
   intro _;omega
  ·rw[if_neg h0]at hm
   cases ha:allI h.kd
   ·rw[ha]at hm
    simp only[Bool.false_eq_true,if_false,Bool.and_eq_true]at hm
    by_cases he:i=h.ho
    ·subst he
     simp[h0,hm.2]
    ·simp[he,Ne.symm he]
   ·rw[ha]at hm
    simp only[if_true,Bool.and_eq_true,decide_eq_true_eq]at hm
    have:h.ho≠i:=by omega
    simp[h0,this]
theorem heA_S {w:World} {g:Nat} {f:Nat→Int} {kd ho tu:Int} {w':World} {B:Nat} (h:Hid (StB w g 106 (heA f kd ho tu))) (hb:Below B w w') (e:B=w.heap.size):Hid (StB w' g 106 (heA f kd ho tu)):=by subst e;exact h.out.below hb
theorem HB_next {w w3 w4:World} (h:Hid (Below w.heap.size w w3)) (b:Below w3.heap.size w3 w4):Hid (Below w.heap.size w w4):=h.out.trans (b.mono h.out.size)
theorem iMay_any (v:Value) (h:Hd) (i:Int) (b:Bool) (w:World) (hr:Reads w v h.ks) (hl:h.ks.length≤1099511627776):
  Calls Tryz.prog 109 #[HV v h,.int .i64 i,.bool b] w fun e w'=>e=.returned (.bool (h.May i b))∧Below w.heap.size w w':=by
 have b1:Below w.heap.size w (w.alloc (.cells (hdA v h) 28)):=(Below.refl _ _).alloc (Nat.le_refl _) _
 have c1:=iheldof_any v h _ (hr.below b1 (Nat.le_refl _)) hl
 obtain⟨ao,cap,rfl⟩:=reads_form hr
 obtain⟨f,x,y,z,hf,hfo⟩:=heldV_form h
 have c2:=fun wx=>iheldholds_any f x y z i wx
 have c3:=fun wx=>iregd_any f i wx
 have c4:=fun wx=>iperson_any i wx
 have c5:=fun wx=>imay_any x b (holdsF f x y i) (inI i 0 3&&decide (f i.toNat≠0)) wx
 have HE:Hid (h.May i b=(h.ok&&(inI i 0 3&&mayI x b (holdsF f x y i) (inI i 0 3&&decide (f i.toNat≠0))))):=by
  unfold Hd.May
  rw[Hid]
  cases hk:h.ok
  ·simp
  ·rw[(hfo hk).1,(hfo hk).2.1,(hfo hk).2.2.1,holdsF_ok hk]
   cases inI i 0 3
   ·simp
   ·rfl
 obtain⟨ok,hok⟩:∃ok,ok=h.ok:=⟨_,rfl⟩
 obtain⟨r,hr'⟩:∃r,r=h.May i b:=⟨_,rfl⟩
 rw[←hok]at c1 HE
 rw[←hr']at HE⊢
 rw[hf]at c1
 obtain⟨q1,hq1⟩:∃q1,q1=holdsF f x y i:=⟨_,rfl⟩
 obtain⟨q2,hq2⟩:∃q2,q2=(inI i 0 3&&decide (f i.toNat≠0)):=⟨_,rfl⟩
 simp only[←hq1,←hq2]at c2 c3 c5 HE
 obtain⟨q3,hq3⟩:∃q3,q3=mayI x b q1 q2:=⟨_,rfl⟩
 obtain⟨q4,hq4⟩:∃q4,q4=inI i 0 3:=⟨_,rfl⟩
 simp only[←hq3,←hq4]at c5 c4 HE
 clear hok hf hfo hr hl hr' hq1 hq2 hq3 hq4
 unfold HV hdA at*
 go_enter Tryz.func109,Tryz.ntmps109
 go_wp2_with fail
 refine c1.mono ?_
 rintro e w2 ⟨rfl,b2⟩
 have HB2:Hid (Below w.heap.size w w2):=b1.trans (b2.mono b1.size)
 have z2:Hid (StB (w2.alloc (.cells (heA (fun _=>0) 0 0 0) 106)) w2.heap.size 106 (heA (fun _=>0) 0 0 0)):=StB.new _ _ _
 clear c1 b1 b2
 go_upto_region 2 with(first|(refine wpList_putS Tryz.isHeld rfl _ _ rfl w2.heap.size (heA f x y z) _ rfl rfl rfl rfl (heA_one _ _ _ _) z2.out ?_;intro w3 h3 g3))
 have HB3:Hid (Below w.heap.size w w3):=HB2.out.trans (((Below.refl _ _).alloc (Nat.le_refl _) _ |>.grown g3 (by simp) (fun k e=>by cases e;exact Nat.le_refl _)).mono HB2.out.size)
 have H3:Hid (StB w3 w2.heap.size 106 (heA f x y z)):=h3
 obtain⟨m0,m1,m2,m3,m4,m5,m6⟩:=heA_cells h3
 obtain⟨g,hg⟩:∃g,g=w2.heap.size:=⟨_,rfl⟩
 rw[←hg]at m0 m1 m2 m3 m4 m5 m6 H3⊢
 clear HB2 z2 g3 h3 hg
 unfold heA at c2
 unfold kA at c3
 cases ok with
 |false=>
  clear c2 c3 c4 c5
  go_quiet (fail)
  go_wp2
  go_ret
  exact⟨ret_bool (by rw[HE.out];simp),below_drewN HB3.out _⟩
 |true=>
  cases q4 with
  |false=>
   clear c2 c3 c5
   go_quiet ((go_at_call 70;exact Calls.quiet_of_same (c4 _)))
   go_wp2
   go_ret
   exact⟨ret_bool (by rw[HE.out];simp),below_drewN HB3.out _⟩
  |true=>
   have HD3:Hid (Below w.heap.size w w3.drew):=HB3.out.drew
   have HH3:Hid (StB w3.drew g 106 (heA f x y z)):=H3.out
   clear HB3 H3
   go_region_held3 (fun w'=>w'.cell? ⟨g,0,none⟩=some (.int .i64 (f 0))∧w'.cell? ⟨g,1,none⟩=some (.int .i64 (f 1))∧w'.cell? ⟨g,2,none⟩=some (.int .i64 (f 2))∧w'.cell? ⟨g,3,none⟩=some (.int .i64 (f 3))∧w'.cell? ⟨g,4,none⟩=some (.int .i64 x)∧w'.cell? ⟨g,5,none⟩=some (.int .i64 y)∧w'.cell? ⟨g,6,none⟩=some (.int .i64 z)) (refine⟨?_,?_,?_,?_,?_,?_,?_⟩<;>assumption)
    (first
     |(go_at_call 70;refine(c4 _).mono ?_;rintro e w' ⟨rfl,hw⟩;subst w')
     |(go_at_call 142;refine(c2 _).mono ?_;rintro e w4 ⟨rfl,b4⟩;have HB4:=HB_next HD3 b4;have H4:=heA_S HH3 b4 rfl;obtain⟨n0,n1,n2,n3,n4,n5,n6⟩:=heA_cells H4.out;clear b4)
     |(go_at_call 143;refine(c3 _).mono ?_;rintro e w5 ⟨rfl,b5⟩;have HB5:=HB_next HB4 b5;have H5:=heA_S H4 b5 rfl;obtain⟨o0,o1,o2,o3,o4,o5,o6⟩:=heA_cells H5.out;clear b5)
     |(go_at_call 141;refine(c5 _).mono ?_;rintro e w6 ⟨rfl,b6⟩;have HB6:=HB_next HB5 b6;have H6:=heA_S H5 b6 rfl;obtain⟨u0,u1,u2,u3,u4,u5,u6⟩:=heA_cells H6.out;clear b6))
   go_wp2
   go_ret
   exact⟨ret_bool (by rw[HE.out];simp),HB6.out⟩
end Go.Proofs.YtpdggofaobmnlaaGreatDoor
namespace Go.Proofs.YtpdggofaobmnlaaGreatDoor
open Go.ChangeShapes Go.WideShapes Go.ChangeAt Go.RowKit
theorem ilistK4_any (f:Nat→Int) (w:World):
  Calls Tryz.prog 124 #[.agg (kA f)] w fun e w'=>∃ao cap,e=.returned (.slice ao 4 cap)∧Own w' w.heap.size (.slice ao 4 cap) (listK f)∧Below w.heap.size w w':=by
 refine(ilistK_any f w).mono ?_
 rintro e w' ⟨u,rfl,o,b⟩
 obtain⟨ao,cap,rfl⟩:=reads_form o.reads
 exact⟨ao,cap,rfl,o,b⟩
theorem cell_put4 {w:World} {g k:Nat} (hne:g≠k) {j:Nat} {a b c d x:Value} (h:w.cell? ⟨g,j,none⟩=some x):
  ((((w.setCell ⟨k,0,none⟩ a).setCell ⟨k,1,none⟩ b).setCell ⟨k,2,none⟩ c).setCell ⟨k,3,none⟩ d).cell? ⟨g,j,none⟩=some x:=by
 rw[World.cell?_setCell_far _ _ _ _ (Ne.symm hne),World.cell?_setCell_far _ _ _ _ (Ne.symm hne),World.cell?_setCell_far _ _ _ _ (Ne.symm hne),World.cell?_setCell_far _ _ _ _ (Ne.symm hne),h]
theorem iholding_any (f:Nat→Int) (kd ho tu:Int) (w:World):
  Calls Tryz.prog 85 #[.agg (heA f kd ho tu)] w fun e w'=>∃u,e=.returned (HV u ⟨listK f,kd,ho,tu⟩)∧Own w' w.heap.size u (listK f)∧Below w.heap.size w w':=by
 obtain⟨w1,hw1⟩:∃w1,w1=(w.alloc (.cells (heA f kd ho tu) 106)).alloc (.cells #[.slice none 0 0,.int .i64 0,.int .i64 0,.int .i64 0] 28):=⟨_,rfl⟩
 have HB:Hid (Below w.heap.size w w1.drew):=by rw[hw1];exact(((Below.refl _ _).alloc (Nat.le_refl _) _).alloc (by simp) _).drew
 have H1:Hid (StB w1 w.heap.size 106 (heA f kd ho tu)):=by rw[hw1];exact(StB.new _ _ _).alloc _
 have HH1:Hid (StB w1.drew w.heap.size 106 (heA f kd ho tu)):=H1.out
 have R1:Hid (StB w1.drew (w.heap.size+1) 28 #[.slice none 0 0,.int .i64 0,.int .i64 0,.int .i64 0]):=by
  rw[hw1]
  have:=StB.new (w.alloc (.cells (heA f kd ho tu) 106)) 28 #[.slice none 0 0,.int .i64 0,.int .i64 0,.int .i64 0]
  rw[World.size_alloc]at this
  exact this
 obtain⟨m0,m1,m2,m3,m4,m5,m6⟩:=heA_cells H1.out
 have c1:=fun wx=>ilistK4_any f wx
 have hs:w.heap.size+1<w1.drew.heap.size:=R1.out.lt
 clear H1
 unfold heA at hw1⊢
 unfold kA at c1
 go_enter Tryz.func85,Tryz.ntmps85
 go_upto_region 1 with fail
 rw[←hw1]
 obtain⟨k,hk⟩:∃k,k=w.heap.size+1:=⟨_,rfl⟩
 rw[←hk]at R1 hs⊢
 have hne:w.heap.size≠k:=by omega
 have HK:Hid (k=w.heap.size+1):=hk
 obtain⟨g,hg⟩:∃g,g=w.heap.size:=⟨_,rfl⟩
 rw[←hg]at m0 m1 m2 m3 m4 m5 m6 HH1 hne⊢
 have HG:Hid (g=w.heap.size):=hg
 have HS:Hid (k<w1.drew.heap.size):=hs
 obtain⟨d0,d1,d2,d3,d4,d5,d6⟩:=heA_cells HH1.out
 clear hw1 hk hg hs
 go_region_held3 (fun w'=>w'.cell? ⟨g,0,none⟩=some (.int .i64 (f 0))∧w'.cell? ⟨g,1,none⟩=some (.int .i64 (f 1))∧w'.cell? ⟨g,2,none⟩=some (.int .i64 (f 2))∧w'.cell? ⟨g,3,none⟩=some (.int .i64 (f 3))∧w'.cell? ⟨g,4,none⟩=some (.int .i64 kd)∧w'.cell? ⟨g,5,none⟩=some (.int .i64 ho)∧w'.cell? ⟨g,6,none⟩=some (.int .i64 tu)) (refine⟨?_,?_,?_,?_,?_,?_,?_⟩<;>first|with_reducible assumption|(with_reducible refine cell_put4 hne ?_;with_reducible assumption))
  (first
   |(go_at_call 124;refine(c1 _).mono ?_;rintro e w2 ⟨ao,cap,rfl,o2,b2⟩;have HB2:=HB_next HB b2;have H2:=heA_S HH1 b2 rfl;have R2:Hid (StB w2 k 28 #[.slice none 0 0,.int .i64 0,.int .i64 0,.int .i64 0]):=R1.out.below b2;have O2:Hid (Own w2 w1.drew.heap.size (.slice ao 4 cap) (listK f)):=o2;obtain⟨n0,n1,n2,n3,n4,n5,n6⟩:=heA_cells H2.out;clear b2 o2;have q0:w2.cell? ⟨k,0,none⟩=some (.slice none 0 0):=R2.out.cell 0 rfl;have q1:w2.cell? ⟨k,1,none⟩=some (.int .i64 0):=R2.out.cell 1 rfl;have q2:w2.cell? ⟨k,2,none⟩=some (.int .i64 0):=R2.out.cell 2 rfl;have q3:w2.cell? ⟨k,3,none⟩=some (.int .i64 0):=R2.out.cell 3 rfl;have f0:=R2.out.frozen 0;have f1:=R2.out.frozen 1;have f2:=R2.out.frozen 2;have f3:=R2.out.frozen 3))
 have SE:=(((R2.out.put 0 (.slice ao 4 cap) rfl).put 1 (.int .i64 kd) rfl).put 2 (.int .i64 ho) rfl).put 3 (.int .i64 tu) (ds:=hdA (.slice ao 4 cap) ⟨listK f,kd,ho,tu⟩) rfl
 have GE:=(((grownSet w2 k 0 (.slice ao 4 cap)).trans (grownSet _ k 1 (.int .i64 kd))).trans (grownSet _ k 2 (.int .i64 ho))).trans (grownSet _ k 3 (.int .i64 tu))
 have HF:Hid (_∧_):=⟨SE,GE⟩
 clear SE GE H2 R2 n0 n1 n2 n3 n4 n5 n6 q0 q1 q2 q3 f0 f1 f2 f3 d0 d1 d2 d3 d4 d5 d6 m0 m1 m2 m3 m4 m5 m6
 go_wp2
 refine bodyPost_ret (results_S Tryz.isH rfl _ _ k _ rfl rfl HF.out.1) rfl ?_
 have h1:=HB.out.size
 have h2:=HK.out
 exact⟨_,rfl,(O2.out.keptLt HF.out.2 HS.out).mono h1,HB2.out.grown HF.out.2 HB2.out.size (fun x e=>by cases e;omega)⟩
theorem inewH_any (w:World):
  Calls Tryz.prog 37 #[] w fun e w'=>∃u,e=.returned (HV u Hd.new)∧Own w' w.heap.size u Hd.new.ks∧Below w.heap.size w w':=by
 obtain⟨w1,hw1⟩:∃w1,w1=w.alloc (.cells #[.slice none 0 0,.int .i64 0,.int .i64 0,.int .i64 0] 28):=⟨_,rfl⟩
 have p0:Hid (StB w1 w.heap.size 28 #[.slice none 0 0,.int .i64 0,.int .i64 0,.int .i64 0]):=by rw[hw1];exact StB.new w _ _
 have b1:Hid (Below w.heap.size w w1):=by rw[hw1];exact(Below.refl _ _).alloc (Nat.le_refl _) _
 have c1:=iholding_any (fun _=>0) 0 (-1) 0 w1
 unfold heA at c1
 go_enter Tryz.func37,Tryz.ntmps37
 go_wp2_with fail
 rw[←hw1]
 refine c1.mono ?_
 rintro e w2 ⟨u,rfl,o2,b2⟩
 obtain⟨ao,cap,rfl⟩:=reads_form o2.reads
 have P2:Hid (StB w2 w.heap.size 28 #[.slice none 0 0,.int .i64 0,.int .i64 0,.int .i64 0]):=p0.out.below b2
 have B2:=HB_next b1 b2
 have O2:Hid (Own w2 w1.heap.size (.slice ao 4 cap) (listK fun _=>0)):=o2
 have HS:Hid (w.heap.size<w1.heap.size):=p0.out.lt
 clear hw1 c1 o2 b2 p0
 go_wp2_with (first|(refine wpList_putS Tryz.isH rfl _ _ rfl w.heap.size (hdA (.slice ao 4 cap) Hd.new) _ rfl rfl rfl rfl (hdA_one _ rfl) P2.out ?_;intro w3 s3 g3))
 refine bodyPost_ret (results_S Tryz.isH rfl _ _ w.heap.size _ rfl rfl s3) rfl ?_
 exact⟨_,rfl,(O2.out.keptLt g3 HS.out).mono b1.out.size,B2.out.grown g3 B2.out.size (fun k e=>by cases e;exact Nat.le_refl _)⟩
end Go.Proofs.YtpdggofaobmnlaaGreatDoor
