/- The program's Written, Flushed and Lost. -/
import Derived.Test.YthldeiojlllkdaaGreatDoorM1
import Derived.Test.YthldeiojlllkdaaGreatDoorM15
import Derived.Test.YthldeiojlllkdaaGreatDoorM16
import Derived.Test.YthldeiojlllkdaaGreatDoorM12
import Derived.Test.YthldeiojlllkdaaGreatDoorM3
import Derived.Test.YthldeiojlllkdaaGreatDoorM14
import Derived.Test.YthldeiojlllkdaaGreatDoorM21
import Derived.Test.YthldeiojlllkdaaGreatDoorM13
import Derived.ArgAppend
set_option maxRecDepth 20000
set_option maxHeartbeats 4000000
namespace Go.Proofs.YthldeiojlllkdaaGreatDoor
open Go.ChangeShapes Go.WideShapes Go.ChangeAt Go.RowKit
theorem yU (w:World) (ty:TypeId) (u v:Value) (xs ys:List Int) (base:Nat) (ou:Own w base u xs) (rv:ag w v ys) (hl:ys.length=xs.length) (h1:1<=xs.length):
  ∃w',(Builtin.copy_ #[22,22] ty #[u,v]).run Tryz.prog w=.ok (goInt xs.length) w'/\Own w' base u ys/\w.grownBy w' u.ownBlock:=by
 rcases ou.2 with⟨_,h0⟩|⟨g,cap,cur,rfl,hb,hg,hnc,hcm,hcs,ht⟩
 ·omega
 ·obtain⟨ao,c2,rfl,_,_,hc⟩:=rv
  rcases hc with e|⟨b,off,rfl,hcell⟩
  ·subst e;simp at hl;omega
  ·have hsz:(Tryz.prog.info? 2).map (·.size)=some 1:=by
    obtain⟨i0,hi,hz0,hz1,hz2⟩:=info_parts Tryz.infoI;simp[hi,hz1]
   have hsrc:∀j z,(ys.map (Value.int .i64))[j]?=some z->w.cell? ((⟨b,off,none⟩:Addr).add j)=some z:=by
    intro j z hj;have hlt:j<ys.length:=by
     rcases Nat.lt_or_ge j ys.length with h|h
     ·exact h
     ·rw[List.getElem?_eq_none (by simpa using h)]at hj;cases hj
    rw[show(⟨b,off,none⟩:Addr).add j=⟨b,off+j,none⟩ by unfold Addr.add;split<;>simp_all];rw[hcell j hlt];simp[List.getD,hlt]at hj⊢;exact hj
   have hone:∀z∈ys.map (Value.int .i64),z.oneCell'=true:=by
    intro z hz;obtain⟨x,_,rfl⟩:=List.mem_map.1 hz;rfl
   have hcz:cur.size=cap:=by simpa using hcs
   have hrun:=run_copy_row (P:=Tryz.prog) w 22 22 ty 2 g 0 xs.length cap ⟨b,off,none⟩ ys.length c2 cur _ (ys.map (Value.int .i64)) Tryz.underlying22 hsz hg (by simp[hl]) hsrc (by simp;omega) hone;rw[show goInt ((ys.map (Value.int .i64)).length:Nat)=goInt (xs.length:Nat) by simp[hl]]at hrun;refine⟨_,hrun,⟨by simp,.inr ⟨g,cap,_,by rw[hl],hb,setRow_heap w g _ _ _ _ hg,by omega,hcm,?_,?_⟩⟩,?_⟩
   ·simp;omega
   ·simp[hl]
   ·exact sR w g _
theorem rP {ops:Array Oper} {rest:List Oper} {o:Oper} {a:Act} {w:World} {Q:Exit->Act->World->Prop} (hgd:o.guard=none) (d s:Operand)
  (ho:o.op=.call {callee:=.builtin .copy,args:=#[d,s],argTypes:=#[22,22]}) (u v:Value) (xs ys:List Int) (base:Nat) (hd:a.eval d=u) (hs:a.eval s=v)
  (ou:Own w base u xs) (rv:ag w v ys) (hl:ys.length=xs.length) (h1:1<=xs.length)
  (h:∀w',Own w' base u ys->w.grownBy w' u.ownBlock->wpList Tryz.prog ops Q rest (a.put o.dst (goInt xs.length)) w'):wpList Tryz.prog ops Q (o::rest) a w:=by
 refine wpList_plain hgd fun K hK=>?_
 obtain⟨w',hrun,h2,h3⟩:=yU w o.type u v xs ys base ou rv hl h1;unfold Oper.wp;simp[execOp,ho,resolve,invoke,builtin,hd,hs,hrun,Result.andThen];exact hK _ _ (h w' h2 h3)
theorem tA (u v:Value) (xs ys:List Int) (i x:Int) (w:World) (h:ag w u xs) (h':ag w v ys) (gx:xs.length<=1099511627776) (gy:ys.length<=1099511627776):
  Calls Tryz.prog 265 #[.agg #[u,v],.int .i64 i,.int .i64 x] w fun e w'=>∃a b,e=.returned (.tuple #[.agg #[a,b],.bool (wrB xs ys i x)])/\aS w' w.heap.size a b (wrK xs ys) (wrN xs ys i x)/\bB w w':=by
 obtain⟨w2,hw2⟩:=eX ((w.alloc (.cells #[u,v] 36)).alloc (.cells #[.slice none 0 0,.slice none 0 0] 36))
 have HB:Hid (cM w w2 u v):=by rw[hw2];exact cM.start w u v
 have b2:=HB.out.2.2.1;have c1:=iG u v xs ys w2 (h.below b2 (Nat.le_refl _)) (h'.below b2 (Nat.le_refl _)) gx gy;by_cases hb:au xs ys=true
 ·have e1:wrB xs ys i x=fy ys i x:=by simp[wrB,hb]
  have e2:wrK xs ys=xs:=by simp[wrK,hb]
  have e3:wrN xs ys i x=eV ys i x:=by simp[wrN,hb]
  rw[e1,e2,e3];have hx1:=(bD (eH hb).1).1;have c2:∀w',bB w w'->_:=fun w' b=>Co v ys i x w' (h'.below b (Nat.le_refl _)) gy
  have c3:∀w',bB w w'->_:=fun w' b=>js u xs w' (h.below b (Nat.le_refl _)) hx1 gx
  obtain⟨zs,hz⟩:=eX (eV ys i x)
  obtain⟨pb,hpb⟩:=eX (fy ys i x)
  simp only[<-hz,<-hpb]at c2⊢;rw[hb]at c1;clear hb e1 e2 e3 hz hpb h h' b2 hx1;go_enter Tryz.func265,Tryz.ntmps265;go_wp2_with fail
  rw[<-hw2];clear hw2;refine c1.mono ?_;rintro e w3 ⟨rfl,b3⟩;replace HB:Hid (cM w w3 u v):=HB.out.below b3;have q0:=HB.out.1.cell0;have q1:=HB.out.1.cell1;clear b3 c1;go_wp2_with fail
  refine(c2 _ HB.out.2.2.1).mono ?_;rintro e w4 ⟨b,rfl,o4,b4⟩;have HS:Hid (w.heap.size+2<=w3.heap.size/\w3.heap.size<=w4.heap.size):=⟨HB.out.2.2.2,b4.size⟩
  replace HB:Hid (cM w w4 u v):=HB.out.below b4;replace q0:=HB.out.1.cell0;clear b4 c2 q1;go_wp2_with fail
  refine(c3 _ HB.out.2.2.1).mono ?_;rintro e w5 ⟨a,rfl,o5,b5⟩;have hap:=dt o4 o5 (Nat.le_refl _);replace o4:=o4.below b5;replace HB:Hid (cM w w5 u v):=HB.out.below b5;have p5:=HB.out.2.1;obtain⟨ao,ca,hea⟩:=o5.reads.form;obtain⟨bo,cb,heb⟩:=o4.reads.form;subst hea heb;have HO:Hid (Own w5 w4.heap.size _ xs/\Own w5 w3.heap.size _ zs/\apart _ _):=⟨o5,o4,hap.symm⟩
  clear b5 o4 o5 hap c3 q0;go_wp2_with (refine eZ rfl _ _ rfl (w.heap.size+1) _ _ _ _ rfl rfl rfl rfl p5 ?_;intro w6 p6 g6)
  refine bodyPost_ret (jL rfl _ _ (w.heap.size+1) _ _ _ rfl rfl p6) rfl ?_;exact⟨_,_,rfl,HB.out.done g6 HO.out.1 HO.out.2.1 (Nat.le_trans HS.out.1 HS.out.2) HS.out.1 HO.out.2.2⟩
 ·have hb':au xs ys=false:=by simpa using hb
  have e1:wrB xs ys i x=false:=by simp[wrB,hb']
  have e2:wrK xs ys=[]:=by simp[wrK,hb']
  have e3:wrN xs ys i x=[]:=by simp[wrN,hb']
  rw[e1,e2,e3];rw[hb']at c1;clear hb hb' b2 e1 e2 e3 h h';go_enter Tryz.func265,Tryz.ntmps265;go_wp2_with fail
  rw[<-hw2];clear hw2;refine c1.mono ?_;rintro e w3 ⟨rfl,b3⟩;replace HB:Hid (cM w w3 u v):=HB.out.below b3;have p3:=HB.out.2.1;clear b3 c1;go_wp2_with (refine eZ rfl _ _ rfl (w.heap.size+1) _ _ _ _ rfl rfl rfl rfl p3 ?_;intro w5 p5 g5)
  refine bodyPost_ret (jL rfl _ _ (w.heap.size+1) _ _ _ rfl rfl p5) rfl ?_;exact⟨_,_,rfl,sw _ _,HB.out.2.2.1.grown g5 HB.out.2.2.1.size (fun k e=>by cases e;omega)⟩
theorem tB (u v:Value) (xs ys:List Int) (w:World) (h:ag w u xs) (h':ag w v ys) (gx:xs.length<=1099511627776) (gy:ys.length<=1099511627776):
  Calls Tryz.prog 255 #[.agg #[u,v]] w fun e w'=>∃a b,e=.returned (.agg #[a,b])/\aS w' w.heap.size a b (flN xs ys) (flN xs ys)/\bB w w':=by
 obtain⟨w2,hw2⟩:=eX ((w.alloc (.cells #[u,v] 36)).alloc (.cells #[.slice none 0 0,.slice none 0 0] 36))
 have HB:Hid (cM w w2 u v):=by rw[hw2];exact cM.start w u v
 have b2:=HB.out.2.2.1;have c1:=iG u v xs ys w2 (h.below b2 (Nat.le_refl _)) (h'.below b2 (Nat.le_refl _)) gx gy;by_cases hb:au xs ys=true
 ·have HD:Hid (flN xs ys=ys):=by simp[Hid,flN,hb]
  obtain⟨k1,k2,k3⟩:=eH hb;have hx1:=(bD k1).1;have hy1:=(bD k2).1;have c3:∀w',bB w w'->_:=fun w' b=>dJ u v xs ys w' (h.below b (Nat.le_refl _)) (h'.below b (Nat.le_refl _)) hx1 hy1 gx gy
  rw[hb]at c1;have HL:Hid (ys.length=xs.length/\1<=xs.length):=⟨k3.symm,hx1⟩
  clear b2 hb k1 k2 k3 hx1 hy1 h h';go_enter Tryz.func255,Tryz.ntmps255;go_wp2_with fail
  rw[<-hw2];clear hw2;refine c1.mono ?_;rintro e w3 ⟨rfl,b3⟩;replace HB:Hid (cM w w3 u v):=HB.out.below b3;have p3:=HB.out.1;clear b3 c1;go_wp2_with (refine iX rfl _ rfl w.heap.size rfl _ _ p3 ?_)
  refine(c3 _ HB.out.2.2.1).mono ?_;rintro e w4 ⟨a,b,rfl,o4,b4⟩;have HS:Hid (w.heap.size+2<=w3.heap.size):=HB.out.2.2.2;have hs4:=Nat.le_trans HS.out b4.size;replace HB:Hid (cM w w4 u v):=HB.out.below b4;have ha1:=o4.1.reads.one;have hb1:=o4.2.1.reads.one;obtain⟨g,ca,hea,hgl⟩:=World.ownsRow.form o4.1 (by have:=HL.out.2;omega);obtain⟨hg1,hg2⟩:=o4.1.ltBlock hea;have HO:Hid (aS w4 w3.heap.size a b xs ys):=o4;have hab:a.ownBlock=some g:=by rw[hea];rfl
  have HG:Hid (a.ownBlock=some g/\w3.heap.size<=g/\g<w4.heap.size):=⟨hab,hg1,hg2⟩
  clear b4 o4 p3 c3 hgl hea hab hg1 hg2;go_wp2_with (first
   |(refine eZ rfl _ _ rfl w4.heap.size _ _ _ _ rfl rfl ha1 hb1 (cK.new w4 _ _ _) ?_;intro w5 p5 g5;have hg5:w4.grownBy w5 (some w4.heap.size):=(mv w4 _ _).trans g5;have HB5:Hid (cM w w5 u v/\aS w5 w3.heap.size a b xs ys):=⟨HB.out.kept hg5 hs4,HO.out.1.keptNew hg5,HO.out.2.1.keptNew hg5,HO.out.2.2⟩;have e0:=p5.cell0;have e1:=p5.cell1;clear g5 hg5)
   |(refine rP rfl _ _ rfl a b xs ys w3.heap.size rfl rfl HB5.out.2.1 HB5.out.2.2.1.reads HL.out.1 HL.out.2 ?_;intro w6 o6 g6;rw[HG.out.1]at g6;have HB6:Hid (cM w w6 u v/\aS w6 w3.heap.size a b ys ys):=⟨HB5.out.1.kept g6 (by have:=HG.out;have:=HS.out;omega),o6,HB5.out.2.2.1.kept g6 (by have:=HB5.out.2.2.2.2;rw[HG.out.1]at this;exact this),HB5.out.2.2.2⟩;have p6:=p5.kept g6 (by have:=HG.out;simp;omega);have p7:=HB6.out.1.2.1;clear g6 o6)
   |(refine iX rfl _ rfl w4.heap.size rfl _ _ p6 ?_)
   |(refine eZ rfl _ _ rfl (w.heap.size+1) _ _ _ _ rfl rfl ha1 hb1 p7 ?_;intro w7 p8 g8))
  refine bodyPost_ret (eJ rfl _ _ (w.heap.size+1) _ _ rfl p8) rfl ?_;rw[HD.out];exact⟨_,_,rfl,HB6.out.1.done g8 HB6.out.2.1 HB6.out.2.2.1 HS.out HS.out HB6.out.2.2.2⟩
 ·have hb':au xs ys=false:=by simpa using hb
  have HD:Hid (flN xs ys=[]):=by simp[Hid,flN,hb']
  rw[hb']at c1;clear b2 hb hb' h h';go_enter Tryz.func255,Tryz.ntmps255;go_wp2_with fail
  rw[<-hw2];clear hw2;refine c1.mono ?_;rintro e w3 ⟨rfl,b3⟩;replace HB:Hid (cM w w3 u v):=HB.out.below b3;have p3:=HB.out.2.1;clear b3 c1;go_wp2_with (refine eZ rfl _ _ rfl (w.heap.size+1) _ _ _ _ rfl rfl rfl rfl p3 ?_;intro w5 p5 g5)
  refine bodyPost_ret (eJ rfl _ _ (w.heap.size+1) _ _ rfl p5) rfl ?_;rw[HD.out];exact⟨_,_,rfl,sw _ _,HB.out.2.2.1.grown g5 HB.out.2.2.1.size (fun k e=>by cases e;omega)⟩
theorem cK.drew {w:World} {g:Nat} {t:TypeId} {u v:Value} (h:cK w g t u v):cK w.drew g t u v:=h
theorem aS.drew {w:World} {base:Nat} {u v:Value} {xs ys:List Int} (h:aS w base u v xs ys):aS w.drew base u v xs ys:=h
theorem aS.below {w w':World} {base:Nat} {u v:Value} {xs ys:List Int} (h:aS w base u v xs ys) (b:bB w w'):aS w' base u v xs ys:=⟨h.1.below b,h.2.1.below b,h.2.2⟩
def Mid (w wx:World) (u v:Value) (h base:Nat) (a b:Value) (xs ys:List Int):Prop:=cM w wx u v/\cK wx h 36 a b/\aS wx base a b xs ys
theorem Mid.below {w wx wy:World} {u v a b:Value} {h base:Nat} {xs ys:List Int} (m:Mid w wx u v h base a b xs ys) (k:bB wx wy):Mid w wy u v h base a b xs ys:=
 ⟨m.1.below k,m.2.1.below k,m.2.2.below k⟩
theorem Mid.drew {w wx:World} {u v a b:Value} {h base:Nat} {xs ys:List Int} (m:Mid w wx u v h base a b xs ys):Mid w wx.drew u v h base a b xs ys:=⟨m.1.drew,m.2.1,m.2.2⟩
theorem ql {h:Hd} (hk:h.ok=true) (i:Int):eE (KF h.ks) h.kd h.ho i=(inI i 0 3&&h.holds i):=by
 have hm:h.mid=true:=by
  unfold Hd.ok at hk;simp only[Bool.and_eq_true]at hk;exact hk.2
 unfold eE Hd.holds;rw[show decide (KF h.ks i.toNat≠0)=dV h.ks i from rfl];unfold Hd.mid at hm;cases hin:inI i 0 3
 ·simp
 ·have hi:0<=i/\i<=3:=by simpa[inI]using hin
  simp only[Bool.true_and];by_cases h0:h.kd=0
  ·rw[if_pos h0]at hm
   have ho:h.ho= -1:=by simpa using hm
   rw[h0,ho];simp[show bY 0=false from rfl];intro _;omega
  ·rw[if_neg h0]at hm
   cases ha:bY h.kd
   ·rw[ha]at hm
    simp only[Bool.false_eq_true,if_false,Bool.and_eq_true]at hm;by_cases he:i=h.ho
    ·subst he
     simp[h0,hm.2]
    ·simp[he,Ne.symm he]
   ·rw[ha]at hm
    simp only[if_true,Bool.and_eq_true,decide_eq_true_eq]at hm;have:h.ho≠i:=by omega
    simp[h0,this]
theorem x9 {w:World} {g:Nat} {f:Nat->Int} {kd ho tu:Int} {w':World} {B:Nat} (h:Hid (StB w g 165 (heA f kd ho tu))) (hb:Below B w w') (e:B=w.heap.size):Hid (StB w' g 165 (heA f kd ho tu)):=by subst e;exact h.out.below hb
theorem nC {w w3 w4:World} (h:Hid (bB w w3)) (b:bB w3 w4):Hid (bB w w4):=h.out.trans (b.mono h.out.size)
theorem tH (v:Value) (h:Hd) (i:Int) (b:Bool) (w:World) (hr:ag w v h.ks) (hl:h.ks.length<=1099511627776):
  Calls Tryz.prog 194 #[HV v h,.int .i64 i,.bool b] w fun e w'=>e=.returned (.bool (h.May i b))/\bB w w':=by
 have b1:bB w (w.alloc (.cells (hdA v h) 37)):=bA;have c1:=fV v h _ (hr.below b1 (Nat.le_refl _)) hl;obtain⟨ao,cap,rfl⟩:=aa hr;obtain⟨f,x,y,z,hf,hfo⟩:=gG h;have c2:=fun wx=>gF f x y z i wx
 have c3:=fun wx=>jt f i wx
 have c4:=fun wx=>cO i wx
 have c5:=fun wx=>A7 x b (eE f x y i) (inI i 0 3&&decide (f i.toNat≠0)) wx
 have HE:Hid (h.May i b=(h.ok&&(inI i 0 3&&kC x b (eE f x y i) (inI i 0 3&&decide (f i.toNat≠0))))):=by
  unfold Hd.May;rw[Hid];cases hk:h.ok
  ·simp
  ·rw[(hfo hk).1,(hfo hk).2.1,(hfo hk).2.2.1,ql hk]
   cases inI i 0 3
   ·simp
   ·rfl
 obtain⟨ok,hok⟩:=eX h.ok
 obtain⟨r,hr'⟩:=eX (h.May i b)
 rw[<-hok]at c1 HE;rw[<-hr']at HE⊢;rw[hf]at c1;obtain⟨q1,hq1⟩:=eX (eE f x y i)
 obtain⟨q2,hq2⟩:=eX ((inI i 0 3&&decide (f i.toNat≠0)))
 simp only[<-hq1,<-hq2]at c2 c3 c5 HE;obtain⟨q3,hq3⟩:=eX (kC x b q1 q2)
 obtain⟨q4,hq4⟩:=eX (inI i 0 3)
 simp only[<-hq3,<-hq4]at c5 c4 HE;clear hok hf hfo hr hl hr' hq1 hq2 hq3 hq4;unfold HV hdA at*;go_enter Tryz.func194,Tryz.ntmps194;go_wp2_with fail
 refine c1.mono ?_;rintro e w2 ⟨rfl,b2⟩;have HB2:Hid (bB w w2):=b1.trans (b2.mono b1.size);have z2:Hid (StB (w2.alloc (.cells (heA (fun _=>0) 0 0 0) 165)) w2.heap.size 165 (heA (fun _=>0) 0 0 0)):=StB.new _ _ _;clear c1 b1 b2;go_upto_region 2 with(first|(refine ae Tryz.isHeld rfl _ _ rfl w2.heap.size (heA f x y z) _ rfl rfl rfl rfl (bK _ _ _ _) z2.out ?_;intro w3 h3 g3))
 have HB3:Hid (bB w w3):=HB2.out.trans ((bA |>.grown g3 (by simp) (fun k e=>by cases e;exact Nat.le_refl _)).mono HB2.out.size);have H3:Hid (StB w3 w2.heap.size 165 (heA f x y z)):=h3;obtain⟨m0,m1,m2,m3,m4,m5,m6⟩:=aV h3;obtain⟨g,hg⟩:=eX w2.heap.size
 rw[<-hg]at m0 m1 m2 m3 m4 m5 m6 H3⊢;clear HB2 z2 g3 h3 hg;unfold heA at c2;unfold kA at c3;cases ok with
 |false=>
  clear c2 c3 c4 c5
  go_quiet (fail)
  go_wp2;go_ret;exact⟨af (by rw[HE.out];simp),below_drewN HB3.out _⟩
 |true=>
  cases q4 with
  |false=>
   clear c2 c3 c5
   go_quiet ((go_at_call 26;exact Calls.quiet_of_same (c4 _)))
   go_wp2;go_ret;exact⟨af (by rw[HE.out];simp),below_drewN HB3.out _⟩
  |true=>
   have HD3:Hid (bB w w3.drew):=HB3.out.drew;have HH3:Hid (StB w3.drew g 165 (heA f x y z)):=H3.out;clear HB3 H3
   go_region_held3 (fun w'=>w'.cell? ⟨g,0,none⟩=some (.int .i64 (f 0))/\w'.cell? ⟨g,1,none⟩=some (.int .i64 (f 1))/\w'.cell? ⟨g,2,none⟩=some (.int .i64 (f 2))/\w'.cell? ⟨g,3,none⟩=some (.int .i64 (f 3))/\w'.cell? ⟨g,4,none⟩=some (.int .i64 x)/\w'.cell? ⟨g,5,none⟩=some (.int .i64 y)/\w'.cell? ⟨g,6,none⟩=some (.int .i64 z)) (refine⟨?_,?_,?_,?_,?_,?_,?_⟩<;>assumption)
    (first
     |(go_at_call 26;refine mo (c4 _) ?_)
     |(go_at_call 231;refine(c2 _).mono ?_;rintro e w4 ⟨rfl,b4⟩;have HB4:=nC HD3 b4;have H4:=x9 HH3 b4 rfl;obtain⟨n0,n1,n2,n3,n4,n5,n6⟩:=aV H4.out;clear b4)
     |(go_at_call 217;refine(c3 _).mono ?_;rintro e w5 ⟨rfl,b5⟩;have HB5:=nC HB4 b5;have H5:=x9 H4 b5 rfl;obtain⟨o0,o1,o2,o3,o4,o5,o6⟩:=aV H5.out;clear b5)
     |(go_at_call 230;refine(c5 _).mono ?_;rintro e w6 ⟨rfl,b6⟩;have HB6:=nC HB5 b6;have H6:=x9 H5 b6 rfl;obtain⟨u0,u1,u2,u3,u4,u5,u6⟩:=aV H6.out;clear b6))
   go_wp2;go_ret;exact⟨af (by rw[HE.out];simp),HB6.out⟩
theorem tI (f:Nat->Int) (w:World):
  Calls Tryz.prog 285 #[.agg (kA f)] w fun e w'=>∃ao cap,e=.returned (.slice ao 4 cap)/\Own w' w.heap.size (.slice ao 4 cap) (dw f)/\bB w w':=by
 refine(vX f w).mono ?_;rintro e w' ⟨u,rfl,o,b⟩;obtain⟨ao,cap,rfl⟩:=aa o.reads;exact⟨ao,cap,rfl,o,b⟩
theorem yZ {w:World} {g k:Nat} (hne:g≠k) {j:Nat} {a b c d x:Value} (h:w.cell? ⟨g,j,none⟩=some x):
  ((((w.setCell ⟨k,0,none⟩ a).setCell ⟨k,1,none⟩ b).setCell ⟨k,2,none⟩ c).setCell ⟨k,3,none⟩ d).cell? ⟨g,j,none⟩=some x:=by
 rw[World.cell?_setCell_far _ _ _ _ (Ne.symm hne),World.cell?_setCell_far _ _ _ _ (Ne.symm hne),World.cell?_setCell_far _ _ _ _ (Ne.symm hne),World.cell?_setCell_far _ _ _ _ (Ne.symm hne),h]
theorem ld (f:Nat->Int) (kd ho tu:Int) (w:World):
  Calls Tryz.prog 267 #[.agg (heA f kd ho tu)] w fun e w'=>∃u,e=.returned (HV u ⟨dw f,kd,ho,tu⟩)/\Own w' w.heap.size u (dw f)/\bB w w':=by
 obtain⟨w1,hw1⟩:=eX ((w.alloc (.cells (heA f kd ho tu) 165)).alloc (.cells #[.slice none 0 0,.int .i64 0,.int .i64 0,.int .i64 0] 37))
 have HB:Hid (bB w w1.drew):=by rw[hw1];exact(bA.alloc (by simp) _).drew
 have H1:Hid (StB w1 w.heap.size 165 (heA f kd ho tu)):=by rw[hw1];exact(StB.new _ _ _).alloc _
 have HH1:Hid (StB w1.drew w.heap.size 165 (heA f kd ho tu)):=H1.out;have R1:Hid (StB w1.drew (w.heap.size+1) 37 #[.slice none 0 0,.int .i64 0,.int .i64 0,.int .i64 0]):=by
  rw[hw1];have:=StB.new (w.alloc (.cells (heA f kd ho tu) 165)) 37 #[.slice none 0 0,.int .i64 0,.int .i64 0,.int .i64 0];rw[World.size_alloc]at this;exact this
 obtain⟨m0,m1,m2,m3,m4,m5,m6⟩:=aV H1.out;have c1:=fun wx=>tI f wx
 have hs:w.heap.size+1<w1.drew.heap.size:=R1.out.lt;clear H1;unfold heA at hw1⊢;unfold kA at c1;go_enter Tryz.func267,Tryz.ntmps267;go_upto_region 1 with fail
 rw[<-hw1];obtain⟨k,hk⟩:=eX (w.heap.size+1)
 rw[<-hk]at R1 hs⊢;have hne:w.heap.size≠k:=by omega
 have HK:Hid (k=w.heap.size+1):=hk;obtain⟨g,hg⟩:=eX w.heap.size
 rw[<-hg]at m0 m1 m2 m3 m4 m5 m6 HH1 hne⊢;have HG:Hid (g=w.heap.size):=hg;have HS:Hid (k<w1.drew.heap.size):=hs;obtain⟨d0,d1,d2,d3,d4,d5,d6⟩:=aV HH1.out;clear hw1 hk hg hs
 go_region_held3 (fun w'=>w'.cell? ⟨g,0,none⟩=some (.int .i64 (f 0))/\w'.cell? ⟨g,1,none⟩=some (.int .i64 (f 1))/\w'.cell? ⟨g,2,none⟩=some (.int .i64 (f 2))/\w'.cell? ⟨g,3,none⟩=some (.int .i64 (f 3))/\w'.cell? ⟨g,4,none⟩=some (.int .i64 kd)/\w'.cell? ⟨g,5,none⟩=some (.int .i64 ho)/\w'.cell? ⟨g,6,none⟩=some (.int .i64 tu)) (refine⟨?_,?_,?_,?_,?_,?_,?_⟩<;>first|with_reducible assumption|(with_reducible refine yZ hne ?_;with_reducible assumption))
  (first
   |(go_at_call 285;refine(c1 _).mono ?_;rintro e w2 ⟨ao,cap,rfl,o2,b2⟩;have HB2:=nC HB b2;have H2:=x9 HH1 b2 rfl;have R2:Hid (StB w2 k 37 #[.slice none 0 0,.int .i64 0,.int .i64 0,.int .i64 0]):=R1.out.below b2;have O2:Hid (Own w2 w1.drew.heap.size (.slice ao 4 cap) (dw f)):=o2;obtain⟨n0,n1,n2,n3,n4,n5,n6⟩:=aV H2.out;clear b2 o2;have q0:w2.cell? ⟨k,0,none⟩=some (.slice none 0 0):=R2.out.cell 0 rfl;have q1:w2.cell? ⟨k,1,none⟩=some (.int .i64 0):=R2.out.cell 1 rfl;have q2:w2.cell? ⟨k,2,none⟩=some (.int .i64 0):=R2.out.cell 2 rfl;have q3:w2.cell? ⟨k,3,none⟩=some (.int .i64 0):=R2.out.cell 3 rfl;have f0:=R2.out.frozen 0;have f1:=R2.out.frozen 1;have f2:=R2.out.frozen 2;have f3:=R2.out.frozen 3))
 have SE:=(((R2.out.put 0 (.slice ao 4 cap) rfl).put 1 (.int .i64 kd) rfl).put 2 (.int .i64 ho) rfl).put 3 (.int .i64 tu) (ds:=hdA (.slice ao 4 cap) ⟨dw f,kd,ho,tu⟩) rfl;have GE:=(((ai w2 k 0 (.slice ao 4 cap)).trans (ai _ k 1 (.int .i64 kd))).trans (ai _ k 2 (.int .i64 ho))).trans (ai _ k 3 (.int .i64 tu));have HF:Hid (_/\_):=⟨SE,GE⟩
 clear SE GE H2 R2 n0 n1 n2 n3 n4 n5 n6 q0 q1 q2 q3 f0 f1 f2 f3 d0 d1 d2 d3 d4 d5 d6 m0 m1 m2 m3 m4 m5 m6;go_wp2;refine bodyPost_ret (aj Tryz.isH rfl _ _ k _ rfl rfl HF.out.1) rfl ?_;have h1:=HB.out.size;have h2:=HK.out;exact⟨_,rfl,(O2.out.keptLt HF.out.2 HS.out).mono h1,HB2.out.grown HF.out.2 HB2.out.size (fun x e=>by cases e;omega)⟩
theorem dl {w wx:World} (h:bB w wx):w.heap.size<=wx.heap.size:=h.size
def Sp (g:Nat) (w1 w':World):Prop:=∀a x,a.block≠g->w1.cell? a=some x->w'.cell? a=some x
theorem Sp.refl (g:Nat) (w1:World):Sp g w1 w1:=fun _ _ _ h=>h
theorem Sp.dr {g:Nat} {w1 wx:World} (h:Sp g w1 wx):Sp g w1 wx.drew:=h
theorem Sp.bel {g:Nat} {w1 wx wy:World} (h:Sp g w1 wx) (b:bB wx wy):Sp g w1 wy:=fun a x h1 h3=>aI (h a x h1 h3) b
theorem Sp.al {g:Nat} {w1 wx:World} {o:Obj} (h:Sp g w1 wx):Sp g w1 (wx.alloc o):=h.bel bA
theorem Sp.put {g:Nat} {w1 wx wy:World} (h:Sp g w1 wx) (e:wx.grownBy wy (some g)):Sp g w1 wy:=fun a x h1 h3=>e.cell (h a x h1 h3) (by simpa using h1)
theorem Sp.set {g:Nat} {w1 wx:World} {j:Nat} {v:Value} (h:Sp g w1 wx):Sp g w1 (wx.setCell ⟨g,j,none⟩ v):=h.put (ai wx g j v)
def Sd (g k:Nat) (w1 w':World):Prop:=∀a x,a.block≠g->a.block≠k->w1.cell? a=some x->w'.cell? a=some x
theorem Sd.refl (g k:Nat) (w1:World):Sd g k w1 w1:=fun _ _ _ _ h=>h
theorem Sd.dr {g k:Nat} {w1 wx:World} (h:Sd g k w1 wx):Sd g k w1 wx.drew:=h
theorem Sd.bel {g k:Nat} {w1 wx wy:World} (h:Sd g k w1 wx) (b:bB wx wy):Sd g k w1 wy:=fun a x h1 h2 h3=>aI (h a x h1 h2 h3) b
theorem Sd.al {g k:Nat} {w1 wx:World} {o:Obj} (h:Sd g k w1 wx):Sd g k w1 (wx.alloc o):=h.bel bA
theorem Sd.put1 {g k:Nat} {w1 wx wy:World} (h:Sd g k w1 wx) (e:wx.grownBy wy (some g)):Sd g k w1 wy:=fun a x h1 h2 h3=>e.cell (h a x h1 h2 h3) (by simpa using h1)
theorem Sd.put2 {g k:Nat} {w1 wx wy:World} (h:Sd g k w1 wx) (e:wx.grownBy wy (some k)):Sd g k w1 wy:=fun a x h1 h2 h3=>e.cell (h a x h1 h2 h3) (by simpa using h2)
theorem Sd.set1 {g k:Nat} {w1 wx:World} {j:Nat} {v:Value} (h:Sd g k w1 wx):Sd g k w1 (wx.setCell ⟨g,j,none⟩ v):=h.put1 (ai wx g j v)
theorem Sd.set2 {g k:Nat} {w1 wx:World} {j:Nat} {v:Value} (h:Sd g k w1 wx):Sd g k w1 (wx.setCell ⟨k,j,none⟩ v):=h.put2 (ai wx k j v)
def pQ (w:World) (g:Nat) (a b k:Value) (h:Hd):World:=
 (((((w.setCell ⟨g,0,none⟩ a).setCell ⟨g,1,none⟩ b).setCell ⟨g,2,none⟩ k).setCell ⟨g,3,none⟩ (.int .i64 h.kd)).setCell ⟨g,4,none⟩ (.int .i64 h.ho)).setCell ⟨g,5,none⟩ (.int .i64 h.tu)
theorem jD {w:World} {g:Nat} {t:TypeId} {c0 c1 c2 c3 c4 c5:Value} (a b k:Value) (h:Hd) (s:StB w g t #[c0,c1,c2,c3,c4,c5]):StB (pQ w g a b k h) g t (srA a b k h):=
 (((((s.put 0 _ rfl).put 1 _ rfl).put 2 _ rfl).put 3 _ rfl).put 4 _ rfl).put 5 _ rfl
theorem fK (w:World) (g:Nat) (a b k:Value) (h:Hd):w.grownBy (pQ w g a b k h) (some g):=
 (((((ai _ _ _ _).trans (ai _ _ _ _)).trans (ai _ _ _ _)).trans (ai _ _ _ _)).trans (ai _ _ _ _)).trans (ai _ _ _ _)
theorem jm (u v q:Value) (xs ys:List Int) (h:Hd) (w:World) (hu:ag w u xs) (hv:ag w v ys) (hq:ag w q h.ks) (gx:xs.length<=1099511627776) (gy:ys.length<=1099511627776) (gk:h.ks.length<=1099511627776):
  Calls Tryz.prog 97 #[SRV u v q h] w fun e w'=>∃a b k,e=.returned (SRV a b k h)/\aY w' w.heap.size a b k xs ys h.ks/\bB w w':=by
 obtain⟨w1,hw1⟩:=eX ((w.alloc (.cells (srA u v q h) 96)).alloc (.cells zeR 96))
 have b1:bB w w1:=by rw[hw1];exactbA.alloc (by simp) _
 have S1:Hid (StB w1 w.heap.size 96 (srA u v q h)/\StB w1 (w.heap.size+1) 96 zeR/\bB w w1/\w.heap.size+2<=w1.heap.size):=by
  have a2:=StB.new (w.alloc (.cells (srA u v q h) 96)) 96 zeR;simp only[World.size_alloc]at a2;exact⟨by rw[hw1];exact(StB.new w _ _).alloc _,by rw[hw1];exact a2,b1,by rw[hw1];simp⟩
 have C1:Hid (∀wx,bB w1 wx->Calls Tryz.prog 51 #[.agg #[u,v]] wx fun e w'=>∃a b,e=.returned (.agg #[a,b])/\aS w' wx.heap.size a b xs ys/\bB wx w'):=fun wx e=>dA u v xs ys wx ((hu.below b1 (Nat.le_refl _)).below e (Nat.le_refl _)) ((hv.below b1 (Nat.le_refl _)).below e (Nat.le_refl _)) gx gy
 have C2:Hid (∀wx,bB w1 wx->Calls Tryz.prog 52 #[HV q h] wx fun e w'=>∃u,e=.returned (HV u h)/\Own w' wx.heap.size u h.ks/\bB wx w'):=fun wx e=>oW q h wx ((hq.below b1 (Nat.le_refl _)).below e (Nat.le_refl _)) gk
 obtain⟨uo,uc,rfl⟩:=aa hu;obtain⟨vo,vc,rfl⟩:=aa hv;obtain⟨qo,qc,rfl⟩:=aa hq;clear b1 hu hv hq gx gy gk;have q0:∀w',Sp (w.heap.size+1) w1 w'->w'.cell? ⟨w.heap.size,0,none⟩=some (.slice uo xs.length uc):=fun w' b=>b _ _ (by simp) (S1.out.1.cell 0 rfl)
 have q1:∀w',Sp (w.heap.size+1) w1 w'->w'.cell? ⟨w.heap.size,1,none⟩=some (.slice vo ys.length vc):=fun w' b=>b _ _ (by simp) (S1.out.1.cell 1 rfl)
 have q2:∀w',Sp (w.heap.size+1) w1 w'->w'.cell? ⟨w.heap.size,2,none⟩=some (.slice qo h.ks.length qc):=fun w' b=>b _ _ (by simp) (S1.out.1.cell 2 rfl)
 have q3:∀w',Sp (w.heap.size+1) w1 w'->w'.cell? ⟨w.heap.size,3,none⟩=some (.int .i64 h.kd):=fun w' b=>b _ _ (by simp) (S1.out.1.cell 3 rfl)
 have q4:∀w',Sp (w.heap.size+1) w1 w'->w'.cell? ⟨w.heap.size,4,none⟩=some (.int .i64 h.ho):=fun w' b=>b _ _ (by simp) (S1.out.1.cell 4 rfl)
 have q5:∀w',Sp (w.heap.size+1) w1 w'->w'.cell? ⟨w.heap.size,5,none⟩=some (.int .i64 h.tu):=fun w' b=>b _ _ (by simp) (S1.out.1.cell 5 rfl)
 unfold SRV;conv in srA=>unfold srA
 unfold HV hdA at C2;unfold srA zeR at hw1;go_enter Tryz.func97,Tryz.ntmps97;go_upto_region 1 with fail
 rw[<-hw1];clear hw1
 go_region_held3 (fun w'=>Sp (w.heap.size+1) w1 w') ((repeat'(first|with_reducible assumption|with_reducible exact Sp.refl _ _|with_reducible refine Sp.al ?_|with_reducible refine Sp.dr ?_|with_reducible refine Sp.set ?_|with_reducible refine Sp.put ?_ (by with_reducible assumption)|with_reducible refine Sp.bel ?_ (by with_reducible assumption))))
  (first
   |(go_at_call 51;refine(C1.out _ cB).mono ?_;rintro e w3 ⟨a,b,rfl,o3,b3⟩;obtain⟨ao,ac,rfl⟩:=o3.1.reads.form;obtain⟨bo,bc,rfl⟩:=o3.2.1.reads.form;have O3:Hid (aS w3 _ (.slice ao xs.length ac) (.slice bo ys.length bc) xs ys):=o3;clear o3)
   |(go_at_call 52;refine(C2.out _ cB).mono ?_;rintro e w4 ⟨z,rfl,o4,b4⟩;have hap:Hid (apart (.slice ao xs.length ac) z/\apart (.slice bo ys.length bc) z):=⟨dt O3.out.1 o4 (dl cB),dt O3.out.2.1 o4 (dl cB)⟩;obtain⟨zo,zc,rfl⟩:=o4.reads.form;have B4:Hid (bB w1 w4):=(show bB w1 w4 from cB);have O4:Hid (aY w4 (w.heap.size+2) (.slice ao xs.length ac) (.slice bo ys.length bc) (.slice zo h.ks.length zc) xs ys h.ks):=⟨⟨(O3.out.1.mono (Nat.le_trans S1.out.2.2.2 (dl cB))).below cB,(O3.out.2.1.mono (Nat.le_trans S1.out.2.2.2 (dl cB))).below cB,O3.out.2.2⟩,o4.mono (Nat.le_trans S1.out.2.2.2 (dl cB)),hap.out⟩;have R4:=S1.out.2.1.below B4.out;have r0:w4.cell? ⟨w.heap.size+1,0,none⟩=some (.slice none 0 0):=R4.cell 0 rfl;have r1:w4.cell? ⟨w.heap.size+1,1,none⟩=some (.slice none 0 0):=R4.cell 1 rfl;have r2:w4.cell? ⟨w.heap.size+1,2,none⟩=some (.slice none 0 0):=R4.cell 2 rfl;have r3:w4.cell? ⟨w.heap.size+1,3,none⟩=some (.int .i64 0):=R4.cell 3 rfl;have r4:w4.cell? ⟨w.heap.size+1,4,none⟩=some (.int .i64 0):=R4.cell 4 rfl;have r5:w4.cell? ⟨w.heap.size+1,5,none⟩=some (.int .i64 0):=R4.cell 5 rfl;have f0:=R4.frozen 0;have f1:=R4.frozen 1;have f2:=R4.frozen 2;have f3:=R4.frozen 3;have f4:=R4.frozen 4;have f5:=R4.frozen 5;clear o4))
 all_goals
  go_wp2;have R4:StB w4 (w.heap.size+1) 96 _:=S1.out.2.1.below B4.out;have G6:=fK w4 (w.heap.size+1) (.slice ao xs.length ac) (.slice bo ys.length bc) (.slice zo h.ks.length zc) h;refine bodyPost_ret (aj Tryz.isR rfl _ _ (w.heap.size+1) (srA (.slice ao xs.length ac) (.slice bo ys.length bc) (.slice zo h.ks.length zc) h) rfl rfl (jD (.slice ao xs.length ac) (.slice bo ys.length bc) (.slice zo h.ks.length zc) h R4)) rfl ?_;have B5:=S1.out.2.2.1.trans (B4.out.mono S1.out.2.2.1.size);exact⟨_,_,_,rfl,(O4.out.keptLt G6 (by omega)).mono (by omega),B5.grown G6 B5.size (fun k e=>by cases e;omega)⟩
structure Dp (w wx:World) (u v q:Value) (h:Hd):Prop where
 st:StB wx w.heap.size 96 (srA u v q h)
 rs:StB wx (w.heap.size+1) 96 zeR
 bl:bB w wx
 sz:w.heap.size+2<=wx.heap.size
theorem Dp.next {w wx wy:World} {u v q:Value} {h:Hd} (d:Dp w wx u v q h) (b:bB wx wy):Dp w wy u v q h:=
 ⟨d.st.below b,d.rs.below b,d.bl.trans (b.mono d.bl.size),Nat.le_trans d.sz b.size⟩
theorem Dp.grown {w wx wy:World} {u v q:Value} {h:Hd} {g:Nat} (d:Dp w wx u v q h) (b:wx.grownBy wy (some g)) (hg:w.heap.size+2<=g):Dp w wy u v q h:=
 ⟨d.st.kept b (by simp;omega),d.rs.kept b (by simp;omega),d.bl.grown b d.bl.size (fun k e=>by cases e;omega),Nat.le_trans d.sz b.size⟩
theorem eS (u v q:Value) (xs ys:List Int) (h:Hd) (w:World) (hu:ag w u xs) (hv:ag w v ys) (hq:ag w q h.ks) (hx1:1<=xs.length) (hy1:1<=ys.length) (hk1:1<=h.ks.length) (gx:xs.length<=1099511627776) (gy:ys.length<=1099511627776) (gk:h.ks.length<=1099511627776):
  Calls Tryz.prog 72 #[SRV u v q h] w fun e w'=>∃a b k,e=.returned (SRV a b k h)/\aY w' w.heap.size a b k xs ys h.ks/\bB w w':=by
 obtain⟨w1,hw1⟩:=eX ((w.alloc (.cells (srA u v q h) 96)).alloc (.cells zeR 96))
 have b1:bB w w1:=by rw[hw1];exactbA.alloc (by simp) _
 have S1:Hid (StB w1 w.heap.size 96 (srA u v q h)/\StB w1 (w.heap.size+1) 96 zeR/\bB w w1/\w.heap.size+2<=w1.heap.size):=by
  have a2:=StB.new (w.alloc (.cells (srA u v q h) 96)) 96 zeR;simp only[World.size_alloc]at a2;exact⟨by rw[hw1];exact(StB.new w _ _).alloc _,by rw[hw1];exact a2,b1,by rw[hw1];simp⟩
 have C1:Hid (∀wx,bB w1 wx->Calls Tryz.prog 111 #[.agg #[u,v]] wx fun e w'=>∃a b,e=.returned (.agg #[a,b])/\aS w' wx.heap.size a b xs ys/\bB wx w'):=fun wx e=>dJ u v xs ys wx ((hu.below b1 (Nat.le_refl _)).below e (Nat.le_refl _)) ((hv.below b1 (Nat.le_refl _)).below e (Nat.le_refl _)) hx1 hy1 gx gy
 have C2:Hid (∀wx,bB w1 wx->Calls Tryz.prog 112 #[HV q h] wx fun e w'=>∃u,e=.returned (HV u h)/\Own w' wx.heap.size u h.ks/\bB wx w'):=fun wx e=>mP q h wx ((hq.below b1 (Nat.le_refl _)).below e (Nat.le_refl _)) hk1 gk
 obtain⟨uo,uc,rfl⟩:=aa hu;obtain⟨vo,vc,rfl⟩:=aa hv;obtain⟨qo,qc,rfl⟩:=aa hq;clear b1 hu hv hq gx gy gk hx1 hy1 hk1;have q0:∀w',Sp (w.heap.size+1) w1 w'->w'.cell? ⟨w.heap.size,0,none⟩=some (.slice uo xs.length uc):=fun w' b=>b _ _ (by simp) (S1.out.1.cell 0 rfl)
 have q1:∀w',Sp (w.heap.size+1) w1 w'->w'.cell? ⟨w.heap.size,1,none⟩=some (.slice vo ys.length vc):=fun w' b=>b _ _ (by simp) (S1.out.1.cell 1 rfl)
 have q2:∀w',Sp (w.heap.size+1) w1 w'->w'.cell? ⟨w.heap.size,2,none⟩=some (.slice qo h.ks.length qc):=fun w' b=>b _ _ (by simp) (S1.out.1.cell 2 rfl)
 have q3:∀w',Sp (w.heap.size+1) w1 w'->w'.cell? ⟨w.heap.size,3,none⟩=some (.int .i64 h.kd):=fun w' b=>b _ _ (by simp) (S1.out.1.cell 3 rfl)
 have q4:∀w',Sp (w.heap.size+1) w1 w'->w'.cell? ⟨w.heap.size,4,none⟩=some (.int .i64 h.ho):=fun w' b=>b _ _ (by simp) (S1.out.1.cell 4 rfl)
 have q5:∀w',Sp (w.heap.size+1) w1 w'->w'.cell? ⟨w.heap.size,5,none⟩=some (.int .i64 h.tu):=fun w' b=>b _ _ (by simp) (S1.out.1.cell 5 rfl)
 unfold SRV;conv in srA=>unfold srA
 unfold HV hdA at C2;unfold srA zeR at hw1;go_enter Tryz.func72,Tryz.ntmps72;go_upto_region 1 with fail
 rw[<-hw1];clear hw1
 go_region_held3 (fun w'=>Sp (w.heap.size+1) w1 w') ((repeat'(first|with_reducible assumption|with_reducible exact Sp.refl _ _|with_reducible refine Sp.al ?_|with_reducible refine Sp.dr ?_|with_reducible refine Sp.set ?_|with_reducible refine Sp.put ?_ (by with_reducible assumption)|with_reducible refine Sp.bel ?_ (by with_reducible assumption))))
  (first
   |(go_at_call 111;refine(C1.out _ cB).mono ?_;rintro e w3 ⟨a,b,rfl,o3,b3⟩;obtain⟨ao,ac,rfl⟩:=o3.1.reads.form;obtain⟨bo,bc,rfl⟩:=o3.2.1.reads.form;have O3:Hid (aS w3 _ (.slice ao xs.length ac) (.slice bo ys.length bc) xs ys):=o3;clear o3)
   |(go_at_call 112;refine(C2.out _ cB).mono ?_;rintro e w4 ⟨z,rfl,o4,b4⟩;have hap:Hid (apart (.slice ao xs.length ac) z/\apart (.slice bo ys.length bc) z):=⟨dt O3.out.1 o4 (dl cB),dt O3.out.2.1 o4 (dl cB)⟩;obtain⟨zo,zc,rfl⟩:=o4.reads.form;have B4:Hid (bB w1 w4):=(show bB w1 w4 from cB);have O4:Hid (aY w4 (w.heap.size+2) (.slice ao xs.length ac) (.slice bo ys.length bc) (.slice zo h.ks.length zc) xs ys h.ks):=⟨⟨(O3.out.1.mono (Nat.le_trans S1.out.2.2.2 (dl cB))).below cB,(O3.out.2.1.mono (Nat.le_trans S1.out.2.2.2 (dl cB))).below cB,O3.out.2.2⟩,o4.mono (Nat.le_trans S1.out.2.2.2 (dl cB)),hap.out⟩;have R4:=S1.out.2.1.below B4.out;have r0:w4.cell? ⟨w.heap.size+1,0,none⟩=some (.slice none 0 0):=R4.cell 0 rfl;have r1:w4.cell? ⟨w.heap.size+1,1,none⟩=some (.slice none 0 0):=R4.cell 1 rfl;have r2:w4.cell? ⟨w.heap.size+1,2,none⟩=some (.slice none 0 0):=R4.cell 2 rfl;have r3:w4.cell? ⟨w.heap.size+1,3,none⟩=some (.int .i64 0):=R4.cell 3 rfl;have r4:w4.cell? ⟨w.heap.size+1,4,none⟩=some (.int .i64 0):=R4.cell 4 rfl;have r5:w4.cell? ⟨w.heap.size+1,5,none⟩=some (.int .i64 0):=R4.cell 5 rfl;have f0:=R4.frozen 0;have f1:=R4.frozen 1;have f2:=R4.frozen 2;have f3:=R4.frozen 3;have f4:=R4.frozen 4;have f5:=R4.frozen 5;clear o4))
 all_goals
  go_wp2;have R4:StB w4 (w.heap.size+1) 96 _:=S1.out.2.1.below B4.out;have G6:=fK w4 (w.heap.size+1) (.slice ao xs.length ac) (.slice bo ys.length bc) (.slice zo h.ks.length zc) h;refine bodyPost_ret (aj Tryz.isR rfl _ _ (w.heap.size+1) (srA (.slice ao xs.length ac) (.slice bo ys.length bc) (.slice zo h.ks.length zc) h) rfl rfl (jD (.slice ao xs.length ac) (.slice bo ys.length bc) (.slice zo h.ks.length zc) h R4)) rfl ?_;have B5:=S1.out.2.2.1.trans (B4.out.mono S1.out.2.2.1.size);exact⟨_,_,_,rfl,(O4.out.keptLt G6 (by omega)).mono (by omega),B5.grown G6 B5.size (fun k e=>by cases e;omega)⟩
theorem mF (v:Value) (c:Cp) (w:World) (hr:ag w v c.ts) (hl:c.ts.length<=1099511627776):
  Calls Tryz.prog 74 #[CpV v c] w fun e w'=>∃u,e=.returned (CpV u c)/\bO w' w.heap.size u c.ts/\bB w w':=by
 obtain⟨w1,hw1⟩:=eX ((w.alloc (.cells (cpA v c) 39)).alloc (.cells cQ 39))
 have p0:StB w1 w.heap.size 39 (cpA v c):=by rw[hw1];exact(StB.new w _ _).alloc _
 have q0:StB w1 (w.heap.size+1) 39 cQ:=by
  rw[hw1];have:=StB.new (w.alloc (.cells (cpA v c) 39)) 39 cQ
  rwa[World.size_alloc]at this
 have b1:bB w w1:=by rw[hw1];exactbA.alloc (by simp) _
 have c1:=om v c.ts w1 (hr.below b1 (Nat.le_refl _)) hl;have hs1:=q0.lt;obtain⟨ao,cap,rfl⟩:=aa hr;have HW:Hid (w1=(w.alloc (.cells #[.int .i64 c.tr,.bool c.op,.int .i64 c.di,.int .i64 c.wa,.slice ao c.ts.length cap] 39)).alloc (.cells #[.int .i64 0,.bool false,.int .i64 0,.int .i64 0,.slice none 0 0] 39)):=hw1;have k4:w1.cell? ⟨w.heap.size,4,none⟩=some (.slice ao c.ts.length cap):=p0.cell 4 rfl;clear hw1 hr hl;unfold CpV cpA;go_enter Tryz.func74,Tryz.ntmps74;go_wp2_with fail
 rw[<-HW.out];clear HW;refine c1.mono ?_;rintro e w3 ⟨u,rfl,o3,b3⟩;replace p0:=p0.below b3;replace q0:=q0.below b3;have B3:=b1.trans (b3.mono b1.size);obtain⟨ab,cb,rfl⟩:=aa o3.reads;have k0:w3.cell? ⟨w.heap.size,4,none⟩=some (.slice ao c.ts.length cap):=p0.cell 4 rfl;have f0:=p0.frozen 4;have r4:=p0.put 4 (.slice ab c.ts.length cb) (ds:=cpA (.slice ab c.ts.length cb) c) rfl;have q4:=q0.other ⟨w.heap.size,4,none⟩ (.slice ab c.ts.length cb) (by simp);have HP:Hid (bO (w3.setCell ⟨w.heap.size,4,none⟩ (.slice ab c.ts.length cb)) w1.heap.size (.slice ab c.ts.length cb) c.ts/\bB w (w3.setCell ⟨w.heap.size,4,none⟩ (.slice ab c.ts.length cb))):=⟨o3.setLt (by omega) 4 _,B3.setCell (Nat.le_refl _) _⟩
 clear k4 p0 q0 c1 o3 b3 b1 B3;go_upto_region 2 with fail
 obtain⟨w4,hw4⟩:=eX (w3.setCell ⟨w.heap.size,4,none⟩ (.slice ab c.ts.length cb))
 rw[<-hw4]at r4 q4 HP⊢;clear hw4 k0 f0;go_wp2_with (first|(refine ah Tryz.isCp rfl _ rfl w.heap.size rfl (cpA (.slice ab c.ts.length cb) c) rfl r4 ?_)|(refine ae Tryz.isCp rfl _ _ rfl (w.heap.size+1) (cpA (.slice ab c.ts.length cb) c) cQ rfl rfl rfl rfl (lD c rfl) q4 ?_;intro w8 s8 g8))
 refine bodyPost_ret (aj Tryz.isCp rfl _ _ (w.heap.size+1) _ rfl rfl s8) rfl ?_;exact⟨_,rfl,(HP.out.1.keptLt g8 (by omega)).mono (by omega),HP.out.2.grown g8 HP.out.2.size (fun k e=>by cases e;omega)⟩
end Go.Proofs.YthldeiojlllkdaaGreatDoor
