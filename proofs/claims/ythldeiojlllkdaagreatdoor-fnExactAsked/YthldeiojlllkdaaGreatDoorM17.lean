/- The program's Written, Flushed and Lost. -/
import Derived.Test.YthldeiojlllkdaaGreatDoorM16
set_option maxRecDepth 20000
set_option maxHeartbeats 8000000
namespace Go.Proofs.YthldeiojlllkdaaGreatDoor
open Go.ChangeShapes Go.WideShapes Go.ChangeAt Go.RowKit
theorem yT (w:World) (ty:TypeId) (u v:Value) (xs ys:List Int) (base:Nat) (ou:Own w base u xs) (rv:ag w v ys) (hl:ys.length=xs.length) (h1:1<=xs.length):
  ∃w',(Builtin.copy_ #[22,22] ty #[u,v]).run Tryz.prog w=.ok (goInt xs.length) w'/\Own w' base u ys/\w.grownBy w' u.ownBlock:=by
 rcases ou.2 with⟨_,h0⟩|⟨g,cap,cur,rfl,hb,hg,hnc,hcm,hcs,ht⟩
 ·omega
 ·obtain⟨ao,c2,rfl,_,_,hc⟩:=rv
  rcases hc with e|⟨b,off,rfl,hcell⟩
  ·subst e;simp at hl;omega
  ·have hsz:(Tryz.prog.info? 2).map (·.size)=some 1:=by
    obtain⟨i0,hi,hz0,hz1,hz2⟩:=info_parts Gz;simp[hi,hz1]
   have hsrc:∀j z,(ys.map (Value.int .i64))[j]?=some z->w.cell? ((⟨b,off,none⟩:Addr).add j)=some z:=by
    intro j z hj;have hlt:j<ys.length:=by
     rcases Nat.lt_or_ge j ys.length with h|h
     ·exact h
     ·rw[List.getElem?_eq_none (by simpa using h)]at hj;cases hj
    rw[show(⟨b,off,none⟩:Addr).add j=⟨b,off+j,none⟩ by unfold Addr.add;split<;>simp_all];rw[hcell j hlt];simp[List.getD,hlt]at hj⊢;exact hj
   have hone:∀z∈ys.map (Value.int .i64),z.oneCell'=true:=by
    intro z hz;obtain⟨x,_,rfl⟩:=List.mem_map.1 hz;rfl
   have hcz:cur.size=cap:=by simpa using hcs
   have hrun:=run_copy_row (P:=Tryz.prog) w 22 22 ty 2 g 0 xs.length cap ⟨b,off,none⟩ ys.length c2 cur _ (ys.map (Value.int .i64)) Tryz.underlying22 hsz hg (by simp[hl]) hsrc (by simp;omega) hone;rw[show goInt ((ys.map (Value.int .i64)).length:Nat)=goInt (xs.length:Nat) by simp[hl]]at hrun;refine⟨_,hrun,⟨by simp,.inr ⟨g,cap,_,by rw[hl],hb,setRow_heap w g _ _ _ _ hg,by omega,hcm,?_,?_⟩⟩,?_⟩
   ·simp;omega
   ·simp[hl]
   ·exact sR w g _
theorem rP {ops:Array Oper} {rest:List Oper} {o:Oper} {a:Act} {w:World} {Q:Exit->Act->World->Prop} (hgd:o.guard=none) (d s:Operand)
  (ho:o.op=.call {callee:=.builtin .copy,args:=#[d,s],argTypes:=#[22,22]}) (u v:Value) (xs ys:List Int) (base:Nat) (hd:a.eval d=u) (hs:a.eval s=v)
  (ou:Own w base u xs) (rv:ag w v ys) (hl:ys.length=xs.length) (h1:1<=xs.length)
  (h:∀w',Own w' base u ys->w.grownBy w' u.ownBlock->wpList Tryz.prog ops Q rest (a.put o.dst (goInt xs.length)) w'):wpList Tryz.prog ops Q (o::rest) a w:=by
 refine wpList_plain hgd fun K hK=>?_
 obtain⟨w',hrun,h2,h3⟩:=yT w o.type u v xs ys base ou rv hl h1;unfold Oper.wp;simp[execOp,ho,resolve,invoke,builtin,hd,hs,hrun,Result.andThen];exact hK _ _ (h w' h2 h3)
theorem tA (u v:Value) (xs ys:List Int) (i x:Int) (w:World) (h:ag w u xs) (h':ag w v ys) (gx:xs.length<=1099511627776) (gy:ys.length<=1099511627776):
  Calls Tryz.prog 265 #[.agg #[u,v],.int .i64 i,.int .i64 x] w fun e w'=>∃a b,e=.returned (.tuple #[.agg #[a,b],.bool (wrB xs ys i x)])/\aV w' w.heap.size a b (wrK xs ys) (wrN xs ys i x)/\iO w w':=by
 obtain⟨w2,hw2⟩:=Fe ((w.alloc (.cells #[u,v] 36)).alloc (.cells #[.slice none 0 0,.slice none 0 0] 36))
 have HB:Hid (cN w w2 u v):=by rw[hw2];exact cN.start w u v
 have b2:=HB.out.2.2.1;have c1:=iG u v xs ys w2 (h.below b2 (Nat.le_refl _)) (h'.below b2 (Nat.le_refl _)) gx gy;by_cases hb:au xs ys=true
 ·have e1:wrB xs ys i x=fy ys i x:=by simp[wrB,hb]
  have e2:wrK xs ys=xs:=by simp[wrK,hb]
  have e3:wrN xs ys i x=eV ys i x:=by simp[wrN,hb]
  rw[e1,e2,e3];have hx1:=(bE (eH hb).1).1;have c2:∀w',iO w w'->_:=fun w' b=>Cn v ys i x w' (h'.below b (Nat.le_refl _)) gy
  have c3:∀w',iO w w'->_:=fun w' b=>jt u xs w' (h.below b (Nat.le_refl _)) hx1 gx
  obtain⟨zs,hz⟩:=Fe (eV ys i x)
  obtain⟨pb,hpb⟩:=Fe (fy ys i x)
  simp only[<-hz,<-hpb]at c2⊢;rw[hb]at c1;clear hb e1 e2 e3 hz hpb h h' b2 hx1;go_enter Tryz.func265,Tryz.ntmps265;go_wp2_with fail
  rw[<-hw2];clear hw2;refine c1.mono ?_;rintro e w3 ⟨rfl,b3⟩;replace HB:Hid (cN w w3 u v):=HB.out.below b3;have q0:=HB.out.1.cell0;have q1:=HB.out.1.cell1;clear b3 c1;go_wp2_with fail
  refine(c2 _ HB.out.2.2.1).mono ?_;rintro e w4 ⟨b,rfl,o4,b4⟩;have HS:Hid (w.heap.size+2<=w3.heap.size/\w3.heap.size<=w4.heap.size):=⟨HB.out.2.2.2,b4.size⟩
  replace HB:Hid (cN w w4 u v):=HB.out.below b4;replace q0:=HB.out.1.cell0;clear b4 c2 q1;go_wp2_with fail
  refine(c3 _ HB.out.2.2.1).mono ?_;rintro e w5 ⟨a,rfl,o5,b5⟩;have hap:=dt o4 o5 (Nat.le_refl _);replace o4:=o4.below b5;replace HB:Hid (cN w w5 u v):=HB.out.below b5;have p5:=HB.out.2.1;obtain⟨ao,ca,hea⟩:=o5.reads.form;obtain⟨bo,cb,heb⟩:=o4.reads.form;subst hea heb;have HO:Hid (Own w5 w4.heap.size _ xs/\Own w5 w3.heap.size _ zs/\apart _ _):=⟨o5,o4,hap.symm⟩
  clear b5 o4 o5 hap c3 q0;go_wp2_with (refine eZ rfl _ _ rfl (w.heap.size+1) _ _ _ _ rfl rfl rfl rfl p5 ?_;intro w6 p6 g6)
  refine bodyPost_ret (jM rfl _ _ (w.heap.size+1) _ _ _ rfl rfl p6) rfl ?_;exact⟨_,_,rfl,HB.out.done g6 HO.out.1 HO.out.2.1 (Nat.le_trans HS.out.1 HS.out.2) HS.out.1 HO.out.2.2⟩
 ·have hb':au xs ys=false:=by simpa using hb
  have e1:wrB xs ys i x=false:=by simp[wrB,hb']
  have e2:wrK xs ys=[]:=by simp[wrK,hb']
  have e3:wrN xs ys i x=[]:=by simp[wrN,hb']
  rw[e1,e2,e3];rw[hb']at c1;clear hb hb' b2 e1 e2 e3 h h';go_enter Tryz.func265,Tryz.ntmps265;go_wp2_with fail
  rw[<-hw2];clear hw2;refine c1.mono ?_;rintro e w3 ⟨rfl,b3⟩;replace HB:Hid (cN w w3 u v):=HB.out.below b3;have p3:=HB.out.2.1;clear b3 c1;go_wp2_with (refine eZ rfl _ _ rfl (w.heap.size+1) _ _ _ _ rfl rfl rfl rfl p3 ?_;intro w5 p5 g5)
  refine bodyPost_ret (jM rfl _ _ (w.heap.size+1) _ _ _ rfl rfl p5) rfl ?_;exact⟨_,_,rfl,sw _ _,HB.out.2.2.1.grown g5 HB.out.2.2.1.size (fun k e=>by cases e;omega)⟩
theorem tB (u v:Value) (xs ys:List Int) (w:World) (h:ag w u xs) (h':ag w v ys) (gx:xs.length<=1099511627776) (gy:ys.length<=1099511627776):
  Calls Tryz.prog 255 #[.agg #[u,v]] w fun e w'=>∃a b,e=.returned (.agg #[a,b])/\aV w' w.heap.size a b (flN xs ys) (flN xs ys)/\iO w w':=by
 obtain⟨w2,hw2⟩:=Fe ((w.alloc (.cells #[u,v] 36)).alloc (.cells #[.slice none 0 0,.slice none 0 0] 36))
 have HB:Hid (cN w w2 u v):=by rw[hw2];exact cN.start w u v
 have b2:=HB.out.2.2.1;have c1:=iG u v xs ys w2 (h.below b2 (Nat.le_refl _)) (h'.below b2 (Nat.le_refl _)) gx gy;by_cases hb:au xs ys=true
 ·have HD:Hid (flN xs ys=ys):=by simp[Hid,flN,hb]
  obtain⟨k1,k2,k3⟩:=eH hb;have hx1:=(bE k1).1;have hy1:=(bE k2).1;have c3:∀w',iO w w'->_:=fun w' b=>dJ u v xs ys w' (h.below b (Nat.le_refl _)) (h'.below b (Nat.le_refl _)) hx1 hy1 gx gy
  rw[hb]at c1;have HL:Hid (ys.length=xs.length/\1<=xs.length):=⟨k3.symm,hx1⟩
  clear b2 hb k1 k2 k3 hx1 hy1 h h';go_enter Tryz.func255,Tryz.ntmps255;go_wp2_with fail
  rw[<-hw2];clear hw2;refine c1.mono ?_;rintro e w3 ⟨rfl,b3⟩;replace HB:Hid (cN w w3 u v):=HB.out.below b3;have p3:=HB.out.1;clear b3 c1;go_wp2_with (refine iY rfl _ rfl w.heap.size rfl _ _ p3 ?_)
  refine(c3 _ HB.out.2.2.1).mono ?_;rintro e w4 ⟨a,b,rfl,o4,b4⟩;have HS:Hid (w.heap.size+2<=w3.heap.size):=HB.out.2.2.2;have hs4:=Nat.le_trans HS.out b4.size;replace HB:Hid (cN w w4 u v):=HB.out.below b4;have ha1:=o4.1.reads.one;have hb1:=o4.2.1.reads.one;obtain⟨g,ca,hea,hgl⟩:=World.ownsRow.form o4.1 (by have:=HL.out.2;omega);obtain⟨hg1,hg2⟩:=o4.1.ltBlock hea;have HO:Hid (aV w4 w3.heap.size a b xs ys):=o4;have hab:a.ownBlock=some g:=by rw[hea];rfl
  have HG:Hid (a.ownBlock=some g/\w3.heap.size<=g/\g<w4.heap.size):=⟨hab,hg1,hg2⟩
  clear b4 o4 p3 c3 hgl hea hab hg1 hg2;go_wp2_with (first
   |(refine eZ rfl _ _ rfl w4.heap.size _ _ _ _ rfl rfl ha1 hb1 (cL.new w4 _ _ _) ?_;intro w5 p5 g5;have hg5:w4.grownBy w5 (some w4.heap.size):=(mu w4 _ _).trans g5;have HB5:Hid (cN w w5 u v/\aV w5 w3.heap.size a b xs ys):=⟨HB.out.kept hg5 hs4,HO.out.1.keptNew hg5,HO.out.2.1.keptNew hg5,HO.out.2.2⟩;have e0:=p5.cell0;have e1:=p5.cell1;clear g5 hg5)
   |(refine rP rfl _ _ rfl a b xs ys w3.heap.size rfl rfl HB5.out.2.1 HB5.out.2.2.1.reads HL.out.1 HL.out.2 ?_;intro w6 o6 g6;rw[HG.out.1]at g6;have HB6:Hid (cN w w6 u v/\aV w6 w3.heap.size a b ys ys):=⟨HB5.out.1.kept g6 (by have:=HG.out;have:=HS.out;omega),o6,HB5.out.2.2.1.kept g6 (by have:=HB5.out.2.2.2.2;rw[HG.out.1]at this;exact this),HB5.out.2.2.2⟩;have p6:=p5.kept g6 (by have:=HG.out;simp;omega);have p7:=HB6.out.1.2.1;clear g6 o6)
   |(refine iY rfl _ rfl w4.heap.size rfl _ _ p6 ?_)
   |(refine eZ rfl _ _ rfl (w.heap.size+1) _ _ _ _ rfl rfl ha1 hb1 p7 ?_;intro w7 p8 g8))
  refine bodyPost_ret (eJ rfl _ _ (w.heap.size+1) _ _ rfl p8) rfl ?_;rw[HD.out];exact⟨_,_,rfl,HB6.out.1.done g8 HB6.out.2.1 HB6.out.2.2.1 HS.out HS.out HB6.out.2.2.2⟩
 ·have hb':au xs ys=false:=by simpa using hb
  have HD:Hid (flN xs ys=[]):=by simp[Hid,flN,hb']
  rw[hb']at c1;clear b2 hb hb' h h';go_enter Tryz.func255,Tryz.ntmps255;go_wp2_with fail
  rw[<-hw2];clear hw2;refine c1.mono ?_;rintro e w3 ⟨rfl,b3⟩;replace HB:Hid (cN w w3 u v):=HB.out.below b3;have p3:=HB.out.2.1;clear b3 c1;go_wp2_with (refine eZ rfl _ _ rfl (w.heap.size+1) _ _ _ _ rfl rfl rfl rfl p3 ?_;intro w5 p5 g5)
  refine bodyPost_ret (eJ rfl _ _ (w.heap.size+1) _ _ rfl p5) rfl ?_;rw[HD.out];exact⟨_,_,rfl,sw _ _,HB.out.2.2.1.grown g5 HB.out.2.2.1.size (fun k e=>by cases e;omega)⟩
theorem cL.drew {w:World} {g:Nat} {t:TypeId} {u v:Value} (h:cL w g t u v):cL w.drew g t u v:=h
theorem aV.drew {w:World} {base:Nat} {u v:Value} {xs ys:List Int} (h:aV w base u v xs ys):aV w.drew base u v xs ys:=h
theorem aV.below {w w':World} {base:Nat} {u v:Value} {xs ys:List Int} (h:aV w base u v xs ys) (b:iO w w'):aV w' base u v xs ys:=⟨h.1.below b,h.2.1.below b,h.2.2⟩
def Mid (w wx:World) (u v:Value) (h base:Nat) (a b:Value) (xs ys:List Int):Prop:=cN w wx u v/\cL wx h 36 a b/\aV wx base a b xs ys
theorem Mid.below {w wx wy:World} {u v a b:Value} {h base:Nat} {xs ys:List Int} (m:Mid w wx u v h base a b xs ys) (k:iO wx wy):Mid w wy u v h base a b xs ys:=
 ⟨m.1.below k,m.2.1.below k,m.2.2.below k⟩
theorem Mid.drew {w wx:World} {u v a b:Value} {h base:Nat} {xs ys:List Int} (m:Mid w wx u v h base a b xs ys):Mid w wx.drew u v h base a b xs ys:=⟨m.1.drew,m.2.1,m.2.2⟩
theorem qk {h:Hd} (hk:h.ok=true) (i:Int):d9 (KF h.ks) h.kd h.ho i=(inI i 0 3&&h.holds i):=by
 have hm:h.mid=true:=by
  unfold Hd.ok at hk;simp only[Bool.and_eq_true]at hk;exact hk.2
 unfold d9 Hd.holds;rw[show decide (KF h.ks i.toNat≠0)=dT h.ks i from rfl];unfold Hd.mid at hm;cases hin:inI i 0 3
 ·simp
 ·have hi:0<=i/\i<=3:=by simpa[inI]using hin
  simp only[Bool.true_and];by_cases h0:h.kd=0
  ·rw[if_pos h0]at hm
   have ho:h.ho= -1:=by simpa using hm
   rw[h0,ho];simp[show bY 0=false from rfl];intro _;omega
  ·rw[if_neg h0]at hm
   cases ha:bY h.kd
   ·rw[ha]at hm
    simp only[Bool.false_eq_true,if_false,Bool.and_eq_true]at hm;by_cases he:i=h.ho
    ·subst he
     simp[h0,hm.2]
    ·simp[he,Ne.symm he]
   ·rw[ha]at hm
    simp only[if_true,Bool.and_eq_true,decide_eq_true_eq]at hm;have:h.ho≠i:=by omega
    simp[h0,this]
theorem x9 {w:World} {g:Nat} {f:Nat->Int} {kd ho tu:Int} {w':World} {B:Nat} (h:Hid (StB w g 165 (heA f kd ho tu))) (hb:Below B w w') (e:B=w.heap.size):Hid (StB w' g 165 (heA f kd ho tu)):=by subst e;exact h.out.below hb
theorem nB {w w3 w4:World} (h:Hid (iO w w3)) (b:iO w3 w4):Hid (iO w w4):=h.out.trans (b.mono h.out.size)
theorem tH (v:Value) (h:Hd) (i:Int) (b:Bool) (w:World) (hr:ag w v h.ks) (hl:h.ks.length<=1099511627776):
  Calls Tryz.prog 194 #[HV v h,.int .i64 i,.bool b] w fun e w'=>e=.returned (.bool (h.May i b))/\iO w w':=by
 have b1:iO w (w.alloc (.cells (hdA v h) 37)):=Fc;have c1:=fU v h _ (hr.below b1 (Nat.le_refl _)) hl;obtain⟨ao,cap,rfl⟩:=aa hr;obtain⟨f,x,y,z,hf,hfo⟩:=gF h;have c2:=fun wx=>gE f x y z i wx
 have c3:=fun wx=>ju f i wx
 have c4:=fun wx=>cQ i wx
 have c5:=fun wx=>A6 x b (d9 f x y i) (inI i 0 3&&decide (f i.toNat≠0)) wx
 have HE:Hid (h.May i b=(h.ok&&(inI i 0 3&&kC x b (d9 f x y i) (inI i 0 3&&decide (f i.toNat≠0))))):=by
  unfold Hd.May;rw[Hid];cases hk:h.ok
  ·simp
  ·rw[(hfo hk).1,(hfo hk).2.1,(hfo hk).2.2.1,qk hk]
   cases inI i 0 3
   ·simp
   ·rfl
 obtain⟨ok,hok⟩:=Fe h.ok
 obtain⟨r,hr'⟩:=Fe (h.May i b)
 rw[<-hok]at c1 HE;rw[<-hr']at HE⊢;rw[hf]at c1;obtain⟨q1,hq1⟩:=Fe (d9 f x y i)
 obtain⟨q2,hq2⟩:=Fe ((inI i 0 3&&decide (f i.toNat≠0)))
 simp only[<-hq1,<-hq2]at c2 c3 c5 HE;obtain⟨q3,hq3⟩:=Fe (kC x b q1 q2)
 obtain⟨q4,hq4⟩:=Fe (inI i 0 3)
 simp only[<-hq3,<-hq4]at c5 c4 HE;clear hok hf hfo hr hl hr' hq1 hq2 hq3 hq4;unfold HV hdA at*;go_enter Tryz.func194,Tryz.ntmps194;go_wp2_with fail
 refine c1.mono ?_;rintro e w2 ⟨rfl,b2⟩;have HB2:Hid (iO w w2):=b1.trans (b2.mono b1.size);have z2:Hid (StB (w2.alloc (.cells (heA (fun _=>0) 0 0 0) 165)) w2.heap.size 165 (heA (fun _=>0) 0 0 0)):=StB.new _ _ _;clear c1 b1 b2;go_upto_region 2 with(first|(refine ae GK rfl _ _ rfl w2.heap.size (heA f x y z) _ rfl rfl rfl rfl (bO _ _ _ _) z2.out ?_;intro w3 h3 g3))
 have HB3:Hid (iO w w3):=HB2.out.trans ((Fc |>.grown g3 Fg (fun k e=>by cases e;exact Nat.le_refl _)).mono HB2.out.size);have H3:Hid (StB w3 w2.heap.size 165 (heA f x y z)):=h3;obtain⟨m0,m1,m2,m3,m4,m5,m6⟩:=aY h3;obtain⟨g,hg⟩:=Fe w2.heap.size
 rw[<-hg]at m0 m1 m2 m3 m4 m5 m6 H3⊢;clear HB2 z2 g3 h3 hg;unfold heA at c2;unfold kA at c3;cases ok with
 |false=>
  clear c2 c3 c4 c5
  go_quiet (fail)
  go_wp2;go_ret;exact⟨af (by rw[HE.out];simp),below_drewN HB3.out _⟩
 |true=>
  cases q4 with
  |false=>
   clear c2 c3 c5
   go_quiet ((go_at_call 26;exact Calls.quiet_of_same (c4 _)))
   go_wp2;go_ret;exact⟨af (by rw[HE.out];simp),below_drewN HB3.out _⟩
  |true=>
   have HD3:Hid (iO w w3.drew):=HB3.out.drew;have HH3:Hid (StB w3.drew g 165 (heA f x y z)):=H3.out;clear HB3 H3
   go_region_held3 (fun w'=>w'.cell? ⟨g,0,none⟩=some (.int .i64 (f 0))/\w'.cell? ⟨g,1,none⟩=some (.int .i64 (f 1))/\w'.cell? ⟨g,2,none⟩=some (.int .i64 (f 2))/\w'.cell? ⟨g,3,none⟩=some (.int .i64 (f 3))/\w'.cell? ⟨g,4,none⟩=some (.int .i64 x)/\w'.cell? ⟨g,5,none⟩=some (.int .i64 y)/\w'.cell? ⟨g,6,none⟩=some (.int .i64 z)) (refine⟨?_,?_,?_,?_,?_,?_,?_⟩<;>assumption)
    (first
     |(go_at_call 26;refine Fd (c4 _) ?_)
     |(go_at_call 231;refine(c2 _).mono ?_;rintro e w4 ⟨rfl,b4⟩;have HB4:=nB HD3 b4;have H4:=x9 HH3 b4 rfl;obtain⟨n0,n1,n2,n3,n4,n5,n6⟩:=aY H4.out;clear b4)
     |(go_at_call 217;refine(c3 _).mono ?_;rintro e w5 ⟨rfl,b5⟩;have HB5:=nB HB4 b5;have H5:=x9 H4 b5 rfl;obtain⟨o0,o1,o2,o3,o4,o5,o6⟩:=aY H5.out;clear b5)
     |(go_at_call 230;refine(c5 _).mono ?_;rintro e w6 ⟨rfl,b6⟩;have HB6:=nB HB5 b6;have H6:=x9 H5 b6 rfl;obtain⟨u0,u1,u2,u3,u4,u5,u6⟩:=aY H6.out;clear b6))
   go_wp2;go_ret;exact⟨af (by rw[HE.out];simp),HB6.out⟩
theorem tI (f:Nat->Int) (w:World):
  Calls Tryz.prog 285 #[.agg (kA f)] w fun e w'=>∃ao cap,e=.returned (.slice ao 4 cap)/\Own w' w.heap.size (.slice ao 4 cap) (dw f)/\iO w w':=by
 refine(vX f w).mono ?_;rintro e w' ⟨u,rfl,o,b⟩;obtain⟨ao,cap,rfl⟩:=aa o.reads;exact⟨ao,cap,rfl,o,b⟩
theorem yY {w:World} {g k:Nat} (hne:g≠k) {j:Nat} {a b c d x:Value} (h:w.cell? ⟨g,j,none⟩=some x):
  ((((w.setCell ⟨k,0,none⟩ a).setCell ⟨k,1,none⟩ b).setCell ⟨k,2,none⟩ c).setCell ⟨k,3,none⟩ d).cell? ⟨g,j,none⟩=some x:=by
 rw[World.cell?_setCell_far _ _ _ _ (Ne.symm hne),World.cell?_setCell_far _ _ _ _ (Ne.symm hne),World.cell?_setCell_far _ _ _ _ (Ne.symm hne),World.cell?_setCell_far _ _ _ _ (Ne.symm hne),h]
theorem ld (f:Nat->Int) (kd ho tu:Int) (w:World):
  Calls Tryz.prog 267 #[.agg (heA f kd ho tu)] w fun e w'=>∃u,e=.returned (HV u ⟨dw f,kd,ho,tu⟩)/\Own w' w.heap.size u (dw f)/\iO w w':=by
 obtain⟨w1,hw1⟩:=Fe ((w.alloc (.cells (heA f kd ho tu) 165)).alloc (.cells #[.slice none 0 0,.int .i64 0,.int .i64 0,.int .i64 0] 37))
 have HB:Hid (iO w w1.drew):=by rw[hw1];exact(Fc.alloc Fg _).drew
 have H1:Hid (StB w1 w.heap.size 165 (heA f kd ho tu)):=by rw[hw1];exact(StB.new _ _ _).alloc _
 have HH1:Hid (StB w1.drew w.heap.size 165 (heA f kd ho tu)):=H1.out;have R1:Hid (StB w1.drew (w.heap.size+1) 37 #[.slice none 0 0,.int .i64 0,.int .i64 0,.int .i64 0]):=by
  rw[hw1];have:=StB.new (w.alloc (.cells (heA f kd ho tu) 165)) 37 #[.slice none 0 0,.int .i64 0,.int .i64 0,.int .i64 0];rw[World.size_alloc]at this;exact this
 obtain⟨m0,m1,m2,m3,m4,m5,m6⟩:=aY H1.out;have c1:=fun wx=>tI f wx
 have hs:w.heap.size+1<w1.drew.heap.size:=R1.out.lt;clear H1;unfold heA at hw1⊢;unfold kA at c1;go_enter Tryz.func267,Tryz.ntmps267;go_upto_region 1 with fail
 rw[<-hw1];obtain⟨k,hk⟩:=Fe (w.heap.size+1)
 rw[<-hk]at R1 hs⊢;have hne:w.heap.size≠k:=by omega
 have HK:Hid (k=w.heap.size+1):=hk;obtain⟨g,hg⟩:=Fe w.heap.size
 rw[<-hg]at m0 m1 m2 m3 m4 m5 m6 HH1 hne⊢;have HG:Hid (g=w.heap.size):=hg;have HS:Hid (k<w1.drew.heap.size):=hs;obtain⟨d0,d1,d2,d3,d4,d5,d6⟩:=aY HH1.out;clear hw1 hk hg hs
 go_region_held3 (fun w'=>w'.cell? ⟨g,0,none⟩=some (.int .i64 (f 0))/\w'.cell? ⟨g,1,none⟩=some (.int .i64 (f 1))/\w'.cell? ⟨g,2,none⟩=some (.int .i64 (f 2))/\w'.cell? ⟨g,3,none⟩=some (.int .i64 (f 3))/\w'.cell? ⟨g,4,none⟩=some (.int .i64 kd)/\w'.cell? ⟨g,5,none⟩=some (.int .i64 ho)/\w'.cell? ⟨g,6,none⟩=some (.int .i64 tu)) (refine⟨?_,?_,?_,?_,?_,?_,?_⟩<;>first|with_reducible assumption|(with_reducible refine yY hne ?_;with_reducible assumption))
  (first
   |(go_at_call 285;refine(c1 _).mono ?_;rintro e w2 ⟨ao,cap,rfl,o2,b2⟩;have HB2:=nB HB b2;have H2:=x9 HH1 b2 rfl;have R2:Hid (StB w2 k 37 #[.slice none 0 0,.int .i64 0,.int .i64 0,.int .i64 0]):=R1.out.below b2;have O2:Hid (Own w2 w1.drew.heap.size (.slice ao 4 cap) (dw f)):=o2;obtain⟨n0,n1,n2,n3,n4,n5,n6⟩:=aY H2.out;clear b2 o2;have q0:w2.cell? ⟨k,0,none⟩=some (.slice none 0 0):=R2.out.cell 0 rfl;have q1:w2.cell? ⟨k,1,none⟩=some (.int .i64 0):=R2.out.cell 1 rfl;have q2:w2.cell? ⟨k,2,none⟩=some (.int .i64 0):=R2.out.cell 2 rfl;have q3:w2.cell? ⟨k,3,none⟩=some (.int .i64 0):=R2.out.cell 3 rfl;have f0:=R2.out.frozen 0;have f1:=R2.out.frozen 1;have f2:=R2.out.frozen 2;have f3:=R2.out.frozen 3))
 have SE:=(((R2.out.put 0 (.slice ao 4 cap) rfl).put 1 (.int .i64 kd) rfl).put 2 (.int .i64 ho) rfl).put 3 (.int .i64 tu) (ds:=hdA (.slice ao 4 cap) ⟨dw f,kd,ho,tu⟩) rfl;have GE:=(((ai w2 k 0 (.slice ao 4 cap)).trans (ai _ k 1 (.int .i64 kd))).trans (ai _ k 2 (.int .i64 ho))).trans (ai _ k 3 (.int .i64 tu));have HF:Hid (_/\_):=⟨SE,GE⟩
 clear SE GE H2 R2 n0 n1 n2 n3 n4 n5 n6 q0 q1 q2 q3 f0 f1 f2 f3 d0 d1 d2 d3 d4 d5 d6 m0 m1 m2 m3 m4 m5 m6;go_wp2;refine bodyPost_ret (aj GJ rfl _ _ k _ rfl rfl HF.out.1) rfl ?_;have h1:=HB.out.size;have h2:=HK.out;exact⟨_,rfl,(O2.out.keptLt HF.out.2 HS.out).mono h1,HB2.out.grown HF.out.2 HB2.out.size (fun x e=>by cases e;omega)⟩
theorem dm {w wx:World} (h:iO w wx):w.heap.size<=wx.heap.size:=h.size
def Sp (g:Nat) (w1 w':World):Prop:=∀a x,a.block≠g->w1.cell? a=some x->w'.cell? a=some x
theorem Sp.refl (g:Nat) (w1:World):Sp g w1 w1:=fun _ _ _ h=>h
theorem Sp.dr {g:Nat} {w1 wx:World} (h:Sp g w1 wx):Sp g w1 wx.drew:=h
theorem Sp.bel {g:Nat} {w1 wx wy:World} (h:Sp g w1 wx) (b:iO wx wy):Sp g w1 wy:=fun a x h1 h3=>aJ (h a x h1 h3) b
theorem Sp.al {g:Nat} {w1 wx:World} {o:Obj} (h:Sp g w1 wx):Sp g w1 (wx.alloc o):=h.bel Fc
theorem Sp.put {g:Nat} {w1 wx wy:World} (h:Sp g w1 wx) (e:wx.grownBy wy (some g)):Sp g w1 wy:=fun a x h1 h3=>e.cell (h a x h1 h3) (by simpa using h1)
theorem Sp.set {g:Nat} {w1 wx:World} {j:Nat} {v:Value} (h:Sp g w1 wx):Sp g w1 (wx.setCell ⟨g,j,none⟩ v):=h.put (ai wx g j v)
def Sd (g k:Nat) (w1 w':World):Prop:=∀a x,a.block≠g->a.block≠k->w1.cell? a=some x->w'.cell? a=some x
theorem Sd.refl (g k:Nat) (w1:World):Sd g k w1 w1:=fun _ _ _ _ h=>h
theorem Sd.dr {g k:Nat} {w1 wx:World} (h:Sd g k w1 wx):Sd g k w1 wx.drew:=h
theorem Sd.bel {g k:Nat} {w1 wx wy:World} (h:Sd g k w1 wx) (b:iO wx wy):Sd g k w1 wy:=fun a x h1 h2 h3=>aJ (h a x h1 h2 h3) b
theorem Sd.al {g k:Nat} {w1 wx:World} {o:Obj} (h:Sd g k w1 wx):Sd g k w1 (wx.alloc o):=h.bel Fc
theorem Sd.put1 {g k:Nat} {w1 wx wy:World} (h:Sd g k w1 wx) (e:wx.grownBy wy (some g)):Sd g k w1 wy:=fun a x h1 h2 h3=>e.cell (h a x h1 h2 h3) (by simpa using h1)
theorem Sd.put2 {g k:Nat} {w1 wx wy:World} (h:Sd g k w1 wx) (e:wx.grownBy wy (some k)):Sd g k w1 wy:=fun a x h1 h2 h3=>e.cell (h a x h1 h2 h3) (by simpa using h2)
theorem Sd.set1 {g k:Nat} {w1 wx:World} {j:Nat} {v:Value} (h:Sd g k w1 wx):Sd g k w1 (wx.setCell ⟨g,j,none⟩ v):=h.put1 (ai wx g j v)
theorem Sd.set2 {g k:Nat} {w1 wx:World} {j:Nat} {v:Value} (h:Sd g k w1 wx):Sd g k w1 (wx.setCell ⟨k,j,none⟩ v):=h.put2 (ai wx k j v)
def pP (w:World) (g:Nat) (a b k:Value) (h:Hd):World:=
 (((((w.setCell ⟨g,0,none⟩ a).setCell ⟨g,1,none⟩ b).setCell ⟨g,2,none⟩ k).setCell ⟨g,3,none⟩ (.int .i64 h.kd)).setCell ⟨g,4,none⟩ (.int .i64 h.ho)).setCell ⟨g,5,none⟩ (.int .i64 h.tu)
theorem jE {w:World} {g:Nat} {t:TypeId} {c0 c1 c2 c3 c4 c5:Value} (a b k:Value) (h:Hd) (s:StB w g t #[c0,c1,c2,c3,c4,c5]):StB (pP w g a b k h) g t (srA a b k h):=
 (((((s.put 0 _ rfl).put 1 _ rfl).put 2 _ rfl).put 3 _ rfl).put 4 _ rfl).put 5 _ rfl
theorem fJ (w:World) (g:Nat) (a b k:Value) (h:Hd):w.grownBy (pP w g a b k h) (some g):=
 (((((ai _ _ _ _).trans (ai _ _ _ _)).trans (ai _ _ _ _)).trans (ai _ _ _ _)).trans (ai _ _ _ _)).trans (ai _ _ _ _)
theorem jn (u v q:Value) (xs ys:List Int) (h:Hd) (w:World) (hu:ag w u xs) (hv:ag w v ys) (hq:ag w q h.ks) (gx:xs.length<=1099511627776) (gy:ys.length<=1099511627776) (gk:h.ks.length<=1099511627776):
  Calls Tryz.prog 97 #[SRV u v q h] w fun e w'=>∃a b k,e=.returned (SRV a b k h)/\aZ w' w.heap.size a b k xs ys h.ks/\iO w w':=by
 obtain⟨w1,hw1⟩:=Fe ((w.alloc (.cells (srA u v q h) 96)).alloc (.cells zeR 96))
 have b1:iO w w1:=by rw[hw1];exact Fc.alloc Fg _
 have S1:Hid (StB w1 w.heap.size 96 (srA u v q h)/\StB w1 (w.heap.size+1) 96 zeR/\iO w w1/\w.heap.size+2<=w1.heap.size):=by
  have a2:=StB.new (w.alloc (.cells (srA u v q h) 96)) 96 zeR;simp only[World.size_alloc]at a2;exact⟨by rw[hw1];exact(StB.new w _ _).alloc _,by rw[hw1];exact a2,b1,by rw[hw1];simp⟩
 have C1:Hid (∀wx,iO w1 wx->Calls Tryz.prog 51 #[.agg #[u,v]] wx fun e w'=>∃a b,e=.returned (.agg #[a,b])/\aV w' wx.heap.size a b xs ys/\iO wx w'):=fun wx e=>dA u v xs ys wx ((hu.below b1 (Nat.le_refl _)).below e (Nat.le_refl _)) ((hv.below b1 (Nat.le_refl _)).below e (Nat.le_refl _)) gx gy
 have C2:Hid (∀wx,iO w1 wx->Calls Tryz.prog 52 #[HV q h] wx fun e w'=>∃u,e=.returned (HV u h)/\Own w' wx.heap.size u h.ks/\iO wx w'):=fun wx e=>oV q h wx ((hq.below b1 (Nat.le_refl _)).below e (Nat.le_refl _)) gk
 obtain⟨uo,uc,rfl⟩:=aa hu;obtain⟨vo,vc,rfl⟩:=aa hv;obtain⟨qo,qc,rfl⟩:=aa hq;clear b1 hu hv hq gx gy gk;have q0:∀w',Sp (w.heap.size+1) w1 w'->w'.cell? ⟨w.heap.size,0,none⟩=some (.slice uo xs.length uc):=fun w' b=>b _ _ Fg (S1.out.1.cell 0 rfl)
 have q1:∀w',Sp (w.heap.size+1) w1 w'->w'.cell? ⟨w.heap.size,1,none⟩=some (.slice vo ys.length vc):=fun w' b=>b _ _ Fg (S1.out.1.cell 1 rfl)
 have q2:∀w',Sp (w.heap.size+1) w1 w'->w'.cell? ⟨w.heap.size,2,none⟩=some (.slice qo h.ks.length qc):=fun w' b=>b _ _ Fg (S1.out.1.cell 2 rfl)
 have q3:∀w',Sp (w.heap.size+1) w1 w'->w'.cell? ⟨w.heap.size,3,none⟩=some (.int .i64 h.kd):=fun w' b=>b _ _ Fg (S1.out.1.cell 3 rfl)
 have q4:∀w',Sp (w.heap.size+1) w1 w'->w'.cell? ⟨w.heap.size,4,none⟩=some (.int .i64 h.ho):=fun w' b=>b _ _ Fg (S1.out.1.cell 4 rfl)
 have q5:∀w',Sp (w.heap.size+1) w1 w'->w'.cell? ⟨w.heap.size,5,none⟩=some (.int .i64 h.tu):=fun w' b=>b _ _ Fg (S1.out.1.cell 5 rfl)
 unfold SRV;conv in srA=>unfold srA
 unfold HV hdA at C2;unfold srA zeR at hw1;go_enter Tryz.func97,Tryz.ntmps97;go_upto_region 1 with fail
 rw[<-hw1];clear hw1
 go_region_held3 (fun w'=>Sp (w.heap.size+1) w1 w') ((repeat'(first|with_reducible assumption|with_reducible exact Sp.refl _ _|with_reducible refine Sp.al ?_|with_reducible refine Sp.dr ?_|with_reducible refine Sp.set ?_|with_reducible refine Sp.put ?_ (by with_reducible assumption)|with_reducible refine Sp.bel ?_ (by with_reducible assumption))))
  (first
   |(go_at_call 51;refine(C1.out _ cC).mono ?_;rintro e w3 ⟨a,b,rfl,o3,b3⟩;obtain⟨ao,ac,rfl⟩:=o3.1.reads.form;obtain⟨bo,bc,rfl⟩:=o3.2.1.reads.form;have O3:Hid (aV w3 _ (.slice ao xs.length ac) (.slice bo ys.length bc) xs ys):=o3;clear o3)
   |(go_at_call 52;refine(C2.out _ cC).mono ?_;rintro e w4 ⟨z,rfl,o4,b4⟩;have hap:Hid (apart (.slice ao xs.length ac) z/\apart (.slice bo ys.length bc) z):=⟨dt O3.out.1 o4 (dm cC),dt O3.out.2.1 o4 (dm cC)⟩;obtain⟨zo,zc,rfl⟩:=o4.reads.form;have B4:Hid (iO w1 w4):=(show iO w1 w4 from cC);have O4:Hid (aZ w4 (w.heap.size+2) (.slice ao xs.length ac) (.slice bo ys.length bc) (.slice zo h.ks.length zc) xs ys h.ks):=⟨⟨(O3.out.1.mono (Nat.le_trans S1.out.2.2.2 (dm cC))).below cC,(O3.out.2.1.mono (Nat.le_trans S1.out.2.2.2 (dm cC))).below cC,O3.out.2.2⟩,o4.mono (Nat.le_trans S1.out.2.2.2 (dm cC)),hap.out⟩;have R4:=S1.out.2.1.below B4.out;have r0:w4.cell? ⟨w.heap.size+1,0,none⟩=some (.slice none 0 0):=R4.cell 0 rfl;have r1:w4.cell? ⟨w.heap.size+1,1,none⟩=some (.slice none 0 0):=R4.cell 1 rfl;have r2:w4.cell? ⟨w.heap.size+1,2,none⟩=some (.slice none 0 0):=R4.cell 2 rfl;have r3:w4.cell? ⟨w.heap.size+1,3,none⟩=some (.int .i64 0):=R4.cell 3 rfl;have r4:w4.cell? ⟨w.heap.size+1,4,none⟩=some (.int .i64 0):=R4.cell 4 rfl;have r5:w4.cell? ⟨w.heap.size+1,5,none⟩=some (.int .i64 0):=R4.cell 5 rfl;have f0:=R4.frozen 0;have f1:=R4.frozen 1;have f2:=R4.frozen 2;have f3:=R4.frozen 3;have f4:=R4.frozen 4;have f5:=R4.frozen 5;clear o4))
 all_goals
  go_wp2;have R4:StB w4 (w.heap.size+1) 96 _:=S1.out.2.1.below B4.out;have G6:=fJ w4 (w.heap.size+1) (.slice ao xs.length ac) (.slice bo ys.length bc) (.slice zo h.ks.length zc) h;refine bodyPost_ret (aj GP rfl _ _ (w.heap.size+1) (srA (.slice ao xs.length ac) (.slice bo ys.length bc) (.slice zo h.ks.length zc) h) rfl rfl (jE (.slice ao xs.length ac) (.slice bo ys.length bc) (.slice zo h.ks.length zc) h R4)) rfl ?_;have B5:=S1.out.2.2.1.trans (B4.out.mono S1.out.2.2.1.size);exact⟨_,_,_,rfl,(O4.out.keptLt G6 Ff).mono Ff,B5.grown G6 B5.size (fun k e=>by cases e;omega)⟩
structure Dp (w wx:World) (u v q:Value) (h:Hd):Prop where
 st:StB wx w.heap.size 96 (srA u v q h)
 rs:StB wx (w.heap.size+1) 96 zeR
 bl:iO w wx
 sz:w.heap.size+2<=wx.heap.size
theorem Dp.next {w wx wy:World} {u v q:Value} {h:Hd} (d:Dp w wx u v q h) (b:iO wx wy):Dp w wy u v q h:=
 ⟨d.st.below b,d.rs.below b,d.bl.trans (b.mono d.bl.size),Nat.le_trans d.sz b.size⟩
theorem Dp.grown {w wx wy:World} {u v q:Value} {h:Hd} {g:Nat} (d:Dp w wx u v q h) (b:wx.grownBy wy (some g)) (hg:w.heap.size+2<=g):Dp w wy u v q h:=
 ⟨d.st.kept b (by simp;omega),d.rs.kept b (by simp;omega),d.bl.grown b d.bl.size (fun k e=>by cases e;omega),Nat.le_trans d.sz b.size⟩
theorem eS (u v q:Value) (xs ys:List Int) (h:Hd) (w:World) (hu:ag w u xs) (hv:ag w v ys) (hq:ag w q h.ks) (hx1:1<=xs.length) (hy1:1<=ys.length) (hk1:1<=h.ks.length) (gx:xs.length<=1099511627776) (gy:ys.length<=1099511627776) (gk:h.ks.length<=1099511627776):
  Calls Tryz.prog 72 #[SRV u v q h] w fun e w'=>∃a b k,e=.returned (SRV a b k h)/\aZ w' w.heap.size a b k xs ys h.ks/\iO w w':=by
 obtain⟨w1,hw1⟩:=Fe ((w.alloc (.cells (srA u v q h) 96)).alloc (.cells zeR 96))
 have b1:iO w w1:=by rw[hw1];exact Fc.alloc Fg _
 have S1:Hid (StB w1 w.heap.size 96 (srA u v q h)/\StB w1 (w.heap.size+1) 96 zeR/\iO w w1/\w.heap.size+2<=w1.heap.size):=by
  have a2:=StB.new (w.alloc (.cells (srA u v q h) 96)) 96 zeR;simp only[World.size_alloc]at a2;exact⟨by rw[hw1];exact(StB.new w _ _).alloc _,by rw[hw1];exact a2,b1,by rw[hw1];simp⟩
 have C1:Hid (∀wx,iO w1 wx->Calls Tryz.prog 111 #[.agg #[u,v]] wx fun e w'=>∃a b,e=.returned (.agg #[a,b])/\aV w' wx.heap.size a b xs ys/\iO wx w'):=fun wx e=>dJ u v xs ys wx ((hu.below b1 (Nat.le_refl _)).below e (Nat.le_refl _)) ((hv.below b1 (Nat.le_refl _)).below e (Nat.le_refl _)) hx1 hy1 gx gy
 have C2:Hid (∀wx,iO w1 wx->Calls Tryz.prog 112 #[HV q h] wx fun e w'=>∃u,e=.returned (HV u h)/\Own w' wx.heap.size u h.ks/\iO wx w'):=fun wx e=>mN q h wx ((hq.below b1 (Nat.le_refl _)).below e (Nat.le_refl _)) hk1 gk
 obtain⟨uo,uc,rfl⟩:=aa hu;obtain⟨vo,vc,rfl⟩:=aa hv;obtain⟨qo,qc,rfl⟩:=aa hq;clear b1 hu hv hq gx gy gk hx1 hy1 hk1;have q0:∀w',Sp (w.heap.size+1) w1 w'->w'.cell? ⟨w.heap.size,0,none⟩=some (.slice uo xs.length uc):=fun w' b=>b _ _ Fg (S1.out.1.cell 0 rfl)
 have q1:∀w',Sp (w.heap.size+1) w1 w'->w'.cell? ⟨w.heap.size,1,none⟩=some (.slice vo ys.length vc):=fun w' b=>b _ _ Fg (S1.out.1.cell 1 rfl)
 have q2:∀w',Sp (w.heap.size+1) w1 w'->w'.cell? ⟨w.heap.size,2,none⟩=some (.slice qo h.ks.length qc):=fun w' b=>b _ _ Fg (S1.out.1.cell 2 rfl)
 have q3:∀w',Sp (w.heap.size+1) w1 w'->w'.cell? ⟨w.heap.size,3,none⟩=some (.int .i64 h.kd):=fun w' b=>b _ _ Fg (S1.out.1.cell 3 rfl)
 have q4:∀w',Sp (w.heap.size+1) w1 w'->w'.cell? ⟨w.heap.size,4,none⟩=some (.int .i64 h.ho):=fun w' b=>b _ _ Fg (S1.out.1.cell 4 rfl)
 have q5:∀w',Sp (w.heap.size+1) w1 w'->w'.cell? ⟨w.heap.size,5,none⟩=some (.int .i64 h.tu):=fun w' b=>b _ _ Fg (S1.out.1.cell 5 rfl)
 unfold SRV;conv in srA=>unfold srA
 unfold HV hdA at C2;unfold srA zeR at hw1;go_enter Tryz.func72,Tryz.ntmps72;go_upto_region 1 with fail
 rw[<-hw1];clear hw1
 go_region_held3 (fun w'=>Sp (w.heap.size+1) w1 w') ((repeat'(first|with_reducible assumption|with_reducible exact Sp.refl _ _|with_reducible refine Sp.al ?_|with_reducible refine Sp.dr ?_|with_reducible refine Sp.set ?_|with_reducible refine Sp.put ?_ (by with_reducible assumption)|with_reducible refine Sp.bel ?_ (by with_reducible assumption))))
  (first
   |(go_at_call 111;refine(C1.out _ cC).mono ?_;rintro e w3 ⟨a,b,rfl,o3,b3⟩;obtain⟨ao,ac,rfl⟩:=o3.1.reads.form;obtain⟨bo,bc,rfl⟩:=o3.2.1.reads.form;have O3:Hid (aV w3 _ (.slice ao xs.length ac) (.slice bo ys.length bc) xs ys):=o3;clear o3)
   |(go_at_call 112;refine(C2.out _ cC).mono ?_;rintro e w4 ⟨z,rfl,o4,b4⟩;have hap:Hid (apart (.slice ao xs.length ac) z/\apart (.slice bo ys.length bc) z):=⟨dt O3.out.1 o4 (dm cC),dt O3.out.2.1 o4 (dm cC)⟩;obtain⟨zo,zc,rfl⟩:=o4.reads.form;have B4:Hid (iO w1 w4):=(show iO w1 w4 from cC);have O4:Hid (aZ w4 (w.heap.size+2) (.slice ao xs.length ac) (.slice bo ys.length bc) (.slice zo h.ks.length zc) xs ys h.ks):=⟨⟨(O3.out.1.mono (Nat.le_trans S1.out.2.2.2 (dm cC))).below cC,(O3.out.2.1.mono (Nat.le_trans S1.out.2.2.2 (dm cC))).below cC,O3.out.2.2⟩,o4.mono (Nat.le_trans S1.out.2.2.2 (dm cC)),hap.out⟩;have R4:=S1.out.2.1.below B4.out;have r0:w4.cell? ⟨w.heap.size+1,0,none⟩=some (.slice none 0 0):=R4.cell 0 rfl;have r1:w4.cell? ⟨w.heap.size+1,1,none⟩=some (.slice none 0 0):=R4.cell 1 rfl;have r2:w4.cell? ⟨w.heap.size+1,2,none⟩=some (.slice none 0 0):=R4.cell 2 rfl;have r3:w4.cell? ⟨w.heap.size+1,3,none⟩=some (.int .i64 0):=R4.cell 3 rfl;have r4:w4.cell? ⟨w.heap.size+1,4,none⟩=some (.int .i64 0):=R4.cell 4 rfl;have r5:w4.cell? ⟨w.heap.size+1,5,none⟩=some (.int .i64 0):=R4.cell 5 rfl;have f0:=R4.frozen 0;have f1:=R4.frozen 1;have f2:=R4.frozen 2;have f3:=R4.frozen 3;have f4:=R4.frozen 4;have f5:=R4.frozen 5;clear o4))
 all_goals
  go_wp2;have R4:StB w4 (w.heap.size+1) 96 _:=S1.out.2.1.below B4.out;have G6:=fJ w4 (w.heap.size+1) (.slice ao xs.length ac) (.slice bo ys.length bc) (.slice zo h.ks.length zc) h;refine bodyPost_ret (aj GP rfl _ _ (w.heap.size+1) (srA (.slice ao xs.length ac) (.slice bo ys.length bc) (.slice zo h.ks.length zc) h) rfl rfl (jE (.slice ao xs.length ac) (.slice bo ys.length bc) (.slice zo h.ks.length zc) h R4)) rfl ?_;have B5:=S1.out.2.2.1.trans (B4.out.mono S1.out.2.2.1.size);exact⟨_,_,_,rfl,(O4.out.keptLt G6 Ff).mono Ff,B5.grown G6 B5.size (fun k e=>by cases e;omega)⟩
theorem mD (v:Value) (c:Cp) (w:World) (hr:ag w v c.ts) (hl:c.ts.length<=1099511627776):
  Calls Tryz.prog 74 #[CpV v c] w fun e w'=>∃u,e=.returned (CpV u c)/\bP w' w.heap.size u c.ts/\iO w w':=by
 obtain⟨w1,hw1⟩:=Fe ((w.alloc (.cells (cpA v c) 39)).alloc (.cells cS 39))
 have p0:StB w1 w.heap.size 39 (cpA v c):=by rw[hw1];exact(StB.new w _ _).alloc _
 have q0:StB w1 (w.heap.size+1) 39 cS:=by
  rw[hw1];have:=StB.new (w.alloc (.cells (cpA v c) 39)) 39 cS
  rwa[World.size_alloc]at this
 have b1:iO w w1:=by rw[hw1];exact Fc.alloc Fg _
 have c1:=ol v c.ts w1 (hr.below b1 (Nat.le_refl _)) hl;have hs1:=q0.lt;obtain⟨ao,cap,rfl⟩:=aa hr;have HW:Hid (w1=(w.alloc (.cells #[.int .i64 c.tr,.bool c.op,.int .i64 c.di,.int .i64 c.wa,.slice ao c.ts.length cap] 39)).alloc (.cells #[.int .i64 0,.bool false,.int .i64 0,.int .i64 0,.slice none 0 0] 39)):=hw1;have k4:w1.cell? ⟨w.heap.size,4,none⟩=some (.slice ao c.ts.length cap):=p0.cell 4 rfl;clear hw1 hr hl;unfold CpV cpA;go_enter Tryz.func74,Tryz.ntmps74;go_wp2_with fail
 rw[<-HW.out];clear HW;refine c1.mono ?_;rintro e w3 ⟨u,rfl,o3,b3⟩;replace p0:=p0.below b3;replace q0:=q0.below b3;have B3:=b1.trans (b3.mono b1.size);obtain⟨ab,cb,rfl⟩:=aa o3.reads;have k0:w3.cell? ⟨w.heap.size,4,none⟩=some (.slice ao c.ts.length cap):=p0.cell 4 rfl;have f0:=p0.frozen 4;have r4:=p0.put 4 (.slice ab c.ts.length cb) (ds:=cpA (.slice ab c.ts.length cb) c) rfl;have q4:=q0.other ⟨w.heap.size,4,none⟩ (.slice ab c.ts.length cb) Fg;have HP:Hid (bP (w3.setCell ⟨w.heap.size,4,none⟩ (.slice ab c.ts.length cb)) w1.heap.size (.slice ab c.ts.length cb) c.ts/\iO w (w3.setCell ⟨w.heap.size,4,none⟩ (.slice ab c.ts.length cb))):=⟨o3.setLt Ff 4 _,B3.setCell (Nat.le_refl _) _⟩
 clear k4 p0 q0 c1 o3 b3 b1 B3;go_upto_region 2 with fail
 obtain⟨w4,hw4⟩:=Fe (w3.setCell ⟨w.heap.size,4,none⟩ (.slice ab c.ts.length cb))
 rw[<-hw4]at r4 q4 HP⊢;clear hw4 k0 f0;go_wp2_with (first|(refine ah GH rfl _ rfl w.heap.size rfl (cpA (.slice ab c.ts.length cb) c) rfl r4 ?_)|(refine ae GH rfl _ _ rfl (w.heap.size+1) (cpA (.slice ab c.ts.length cb) c) cS rfl rfl rfl rfl (lC c rfl) q4 ?_;intro w8 s8 g8))
 refine bodyPost_ret (aj GH rfl _ _ (w.heap.size+1) _ rfl rfl s8) rfl ?_;exact⟨_,rfl,(HP.out.1.keptLt g8 Ff).mono Ff,HP.out.2.grown g8 HP.out.2.size (fun k e=>by cases e;omega)⟩
theorem AU {w7 w8 w9:World} {base:Nat} {a b k q z:Value} {xs ys ks qs zs:List Int} (o:aZ w7 base a b k xs ys ks) (oq:bP w8 w7.heap.size q qs) (oz:bP w9 w8.heap.size z zs) (h:w7.heap.size<=w8.heap.size):C7 (blk a) (blk b) (blk k) (bn q qs) (bn z zs):=by
 have ha:=fun x hx=>(aN o.1.1 x hx).2
 have hb:=fun x hx=>(aN o.1.2.1 x hx).2
 have hk:=fun x hx=>(aN o.2.1 x hx).2
 have hq:=fun{x:Nat} (hx:x∈bn q qs)=>eL oq hx
 have hz:=fun{x:Nat} (hx:x∈bn z zs)=>eL oz hx
 exact⟨eK.1 o.1.2.2,eK.1 o.2.2.1,fun x h1 h2=>by have:=ha x h1;have:=(hq h2).1;omega,fun x h1 h2=>by have:=ha x h1;have:=(hz h2).1;omega,eK.1 o.2.2.2,
  fun x h1 h2=>by have:=hb x h1;have:=(hq h2).1;omega,fun x h1 h2=>by have:=hb x h1;have:=(hz h2).1;omega,fun x h1 h2=>by have:=hk x h1;have:=(hq h2).1;omega,fun x h1 h2=>by have:=hk x h1;have:=(hz h2).1;omega,fun x h1 h2=>by have:=(hq h1).2;have:=(hz h2).1;omega⟩
theorem Er {w wx:World} {a b k q z:Value} {n:Nd} (h:FS w wx (ndA a b k q z n)) (q' z':Value):FS w (((((((wx.setCell ⟨w.heap.size,13,none⟩ (.int .i64 n.c.tr)).setCell ⟨w.heap.size,14,none⟩ (.bool n.c.op)).setCell ⟨w.heap.size,15,none⟩ (.int .i64 n.c.di)).setCell ⟨w.heap.size,16,none⟩ (.int .i64 n.c.wa)).setCell ⟨w.heap.size,17,none⟩ q').setCell ⟨w.heap.size,18,none⟩ (.int .i64 n.s.tr)).setCell ⟨w.heap.size,19,none⟩ z') (ndA a b k q' z' n):=
 ((((((h.put 13 (.int .i64 n.c.tr) rfl).put 14 (.bool n.c.op) rfl).put 15 (.int .i64 n.c.di) rfl).put 16 (.int .i64 n.c.wa) rfl).put 17 q' rfl).put 18 (.int .i64 n.s.tr) rfl).put 19 z' rfl
theorem E0 {wx:World} {base g:Nat} {a b k q z:Value} {n:Nd} (h:aP wx base a b k q z n) (hg:g<base) (c0 c1 c2 c3 c4 c5 c6:Value):aP (((((((wx.setCell ⟨g,13,none⟩ c0).setCell ⟨g,14,none⟩ c1).setCell ⟨g,15,none⟩ c2).setCell ⟨g,16,none⟩ c3).setCell ⟨g,17,none⟩ c4).setCell ⟨g,18,none⟩ c5).setCell ⟨g,19,none⟩ c6) base a b k q z n:=
 ((((((h.keptLt (ai _ g 13 c0) hg).keptLt (ai _ g 14 c1) hg).keptLt (ai _ g 15 c2) hg).keptLt (ai _ g 16 c3) hg).keptLt (ai _ g 17 c4) hg).keptLt (ai _ g 18 c5) hg).keptLt (ai _ g 19 c6) hg
theorem aP.setLt {w:World} {base g:Nat} {a b k q z:Value} {n:Nd} (h:aP w base a b k q z n) (hb:g<base) (j:Nat) (x:Value):aP (w.setCell ⟨g,j,none⟩ x) base a b k q z n:=h.keptLt (ai w g j x) hb
theorem tQ (a b k q z:Value) (n:Nd) (w:World) (hr:RdN w a b k q z n) (hl:SmN n) (hx1:1<=n.xs.length) (hy1:1<=n.ys.length) (hk1:1<=n.h.ks.length):
  Calls Tryz.prog 27 #[NdV a b k q z n] w fun e w'=>∃a' b' k' q' z',e=.returned (NdV a' b' k' q' z' n)/\aP w' w.heap.size a' b' k' q' z' n/\iO w w':=by
 have HR:Hid (∀wx,iO w wx->RdN wx a b k q z n):=fun wx B=>hr.below B
 have CS:Hid (∀wx,iO w wx->Calls Tryz.prog 64 #[NdV a b k q z n] wx fun e w'=>e=.returned (SRV a b k n.h)/\iO wx w'):=fun wx B=>iK a b k q z n wx (HR.out wx B)
 have CF:Hid (∀wx,iO w wx->Calls Tryz.prog 72 #[SRV a b k n.h] wx fun e w'=>∃a b k,e=.returned (SRV a b k n.h)/\aZ w' wx.heap.size a b k n.xs n.ys n.h.ks/\iO wx w'):=fun wx B=>eS a b k n.xs n.ys n.h wx (HR.out wx B).ra (HR.out wx B).rb (HR.out wx B).rk hx1 hy1 hk1 (by have:=hl.la;omega) (by have:=hl.lb;omega) (by have:=hl.lk;omega)
 have CL:Hid (∀wx,Calls Tryz.prog 73 #[S n.log] wx fun e w'=>e=.returned (S n.log)/\iO wx w'):=fun wx=>kl n.log wx (by have:=hl.ll;omega)
 have CQ:Hid (∀wx,iO w wx->Calls Tryz.prog 74 #[CpV q n.c] wx fun e w'=>∃u,e=.returned (CpV u n.c)/\bP w' wx.heap.size u n.c.ts/\iO wx w'):=fun wx B=>mD q n.c wx (HR.out wx B).rq (by have:=hl.lq;omega)
 have CZ:Hid (∀wx,iO w wx->Calls Tryz.prog 75 #[SnV z n.s] wx fun e w'=>∃u,e=.returned (SnV u n.s)/\bP w' wx.heap.size u n.s.ts/\iO wx w'):=fun wx B=>tZ z n.s wx (HR.out wx B).rz (by have:=hl.lz;omega)
 obtain⟨ao,ac,rfl⟩:=aa hr.ra;obtain⟨bo,bc,rfl⟩:=aa hr.rb;obtain⟨ko,kc,rfl⟩:=aa hr.rk;obtain⟨qo,qc,rfl⟩:=aa hr.rq;obtain⟨zo,zc,rfl⟩:=aa hr.rz;clear hr HR hl hx1 hy1 hk1;obtain⟨w1,hw1⟩:=Fe ((w.alloc (.cells (ndA (.slice ao n.xs.length ac) (.slice bo n.ys.length bc) (.slice ko n.h.ks.length kc) (.slice qo n.c.ts.length qc) (.slice zo n.s.ts.length zc) n) 42)).alloc (.cells aA 42))
 have HF:Hid (FS w w1 (Fk ao ac bo bc ko kc qo qc zo zc n)):=by rw[hw1];exact FS.start w _
 unfold SRV srA at CS CF;unfold CpV cpA at CQ;unfold SnV snA at CZ;unfold S at CL;unfold NdV at CS⊢;unfold ndA aA S at hw1;conv in ndA (.slice ao n.xs.length ac) _ _ _ _ _=>unfold ndA S
 go_enter Tryz.func27,Tryz.ntmps27;go_upto_region 1 with fail
 rw[<-hw1];clear hw1;go_wp2_with (refine aD GO rfl _ rfl w.heap.size rfl (Fk ao ac bo bc ko kc qo qc zo zc n) rfl HF.out.p ?_)
 refine(CS.out w1 HF.out.b).mono ?_;rintro e w2 ⟨rfl,b2⟩;replace HF:Hid (FS w w2 (Fk ao ac bo bc ko kc qo qc zo zc n)):=HF.out.below b2;clear b2 CS;go_wp2_with fail
 refine(CF.out w2 HF.out.b).mono ?_;rintro e w3 ⟨a',b',k',rfl,o3,b3⟩;obtain⟨a1,a2,rfl⟩:=aa o3.1.1.reads;obtain⟨b1,b2,rfl⟩:=aa o3.1.2.1.reads;obtain⟨k1,k2,rfl⟩:=aa o3.2.1.reads;obtain⟨w4,hw4⟩:=Fe (w3.alloc (.cells #[.slice a1 n.xs.length a2,.slice b1 n.ys.length b2,.slice k1 n.h.ks.length k2,.int .i64 n.h.kd,.int .i64 n.h.ho,.int .i64 n.h.tu] 96))
 have b4:iO w3 w4:=by rw[hw4];exact Fc
 have O4:Hid (aZ w4 (w.heap.size+2) (.slice a1 n.xs.length a2) (.slice b1 n.ys.length b2) (.slice k1 n.h.ks.length k2) n.xs n.ys n.h.ks):=(o3.mono HF.out.lt).below b4;replace HF:Hid (FS w w4 (Fk ao ac bo bc ko kc qo qc zo zc n)):=(HF.out.below b3).below b4;have T4:Hid (StB w4 w3.heap.size 96 #[.slice a1 n.xs.length a2,.slice b1 n.ys.length b2,.slice k1 n.h.ks.length k2,.int .i64 n.h.kd,.int .i64 n.h.ho,.int .i64 n.h.tu]):=by rw[hw4];exact StB.new _ _ _
 go_upto_region 2 with fail
 rw[<-hw4];clear hw4 o3 b3 b4 CF;have s0:w4.drew.cell? ⟨w3.heap.size,0,none⟩=some (.slice a1 n.xs.length a2):=T4.out.dr.cell 0 rfl;have s1:w4.drew.cell? ⟨w3.heap.size,1,none⟩=some (.slice b1 n.ys.length b2):=T4.out.dr.cell 1 rfl;have s2:w4.drew.cell? ⟨w3.heap.size,2,none⟩=some (.slice k1 n.h.ks.length k2):=T4.out.dr.cell 2 rfl;have s3:w4.drew.cell? ⟨w3.heap.size,3,none⟩=some (.int .i64 n.h.kd):=T4.out.dr.cell 3 rfl;have s4:w4.drew.cell? ⟨w3.heap.size,4,none⟩=some (.int .i64 n.h.ho):=T4.out.dr.cell 4 rfl;have s5:w4.drew.cell? ⟨w3.heap.size,5,none⟩=some (.int .i64 n.h.tu):=T4.out.dr.cell 5 rfl;have p2:w4.drew.cell? ⟨w.heap.size,2,none⟩=some (.slice ao n.xs.length ac):=HF.out.p.dr.cell 2 rfl;have fp2:w4.drew.frozen? ⟨w.heap.size,2,none⟩=false:=HF.out.p.dr.frozen 2;have p3:w4.drew.cell? ⟨w.heap.size,3,none⟩=some (.slice bo n.ys.length bc):=HF.out.p.dr.cell 3 rfl;have fp3:w4.drew.frozen? ⟨w.heap.size,3,none⟩=false:=HF.out.p.dr.frozen 3;have p4:w4.drew.cell? ⟨w.heap.size,4,none⟩=some (.slice ko n.h.ks.length kc):=HF.out.p.dr.cell 4 rfl;have fp4:w4.drew.frozen? ⟨w.heap.size,4,none⟩=false:=HF.out.p.dr.frozen 4;have p5:w4.drew.cell? ⟨w.heap.size,5,none⟩=some (.int .i64 n.h.kd):=HF.out.p.dr.cell 5 rfl;have fp5:w4.drew.frozen? ⟨w.heap.size,5,none⟩=false:=HF.out.p.dr.frozen 5;have p6:w4.drew.cell? ⟨w.heap.size,6,none⟩=some (.int .i64 n.h.ho):=HF.out.p.dr.cell 6 rfl;have fp6:w4.drew.frozen? ⟨w.heap.size,6,none⟩=false:=HF.out.p.dr.frozen 6;have p7:w4.drew.cell? ⟨w.heap.size,7,none⟩=some (.int .i64 n.h.tu):=HF.out.p.dr.cell 7 rfl;have fp7:w4.drew.frozen? ⟨w.heap.size,7,none⟩=false:=HF.out.p.dr.frozen 7;have u0:w4.cell? ⟨w3.heap.size,0,none⟩=some (.slice a1 n.xs.length a2):=T4.out.cell 0 rfl;have u1:w4.cell? ⟨w3.heap.size,1,none⟩=some (.slice b1 n.ys.length b2):=T4.out.cell 1 rfl;have u2:w4.cell? ⟨w3.heap.size,2,none⟩=some (.slice k1 n.h.ks.length k2):=T4.out.cell 2 rfl;have u3:w4.cell? ⟨w3.heap.size,3,none⟩=some (.int .i64 n.h.kd):=T4.out.cell 3 rfl;have u4:w4.cell? ⟨w3.heap.size,4,none⟩=some (.int .i64 n.h.ho):=T4.out.cell 4 rfl;have u5:w4.cell? ⟨w3.heap.size,5,none⟩=some (.int .i64 n.h.tu):=T4.out.cell 5 rfl;have v2:w4.cell? ⟨w.heap.size,2,none⟩=some (.slice ao n.xs.length ac):=HF.out.p.cell 2 rfl;have fv2:w4.frozen? ⟨w.heap.size,2,none⟩=false:=HF.out.p.frozen 2;have v3:w4.cell? ⟨w.heap.size,3,none⟩=some (.slice bo n.ys.length bc):=HF.out.p.cell 3 rfl;have fv3:w4.frozen? ⟨w.heap.size,3,none⟩=false:=HF.out.p.frozen 3;have v4:w4.cell? ⟨w.heap.size,4,none⟩=some (.slice ko n.h.ks.length kc):=HF.out.p.cell 4 rfl;have fv4:w4.frozen? ⟨w.heap.size,4,none⟩=false:=HF.out.p.frozen 4;have v5:w4.cell? ⟨w.heap.size,5,none⟩=some (.int .i64 n.h.kd):=HF.out.p.cell 5 rfl;have fv5:w4.frozen? ⟨w.heap.size,5,none⟩=false:=HF.out.p.frozen 5;have v6:w4.cell? ⟨w.heap.size,6,none⟩=some (.int .i64 n.h.ho):=HF.out.p.cell 6 rfl;have fv6:w4.frozen? ⟨w.heap.size,6,none⟩=false:=HF.out.p.frozen 6;have v7:w4.cell? ⟨w.heap.size,7,none⟩=some (.int .i64 n.h.tu):=HF.out.p.cell 7 rfl;have fv7:w4.frozen? ⟨w.heap.size,7,none⟩=false:=HF.out.p.frozen 7;obtain⟨w5,hw5⟩:=Fe (((((((w4.setCell ⟨w.heap.size,2,none⟩ (.slice a1 n.xs.length a2)).setCell ⟨w.heap.size,3,none⟩ (.slice b1 n.ys.length b2)).setCell ⟨w.heap.size,4,none⟩ (.slice k1 n.h.ks.length k2)).setCell ⟨w.heap.size,5,none⟩ (.int .i64 n.h.kd)).setCell ⟨w.heap.size,6,none⟩ (.int .i64 n.h.ho)).setCell ⟨w.heap.size,7,none⟩ (.int .i64 n.h.tu)).drew)
 have HF5:Hid (FS w w5 (Fk a1 a2 b1 b2 k1 k2 qo qc zo zc n)):=by
  rw[hw5];exact FS.below ((((((HF.out.put 2 (.slice a1 n.xs.length a2) rfl).put 3 (.slice b1 n.ys.length b2) rfl).put 4 (.slice k1 n.h.ks.length k2) rfl).put 5 (.int .i64 n.h.kd) rfl).put 6 (.int .i64 n.h.ho) rfl).put 7 (.int .i64 n.h.tu) rfl) (Below.refl _ _).drew
 have O5:Hid (aZ w5 (w.heap.size+2) (.slice a1 n.xs.length a2) (.slice b1 n.ys.length b2) (.slice k1 n.h.ks.length k2) n.xs n.ys n.h.ks):=by
  rw[hw5];exact(((((((O4.out.keptLt (ai _ w.heap.size 2 (.slice a1 n.xs.length a2)) Ff).keptLt (ai _ w.heap.size 3 (.slice b1 n.ys.length b2)) Ff).keptLt (ai _ w.heap.size 4 (.slice k1 n.h.ks.length k2)) Ff).keptLt (ai _ w.heap.size 5 (.int .i64 n.h.kd)) Ff).keptLt (ai _ w.heap.size 6 (.int .i64 n.h.ho)) Ff).keptLt (ai _ w.heap.size 7 (.int .i64 n.h.tu)) Ff)).below (Below.refl _ _).drew
 have hn1:¬w3.heap.size=w.heap.size:=fun e=>by
  have h1:=T4.out;have h2:=HF.out.p;rw[e]at h1;exact absurd rfl (StB.typ h1 h2 Fh)
 have hn2:¬w.heap.size=w3.heap.size:=fun e=>hn1 e.symm
 go_region
 all_goals
  rw[<-hw5];clear hn1 hn2 hw5 HF O4 T4 s0 u0 s1 u1 s2 u2 s3 u3 s4 u4 s5 u5 p2 fp2 v2 fv2 p3 fp3 v3 fv3 p4 fp4 v4 fv4 p5 fp5 v5 fv5 p6 fp6 v6 fv6 p7 fp7 v7 fv7;have HF:Hid (FS w w5 (Fk a1 a2 b1 b2 k1 k2 qo qc zo zc n)):=HF5;clear HF5;have p8:w5.cell? ⟨w.heap.size,8,none⟩=some (.string ⟨n.log.toArray⟩):=HF.out.p.cell 8 rfl;go_wp2_with fail
  refine(CL.out w5).mono ?_;rintro e w6 ⟨rfl,b6⟩;have O6:Hid (aZ w6 (w.heap.size+2) (.slice a1 n.xs.length a2) (.slice b1 n.ys.length b2) (.slice k1 n.h.ks.length k2) n.xs n.ys n.h.ks):=O5.out.below b6;replace HF:Hid (FS w w6 (Fk a1 a2 b1 b2 k1 k2 qo qc zo zc n)):=HF.out.below b6;clear O5 b6 p8 CL;have p8:w6.cell? ⟨w.heap.size,8,none⟩=some (.string ⟨n.log.toArray⟩):=HF.out.p.cell 8 rfl;have fp8:w6.frozen? ⟨w.heap.size,8,none⟩=false:=HF.out.p.frozen 8;obtain⟨w7,hw7⟩:=Fe (w6.setCell ⟨w.heap.size,8,none⟩ (.string ⟨n.log.toArray⟩))
  have O7:Hid (aZ w7 (w.heap.size+2) (.slice a1 n.xs.length a2) (.slice b1 n.ys.length b2) (.slice k1 n.h.ks.length k2) n.xs n.ys n.h.ks):=by rw[hw7];exact O6.out.keptLt (ai _ w.heap.size 8 _) Ff
  have HF7:Hid (FS w w7 (Fk a1 a2 b1 b2 k1 k2 qo qc zo zc n)):=by rw[hw7];exact HF.out.put 8 _ rfl
  go_upto_region 4 with fail
  rw[<-hw7];clear hw7 HF O6 p8 fp8;have HF:Hid (FS w w7 (Fk a1 a2 b1 b2 k1 k2 qo qc zo zc n)):=HF7;clear HF7;have p13:w7.drew.cell? ⟨w.heap.size,13,none⟩=some (.int .i64 n.c.tr):=HF.out.p.dr.cell 13 rfl;have p14:w7.drew.cell? ⟨w.heap.size,14,none⟩=some (.bool n.c.op):=HF.out.p.dr.cell 14 rfl;have p15:w7.drew.cell? ⟨w.heap.size,15,none⟩=some (.int .i64 n.c.di):=HF.out.p.dr.cell 15 rfl;have p16:w7.drew.cell? ⟨w.heap.size,16,none⟩=some (.int .i64 n.c.wa):=HF.out.p.dr.cell 16 rfl;have p17:w7.drew.cell? ⟨w.heap.size,17,none⟩=some (.slice qo n.c.ts.length qc):=HF.out.p.dr.cell 17 rfl;have p18:w7.drew.cell? ⟨w.heap.size,18,none⟩=some (.int .i64 n.s.tr):=HF.out.p.dr.cell 18 rfl;have p19:w7.drew.cell? ⟨w.heap.size,19,none⟩=some (.slice zo n.s.ts.length zc):=HF.out.p.dr.cell 19 rfl;have v13:w7.cell? ⟨w.heap.size,13,none⟩=some (.int .i64 n.c.tr):=HF.out.p.cell 13 rfl;have v14:w7.cell? ⟨w.heap.size,14,none⟩=some (.bool n.c.op):=HF.out.p.cell 14 rfl;have v15:w7.cell? ⟨w.heap.size,15,none⟩=some (.int .i64 n.c.di):=HF.out.p.cell 15 rfl;have v16:w7.cell? ⟨w.heap.size,16,none⟩=some (.int .i64 n.c.wa):=HF.out.p.cell 16 rfl;have v17:w7.cell? ⟨w.heap.size,17,none⟩=some (.slice qo n.c.ts.length qc):=HF.out.p.cell 17 rfl;have v18:w7.cell? ⟨w.heap.size,18,none⟩=some (.int .i64 n.s.tr):=HF.out.p.cell 18 rfl;have v19:w7.cell? ⟨w.heap.size,19,none⟩=some (.slice zo n.s.ts.length zc):=HF.out.p.cell 19 rfl
  go_region_with
   (first
    |(go_at_call 74;refine(CQ.out _ (uL HF.out.b)).mono ?_;rintro e w8 ⟨q',rfl,o8,b8⟩;obtain⟨q1,q2,rfl⟩:=aa o8.reads;have HF8:Hid (FS w w8 (Fk a1 a2 b1 b2 k1 k2 qo qc zo zc n)):=FS.below (FS.below HF.out (Below.refl _ _).drew) b8;have O8:Hid (aZ w8 (w.heap.size+2) (.slice a1 n.xs.length a2) (.slice b1 n.ys.length b2) (.slice k1 n.h.ks.length k2) n.xs n.ys n.h.ks/\bP w8 w7.heap.size (.slice q1 n.c.ts.length q2) n.c.ts/\w7.heap.size<=w8.heap.size):=⟨(O7.out.below (Below.refl _ _).drew).below b8,o8,b8.size⟩;clear o8 b8;have m13:w8.cell? ⟨w.heap.size,13,none⟩=some (.int .i64 n.c.tr):=HF8.out.p.cell 13 rfl;have m14:w8.cell? ⟨w.heap.size,14,none⟩=some (.bool n.c.op):=HF8.out.p.cell 14 rfl;have m15:w8.cell? ⟨w.heap.size,15,none⟩=some (.int .i64 n.c.di):=HF8.out.p.cell 15 rfl;have m16:w8.cell? ⟨w.heap.size,16,none⟩=some (.int .i64 n.c.wa):=HF8.out.p.cell 16 rfl;have m17:w8.cell? ⟨w.heap.size,17,none⟩=some (.slice qo n.c.ts.length qc):=HF8.out.p.cell 17 rfl;have m18:w8.cell? ⟨w.heap.size,18,none⟩=some (.int .i64 n.s.tr):=HF8.out.p.cell 18 rfl;have m19:w8.cell? ⟨w.heap.size,19,none⟩=some (.slice zo n.s.ts.length zc):=HF8.out.p.cell 19 rfl;skip)
    |(go_at_call 75;refine(CZ.out _ HF8.out.b).mono ?_;rintro e w9 ⟨z',rfl,o9,b9⟩;obtain⟨z1,z2,rfl⟩:=aa o9.reads;have HF9:Hid (FS w w9 (Fk a1 a2 b1 b2 k1 k2 qo qc zo zc n)):=HF8.out.below b9;have O9:Hid (aP w9 (w.heap.size+2) (.slice a1 n.xs.length a2) (.slice b1 n.ys.length b2) (.slice k1 n.h.ks.length k2) (.slice q1 n.c.ts.length q2) (.slice z1 n.s.ts.length z2) n):=⟨(O8.out.1.below b9).1.1,(O8.out.1.below b9).1.2.1,(O8.out.1.below b9).2.1,(O8.out.2.1.below b9).mono HF.out.lt,o9.mono (Nat.le_trans HF.out.lt O8.out.2.2),AU O7.out O8.out.2.1 o9 O8.out.2.2⟩;clear o9 b9;have t13:w9.cell? ⟨w.heap.size,13,none⟩=some (.int .i64 n.c.tr):=HF9.out.p.cell 13 rfl;have ft13:w9.frozen? ⟨w.heap.size,13,none⟩=false:=HF9.out.p.frozen 13;have t14:w9.cell? ⟨w.heap.size,14,none⟩=some (.bool n.c.op):=HF9.out.p.cell 14 rfl;have ft14:w9.frozen? ⟨w.heap.size,14,none⟩=false:=HF9.out.p.frozen 14;have t15:w9.cell? ⟨w.heap.size,15,none⟩=some (.int .i64 n.c.di):=HF9.out.p.cell 15 rfl;have ft15:w9.frozen? ⟨w.heap.size,15,none⟩=false:=HF9.out.p.frozen 15;have t16:w9.cell? ⟨w.heap.size,16,none⟩=some (.int .i64 n.c.wa):=HF9.out.p.cell 16 rfl;have ft16:w9.frozen? ⟨w.heap.size,16,none⟩=false:=HF9.out.p.frozen 16;have t17:w9.cell? ⟨w.heap.size,17,none⟩=some (.slice qo n.c.ts.length qc):=HF9.out.p.cell 17 rfl;have ft17:w9.frozen? ⟨w.heap.size,17,none⟩=false:=HF9.out.p.frozen 17;have t18:w9.cell? ⟨w.heap.size,18,none⟩=some (.int .i64 n.s.tr):=HF9.out.p.cell 18 rfl;have ft18:w9.frozen? ⟨w.heap.size,18,none⟩=false:=HF9.out.p.frozen 18;have t19:w9.cell? ⟨w.heap.size,19,none⟩=some (.slice zo n.s.ts.length zc):=HF9.out.p.cell 19 rfl;have ft19:w9.frozen? ⟨w.heap.size,19,none⟩=false:=HF9.out.p.frozen 19;skip))
  all_goals
   obtain⟨w10,hw10⟩:=Fe ((((((((w9.setCell ⟨w.heap.size,13,none⟩ (.int .i64 n.c.tr)).setCell ⟨w.heap.size,14,none⟩ (.bool n.c.op)).setCell ⟨w.heap.size,15,none⟩ (.int .i64 n.c.di)).setCell ⟨w.heap.size,16,none⟩ (.int .i64 n.c.wa)).setCell ⟨w.heap.size,17,none⟩ (.slice q1 n.c.ts.length q2)).setCell ⟨w.heap.size,18,none⟩ (.int .i64 n.s.tr)).setCell ⟨w.heap.size,19,none⟩ (.slice z1 n.s.ts.length z2)))
   have HF10:Hid (FS w w10 (Fk a1 a2 b1 b2 k1 k2 q1 q2 z1 z2 n)):=by rw[hw10];exact Er HF9.out _ _
   have O10:Hid (aP w10 (w.heap.size+2) (.slice a1 n.xs.length a2) (.slice b1 n.ys.length b2) (.slice k1 n.h.ks.length k2) (.slice q1 n.c.ts.length q2) (.slice z1 n.s.ts.length z2) n):=by rw[hw10];exact E0 O9.out Ff _ _ _ _ _ _ _
   rw[<-hw10];clear hw10 HF O7 HF8 O8 HF9 O9 CQ CZ p13 v13 m13 t13 ft13 p14 v14 m14 t14 ft14 p15 v15 m15 t15 ft15 p16 v16 m16 t16 ft16 p17 v17 m17 t17 ft17 p18 v18 m18 t18 ft18 p19 v19 m19 t19 ft19;go_wp2_with (first|(refine ah GO rfl _ rfl w.heap.size rfl (Fk a1 a2 b1 b2 k1 k2 q1 q2 z1 z2 n) rfl HF10.out.p ?_)|(refine ae GO rfl _ _ rfl (w.heap.size+1) (Fk a1 a2 b1 b2 k1 k2 q1 q2 z1 z2 n) aA rfl rfl rfl rfl (cP n rfl rfl rfl rfl rfl) HF10.out.r ?_;intro w19 s19 g19))
   refine bodyPost_ret (aj GO rfl _ _ (w.heap.size+1) _ rfl rfl s19) rfl ?_;exact⟨_,_,_,_,_,rfl,(O10.out.keptLt g19 Ff).mono Ff,HF10.out.b.grown g19 HF10.out.b.size (fun k e=>by cases e;omega)⟩
theorem NdR.small {n:Nd} (h:NdR n):1<=n.xs.length/\1<=n.ys.length/\1<=n.h.ks.length:=by
 obtain⟨k1,k2,k3⟩:=eH h.dk;exact⟨(bE k1).1,(bE k2).1,by rw[Hd.ok_len h.h];decide⟩
section
open Go.ChangeShapes Go.WideShapes Go.ChangeAt Go.RowKit
end
section
open Go.ChangeShapes Go.WideShapes Go.ChangeAt Go.RowKit
end
section
open Go.ChangeShapes Go.WideShapes Go.ChangeAt Go.RowKit
end
theorem cG.did {w w':World} {a b k q z a' b' k':Value} {n:Nd} {xs ys:List Int} {h':Hd} (h:cG w 0 a b k q z n) (B:iO w w') (o:aZ w' w.heap.size a' b' k' xs ys h'.ks):cG w' 0 a' b' k' q z {n with xs:=xs,ys:=ys,h:=h'}:=by
 obtain⟨⟨p1,p2,p3,p4⟩,⟨p5,p6,p7⟩,⟨p8,p9⟩,p0⟩:=mW.1 h.ap;have aq:=fun y hy=>(aN h.oq y hy).2
 have az:=fun y hy=>(aN h.oz y hy).2
 exact⟨o.1.1.mono (Nat.zero_le _),o.1.2.1.mono (Nat.zero_le _),o.2.1.mono (Nat.zero_le _),h.oq.below B,h.oz.below B,
  mW.2 ⟨⟨p1,bD (dq az o.2.1),bD (dq az o.1.2.1),bD (dq az o.1.1)⟩,⟨bD (dq aq o.2.1),bD (dq aq o.1.2.1),bD (dq aq o.1.1)⟩,⟨bD o.2.2.2,bD o.2.2.1⟩,bD o.1.2.2⟩⟩
theorem AH {w':World} {m:Nat} {a b k q z a' b' k':Value} {xs ys ks:List Int} (o:aZ w' m a' b' k' xs ys ks):∀x∈dE a' b' k' q z,x∈dE a b k q z∨m<=x:=fun x hx=>by
 rcases nV.1 hx with hx|hx|hx|hx|hx
 ·exact .inr (aN o.1.1 x hx).1
 ·exact .inr (aN o.1.2.1 x hx).1
 ·exact .inr (aN o.2.1 x hx).1
 ·exact .inl (nV.2 (.inr (.inr (.inr (.inl hx)))))
 ·exact .inl (nV.2 (.inr (.inr (.inr (.inr hx)))))
theorem nT (cs:Array Value) (off:Nat) (d w:Int):(fj cs off d w).size=cs.size:=by unfold fj;rw[Array.size_setIfInBounds,Array.size_setIfInBounds]
theorem nU {cs:Array Value} {off i:Nat} {d w:Int} (h2:i≠off+2) (h3:i≠off+3):(fj cs off d w)[i]?=cs[i]?:=by
 unfold fj;rw[gz Ff,gz Ff]
theorem Hs.cop {w:World} {g off:Nat} {t:TypeId} {cs:Array Value} {a b k q z:Value} {n:Nd} (h:Hs w g off t cs a b k q z n):CpB w g (off+13) t cs q n.c:=
 ⟨h.nb.st,by rw[h.nb.el 13 Fh];rfl,by rw[show off+13+1=off+14 by omega,h.nb.el 14 Fh];rfl,by rw[show off+13+2=off+15 by omega,h.nb.el 15 Fh];rfl,by rw[show off+13+3=off+16 by omega,h.nb.el 16 Fh];rfl,by rw[show off+13+4=off+17 by omega,h.nb.el 17 Fh];rfl,h.ow.oq,h.ow.oq.ne h.nb.st h.ty⟩
theorem iE {w w':World} {base g:Nat} {t:TypeId} {cs:Array Value} {u q:Value} {xs:List Int} (h:Own w base u xs) (s:StB w g t cs) (ty:t≠2) (T:aw w w' (g::q.ownBlock.toList)) (ap:apart u q):Own w' base u xs:=
 h.frame fun x hx=>T.block x (aN h x (by simpa[blk]using hx)).2 (fun e=>by
  rcases List.mem_cons.1 e with e|e
  ·subst e;exact h.ne s ty (by simpa using hx)
  ·exact(eK.1 ap) x (by simpa[blk]using hx) (by simpa[blk]using e))
theorem Hs.cp {w w':World} {g off:Nat} {t:TypeId} {cs:Array Value} {a b k q z:Value} {n:Nd} {c':Cp} (h:Hs w g off t cs a b k q z n) (hc:CpB w' g (off+13) t (fj cs (off+13) c'.di c'.wa) q c') (T:aw w w' (g::q.ownBlock.toList)):
  Hs w' g off t (fj cs (off+13) c'.di c'.wa) a b k q z {n with c:=c'}/\Hop w w' g off cs (fj cs (off+13) c'.di c'.wa) (dE a b k q z) (dE a b k q z):=by
 obtain⟨⟨p1,p2,p3,p4⟩,⟨p5,p6,p7⟩,⟨p8,p9⟩,p0⟩:=mW.1 h.ow.ap;refine⟨⟨⟨hc.st,by rw[nT];exact h.nb.sz,fun j hj=>?_⟩,⟨iE h.ow.oa h.nb.st h.ty T (bD p7),iE h.ow.ob h.nb.st h.ty T (bD p6),iE h.ow.ok h.nb.st h.ty T (bD p5),hc.own,iE h.ow.oz h.nb.st h.ty T p1,h.ow.ap⟩,h.ty⟩,⟨⟨nT _ _ _ _,fun i hi=>nU Ff Ff⟩,T.sub (fun x hx=>by
  rcases List.mem_cons.1 hx with e|e
  ·simp[e]
  ·exact List.mem_cons_of_mem _ (nV.2 (.inr (.inr (.inr (.inl (by simpa[blk]using e))))))),fun _ h=>.inl h⟩⟩
 by_cases e13:j=13
 ·subst e13;rw[hc.i0];rfl
 by_cases e14:j=14
 ·subst e14;rw[show off+14=off+13+1 by omega,hc.i1];rfl
 by_cases e15:j=15
 ·subst e15;rw[show off+15=off+13+2 by omega,hc.i2];rfl
 by_cases e16:j=16
 ·subst e16;rw[show off+16=off+13+3 by omega,hc.i3];rfl
 by_cases e17:j=17
 ·subst e17;rw[show off+17=off+13+4 by omega,hc.i4];rfl
 rw[nU Ff Ff,h.nb.el j hj];have e:ndA a b k q z {n with c:=c'}=(((((ndA a b k q z n).setIfInBounds 13 (.int .i64 c'.tr)).setIfInBounds 14 (.bool c'.op)).setIfInBounds 15 (.int .i64 c'.di)).setIfInBounds 16 (.int .i64 c'.wa)).setIfInBounds 17 q:=rfl;rw[e,Array.getElem?_setIfInBounds_ne Ff,Array.getElem?_setIfInBounds_ne Ff,Array.getElem?_setIfInBounds_ne Ff,Array.getElem?_setIfInBounds_ne Ff,Array.getElem?_setIfInBounds_ne Ff]
theorem Hs.kept {w w':World} {g off:Nat} {t s:TypeId} {h:Nat} {cs ds:Array Value} {a b k q z:Value} {n:Nd} (d:Hs w g off t cs a b k q z n) (r:StB w h s ds) (G:w.grownBy w' (some h)) (hg:g≠h) (ty:s≠2):Hs w' g off t cs a b k q z n:=
 ⟨⟨d.nb.st.kept G (fun e=>hg (Option.some.inj e)),d.nb.sz,d.nb.el⟩,⟨d.ow.oa.putBy r ty G,d.ow.ob.putBy r ty G,d.ow.ok.putBy r ty G,d.ow.oq.putBy r ty G,d.ow.oz.putBy r ty G,d.ow.ap⟩,d.ty⟩
theorem aZ.putT {w w':World} {base g:Nat} {a b k:Value} {xs ys ks:List Int} {s:TypeId} {ds:Array Value} (h:aZ w base a b k xs ys ks) (r:StB w g s ds) (ty:s≠2) (G:w.grownBy w' (some g)):aZ w' base a b k xs ys ks:=
 ⟨⟨h.1.1.putBy r ty G,h.1.2.1.putBy r ty G,h.1.2.2⟩,h.2.1.putBy r ty G,h.2.2⟩
theorem StB.turnedO {w w':World} {g k:Nat} {s:TypeId} {cs:Array Value} {base:Nat} {q:Value} {xs:List Int} (h:StB w k s cs) (o:Own w base q xs) (T:aw w w' (g::q.ownBlock.toList)) (hk:k≠g) (ty:s≠2):StB w' k s cs:=
 h.turned T (fun e=>by
  rcases List.mem_cons.1 e with e|e
  ·exact hk e
  ·exact o.ne h ty (by simpa using e))
theorem Hop.putNew {w w1 w2:World} {g off h:Nat} {cs cs':Array Value} {L L':List Nat} (H:Hop w w1 g off cs cs' L L') (G:w1.grownBy w2 (some h)) (hh:w.heap.size<=h):Hop w w2 g off cs cs' L L':=
 ⟨H.on,⟨G.os.trans H.tu.os,G.tape.trans H.tu.tape,G.output.trans H.tu.output,Nat.le_trans H.tu.size G.size,fun k hk hn=>(G.block k (Nat.lt_of_lt_of_le hk H.tu.size) (fun e=>by cases e;omega)).trans (H.tu.block k hk hn)⟩,H.nw⟩
theorem dz {t:TypeId} {n:Nat} (hS:IsS t n) {ops:Array Oper} {C:World->Prop} {E:Oper->Act->Option dP} {R:World->World->Prop} {Q:Act->cK->Prop} {o:Oper} {rest:List Oper} {a:Act} {G:cK} (hs:E o a=none)
  (hw:Region.wanted o (yielded ops a.tmps)=true) (x:Operand) (ho:o.op=.load t x) (g:Nat) (hx:a.eval x=.pointer (some ⟨g,0,none⟩)) (cs:Array Value) (hn:cs.size=n) (hr:∀q:Kin C,StB q.x g t cs)
  (k:m9 Tryz.prog ops C E R Q rest (a.put o.dst (.agg cs)) G):m9 Tryz.prog ops C E R Q (o::rest) a G:=by
 refine eP hs (fun K hK=>?_);rw[if_pos hw];refine⟨.agg cs,fun w hq=>?_,hK _ k⟩;obtain⟨q,rfl⟩:=hq;unfold Oper.quietAt execOp;simp only[ho,hx,Instr.loadAt,Instr.sureAddr,Sem.run_bind,Sem.run_pure,Result.andThen_ok,gV hS q.x g cs hn (hr q)];simp[Oper.quietUpon]
def oN (n:Nd):dP:=⟨fun u=>∃a b k q z,u=.agg (ndA a b k q z n),fun u w=>∃a b k q z,u=.agg (ndA a b k q z n)/\RdN w a b k q z n⟩
theorem uA {n:Nd} {u:Value} {x y:World} (hx:(oN n).F u x) (hl:dQ x y):(oN n).F u y:=by
 obtain⟨a,b,k,q,z,e,h⟩:=hx;exact⟨a,b,k,q,z,e,h.below hl⟩
theorem Bj {n:Nd} {a b k q z:Value} {w:World} (h:(oN n).F (.agg (ndA a b k q z n)) w):RdN w a b k q z n:=by
 obtain⟨a',b',k',q',z',e,h⟩:=h;have e':=congrArg (fun v=>match v with| .agg cs=>cs|_=>#[]) e;simp only[ndA]at e';have g:∀j:Nat,_:=fun j=>congrArg (fun cs:Array Value=>cs[j]?) e'
 have h2:=g 2;have h3:=g 3;have h4:=g 4;have h17:=g 17;have h19:=g 19;simp at h2 h3 h4 h17 h19;subst h2 h3 h4 h17 h19;exact h
theorem Bk {P:Program} {f:FuncId} {args:Array Value} {w:World} {n:Nd} (h:Calls P f args w fun e w'=>∃a b k q z,e=.returned (.agg (ndA a b k q z n))/\cG w' w.heap.size a b k q z n/\iO w w'):Calls P f args w (fun e w''=>∃u,e=.returned u/\(oN n).V u/\(oN n).F u w''/\dQ w w''):=
 h.mono fun _ _ ⟨a,b,k,q,z,he,o,hb⟩=>⟨_,he,⟨a,b,k,q,z,rfl⟩,⟨a,b,k,q,z,rfl,o.reads⟩,hb⟩
end Go.Proofs.YthldeiojlllkdaaGreatDoor
