/- How many of a pair's houses own, plainly. -/
import Derived.Test.YthmnmaemnihkeaaGreatDoorM32
import Derived.Test.YthmnmaemnihkeaaGreatDoorSPair2
import Derived.Test.YthmnmaemnihkeaaGreatDoorM6
import Derived.Test.YthmnmaemnihkeaaGreatDoorM16
import Derived.Test.YthmnmaemnihkeaaGreatDoorM21
namespace Go.Proofs.YthmnmaemnihkeaaGreatDoor
open Go.RowKit
theorem nodesP_no2 {ns:List Nv} (h:ns.length≠2):nodesP (nsOf ns)=false:=by
 match ns,h with
 |[],_=>rfl
 |[_],_=>rfl
 |[_,_],h=>exact absurd rfl h
 |_::_::_::_,_=>rfl
end Go.Proofs.YthmnmaemnihkeaaGreatDoor
namespace Go.Proofs.YthmnmaemnihkeaaGreatDoor
open Go.ChangeShapes Go.WideShapes Go.ChangeAt Go.RowKit
end Go.Proofs.YthmnmaemnihkeaaGreatDoor
namespace Go.Proofs.YthmnmaemnihkeaaGreatDoor
open Go.RowKit
def ownAt (a b:Int):Int:=if a=1 then 0 else if b=1 then 1 else if a=2 then 0 else if b=2 then 1 else-1
def keepN (a b:Nd):Option Nd:=if a.r.s=1 then some a else if b.r.s=1 then some b else if a.r.s=2 then some a else if b.r.s=2 then some b else none
def Nd.sto (n:Nd):Sr:=⟨n.xs,n.ys,n.h⟩
def keepS (ns:List Nd):Sr:=match ns with
 |[a,b]=>match keepN a b with
  |some n=>n.sto
  |none=>Sr.zero
 |_=>Sr.zero
def ownedP (ns:List Nd) (ms:List Mg) (es:List Ev):Sr:=if paOk ns ms es then keepS ns else Sr.zero
theorem ownAt_cases (a b:Int):ownAt a b=0∨ownAt a b=1∨ownAt a b= -1:=by
 unfold ownAt
 split
 ·exact .inl rfl
 split
 ·exact .inr (.inl rfl)
 split
 ·exact .inl rfl
 split
 ·exact .inr (.inl rfl)
 ·exact .inr (.inr rfl)
theorem keepN_is (a b:Nd):keepN a b=if ownAt a.r.s b.r.s=0 then some a else if ownAt a.r.s b.r.s=1 then some b else none:=by
 unfold keepN ownAt
 by_cases h1:a.r.s=1
 ·simp[h1]
 by_cases h2:b.r.s=1
 ·simp[h1,h2]
 by_cases h3:a.r.s=2
 ·simp[h2,h3]
 by_cases h4:b.r.s=2
 ·simp[h1,h3,h4]
 ·simp[h1,h2,h3,h4]
def stK (k:Nat):Int:=if k=0 then 1 else 2
theorem ownAt_no {a b:Int} (h1:a≠1∧b≠1) (h2:a≠2∧b≠2):ownAt a b= -1:=by simp[ownAt,h1.1,h1.2,h2.1,h2.2]
theorem ownAt_yes {a b c:Int} {k j:Nat} (hk:k<2) (hj:j<2) (h1:1≤k→a≠1∧b≠1) (h2:1≤j→a≠stK k) (hc:c=if j=0 then a else b) (e:c=stK k):ownAt a b=(j:Int):=by
 have k01:k=0∨k=1:=by omega
 have j01:j=0∨j=1:=by omega
 rcases k01 with rfl|rfl<;>rcases j01 with rfl|rfl
 ·simp[stK]at e hc;subst hc;simp[ownAt,e]
 ·simp[stK]at e hc h2;subst hc;simp[ownAt,e,h2]
 ·simp[stK]at e hc h1;subst hc;simp[ownAt,e,h1]
 ·simp[stK]at e hc h1 h2;subst hc;simp[ownAt,e,h1,h2]
theorem own_step {a b c st:Int} {j:Nat} (hc:c=if j=0 then a else b) (h:¬c=st) (h1:1≤j→a≠st):(1≤j+1→a≠st)∧(2≤j+1→b≠st):=by
 refine⟨fun _=>?_,fun h2=>?_⟩
 ·by_cases hj0:j=0
  ·rw[if_pos hj0]at hc
   rw[←hc]
   exact h
  ·exact h1 (by omega)
 ·rw[if_neg (by omega)]at hc
  rw[←hc]
  exact h
end Go.Proofs.YthmnmaemnihkeaaGreatDoor
set_option maxRecDepth 20000
set_option maxHeartbeats 2000000
namespace Go.Proofs.YthmnmaemnihkeaaGreatDoor
open Go.ChangeShapes Go.WideShapes Go.ChangeAt Go.RowKit
def put6 (w:World) (g:Nat) (a b k:Value) (h:Hd):World:=
 (((((w.setCell ⟨g,0,none⟩ a).setCell ⟨g,1,none⟩ b).setCell ⟨g,2,none⟩ k).setCell ⟨g,3,none⟩ (.int .i64 h.kd)).setCell ⟨g,4,none⟩ (.int .i64 h.ho)).setCell ⟨g,5,none⟩ (.int .i64 h.tu)
theorem put6_st {w:World} {g:Nat} {t:TypeId} {c0 c1 c2 c3 c4 c5:Value} (a b k:Value) (h:Hd) (s:StB w g t #[c0,c1,c2,c3,c4,c5]):StB (put6 w g a b k h) g t (srA a b k h):=
 (((((s.put 0 _ rfl).put 1 _ rfl).put 2 _ rfl).put 3 _ rfl).put 4 _ rfl).put 5 _ rfl
theorem put6_grown (w:World) (g:Nat) (a b k:Value) (h:Hd):w.grownBy (put6 w g a b k h) (some g):=
 (((((grownSet _ _ _ _).trans (grownSet _ _ _ _)).trans (grownSet _ _ _ _)).trans (grownSet _ _ _ _)).trans (grownSet _ _ _ _)).trans (grownSet _ _ _ _)
theorem s12copy_any (u v q:Value) (xs ys:List Int) (h:Hd) (w:World) (hu:Reads w u xs) (hv:Reads w v ys) (hq:Reads w q h.ks) (gx:xs.length≤1099511627776) (gy:ys.length≤1099511627776) (gk:h.ks.length≤1099511627776):
  Calls Tryz.prog 18 #[SRV u v q h] w fun e w'=>∃a b k,e=.returned (SRV a b k h)∧OwnR w' w.heap.size a b k xs ys h.ks∧Below w.heap.size w w':=by
 obtain⟨w1,hw1⟩:∃w1,w1=(w.alloc (.cells (srA u v q h) 34)).alloc (.cells zeR 34):=⟨_,rfl⟩
 have b1:Below w.heap.size w w1:=by rw[hw1];exact((Below.refl _ _).alloc (Nat.le_refl _) _).alloc (by simp) _
 have S1:Hid (StB w1 w.heap.size 34 (srA u v q h)∧StB w1 (w.heap.size+1) 34 zeR∧Below w.heap.size w w1∧w.heap.size+2≤w1.heap.size):=by
  have a2:=StB.new (w.alloc (.cells (srA u v q h) 34)) 34 zeR
  simp only[World.size_alloc]at a2
  exact⟨by rw[hw1];exact(StB.new w _ _).alloc _,by rw[hw1];exact a2,b1,by rw[hw1];simp⟩
 have C1:Hid (∀wx,Below w1.heap.size w1 wx→Calls Tryz.prog 44 #[.agg #[u,v]] wx fun e w'=>∃a b,e=.returned (.agg #[a,b])∧OwnD w' wx.heap.size a b xs ys∧Below wx.heap.size wx w'):=fun wx e=>l3Copy_any u v xs ys wx ((hu.below b1 (Nat.le_refl _)).below e (Nat.le_refl _)) ((hv.below b1 (Nat.le_refl _)).below e (Nat.le_refl _)) gx gy
 have C2:Hid (∀wx,Below w1.heap.size w1 wx→Calls Tryz.prog 45 #[HV q h] wx fun e w'=>∃u,e=.returned (HV u h)∧Own w' wx.heap.size u h.ks∧Below wx.heap.size wx w'):=fun wx e=>s8copy_any q h wx ((hq.below b1 (Nat.le_refl _)).below e (Nat.le_refl _)) gk
 obtain⟨uo,uc,rfl⟩:=reads_form hu
 obtain⟨vo,vc,rfl⟩:=reads_form hv
 obtain⟨qo,qc,rfl⟩:=reads_form hq
 clear b1 hu hv hq gx gy gk
 have q0:∀w',Sp (w.heap.size+1) w1 w'→w'.cell? ⟨w.heap.size,0,none⟩=some (.slice uo xs.length uc):=fun w' b=>b _ _ (by simp) (S1.out.1.cell 0 rfl)
 have q1:∀w',Sp (w.heap.size+1) w1 w'→w'.cell? ⟨w.heap.size,1,none⟩=some (.slice vo ys.length vc):=fun w' b=>b _ _ (by simp) (S1.out.1.cell 1 rfl)
 have q2:∀w',Sp (w.heap.size+1) w1 w'→w'.cell? ⟨w.heap.size,2,none⟩=some (.slice qo h.ks.length qc):=fun w' b=>b _ _ (by simp) (S1.out.1.cell 2 rfl)
 have q3:∀w',Sp (w.heap.size+1) w1 w'→w'.cell? ⟨w.heap.size,3,none⟩=some (.int .i64 h.kd):=fun w' b=>b _ _ (by simp) (S1.out.1.cell 3 rfl)
 have q4:∀w',Sp (w.heap.size+1) w1 w'→w'.cell? ⟨w.heap.size,4,none⟩=some (.int .i64 h.ho):=fun w' b=>b _ _ (by simp) (S1.out.1.cell 4 rfl)
 have q5:∀w',Sp (w.heap.size+1) w1 w'→w'.cell? ⟨w.heap.size,5,none⟩=some (.int .i64 h.tu):=fun w' b=>b _ _ (by simp) (S1.out.1.cell 5 rfl)
 unfold SRV
 conv in srA=>unfold srA
 unfold HV hdA at C2
 unfold srA zeR at hw1
 go_enter Tryz.func18,Tryz.ntmps18
 go_upto_region 1 with fail
 rw[←hw1]
 clear hw1
 go_region_held3 (fun w'=>Sp (w.heap.size+1) w1 w') ((repeat'(first|with_reducible assumption|with_reducible exact Sp.refl _ _|with_reducible refine Sp.al ?_|with_reducible refine Sp.dr ?_|with_reducible refine Sp.set ?_|with_reducible refine Sp.put ?_ (by with_reducible assumption)|with_reducible refine Sp.bel ?_ (by with_reducible assumption))))
  (first
   |(go_at_call 44;refine(C1.out _ bels).mono ?_;rintro e w3 ⟨a,b,rfl,o3,b3⟩;obtain⟨ao,ac,rfl⟩:=o3.1.reads.form;obtain⟨bo,bc,rfl⟩:=o3.2.1.reads.form;have O3:Hid (OwnD w3 _ (.slice ao xs.length ac) (.slice bo ys.length bc) xs ys):=o3;clear o3)
   |(go_at_call 45;refine(C2.out _ bels).mono ?_;rintro e w4 ⟨z,rfl,o4,b4⟩;have hap:Hid (apart (.slice ao xs.length ac) z∧apart (.slice bo ys.length bc) z):=⟨apart_of O3.out.1 o4 (bl_size bels),apart_of O3.out.2.1 o4 (bl_size bels)⟩;obtain⟨zo,zc,rfl⟩:=o4.reads.form;have B4:Hid (Below w1.heap.size w1 w4):=(show Below w1.heap.size w1 w4 from bels);have O4:Hid (OwnR w4 (w.heap.size+2) (.slice ao xs.length ac) (.slice bo ys.length bc) (.slice zo h.ks.length zc) xs ys h.ks):=⟨⟨(O3.out.1.mono (Nat.le_trans S1.out.2.2.2 (bl_size bels))).below bels,(O3.out.2.1.mono (Nat.le_trans S1.out.2.2.2 (bl_size bels))).below bels,O3.out.2.2⟩,o4.mono (Nat.le_trans S1.out.2.2.2 (bl_size bels)),hap.out⟩;have R4:=S1.out.2.1.below B4.out;have r0:w4.cell? ⟨w.heap.size+1,0,none⟩=some (.slice none 0 0):=R4.cell 0 rfl;have r1:w4.cell? ⟨w.heap.size+1,1,none⟩=some (.slice none 0 0):=R4.cell 1 rfl;have r2:w4.cell? ⟨w.heap.size+1,2,none⟩=some (.slice none 0 0):=R4.cell 2 rfl;have r3:w4.cell? ⟨w.heap.size+1,3,none⟩=some (.int .i64 0):=R4.cell 3 rfl;have r4:w4.cell? ⟨w.heap.size+1,4,none⟩=some (.int .i64 0):=R4.cell 4 rfl;have r5:w4.cell? ⟨w.heap.size+1,5,none⟩=some (.int .i64 0):=R4.cell 5 rfl;have f0:=R4.frozen 0;have f1:=R4.frozen 1;have f2:=R4.frozen 2;have f3:=R4.frozen 3;have f4:=R4.frozen 4;have f5:=R4.frozen 5;clear o4))
 all_goals
  go_wp2
  have R4:StB w4 (w.heap.size+1) 34 _:=S1.out.2.1.below B4.out
  have G6:=put6_grown w4 (w.heap.size+1) (.slice ao xs.length ac) (.slice bo ys.length bc) (.slice zo h.ks.length zc) h
  refine bodyPost_ret (results_S Tryz.isR rfl _ _ (w.heap.size+1) (srA (.slice ao xs.length ac) (.slice bo ys.length bc) (.slice zo h.ks.length zc) h) rfl rfl (put6_st (.slice ao xs.length ac) (.slice bo ys.length bc) (.slice zo h.ks.length zc) h R4)) rfl ?_
  have B5:=S1.out.2.2.1.trans (B4.out.mono S1.out.2.2.1.size)
  exact⟨_,_,_,rfl,(O4.out.keptLt G6 (by omega)).mono (by omega),B5.grown G6 B5.size (fun k e=>by cases e;omega)⟩
end Go.Proofs.YthmnmaemnihkeaaGreatDoor
set_option maxRecDepth 20000
set_option maxHeartbeats 4000000
namespace Go.Proofs.YthmnmaemnihkeaaGreatDoor
open Go.ChangeShapes Go.WideShapes Go.ChangeAt Go.RowKit
theorem two_states {w:World} {u:Value} {y0 y1:Nv} (h:RdNs w u [y0,y1]):∃b off uc,u=.slice (some ⟨b,off,none⟩) 2 uc∧2≤uc∧∀j y,([y0,y1]:List Nv)[j]?=some y→∀i,i<20→w.cell? ⟨b,off+j*20+i,none⟩=y.A[i]?:=by
 obtain⟨uo,uc,rfl⟩:=h.form
 obtain⟨-,hnc, -,hc⟩:=h.el
 obtain⟨b,off, -, -,rfl, -, -⟩:=hc 0 (by show 0<2;decide)
 refine⟨b,off,uc,rfl,hnc,fun j y hj i hi=>?_⟩
 have hjl:j<2:=(List.getElem?_eq_some_iff.1 hj).1
 obtain⟨b',off',x',hx',e', -,hc'⟩:=hc j hjl
 cases e'
 rw[hj]at hx'
 cases hx'
 exact hc' i hi
theorem state_at {y0 y1 y:Nv} {j:Nat} (hy:([y0,y1]:List Nv)[j]?=some y):y.n.r.s=if j=0 then y0.n.r.s else y1.n.r.s:=by
 match j,hy with
 |0,hy=>cases hy;rfl
 |1,hy=>cases hy;rfl
theorem own_next {a b st:Int} {k:Nat} (hk:k<2) (h:1≤k→a≠1∧b≠1) (h1:a≠st) (h2:b≠st) (e:st=stK k):(1≤k+1→a≠1∧b≠1)∧(2≤k+1→a≠2∧b≠2):=by
 have k01:k=0∨k=1:=by omega
 rcases k01 with rfl|rfl
 ·have e':st=1:=e
  rw[e']at h1 h2
  exact⟨fun _=>⟨h1,h2⟩,fun h'=>absurd h' (by decide)⟩
 ·have e':st=2:=e
  rw[e']at h1 h2
  exact⟨fun _=>h (by decide),fun _=>⟨h1,h2⟩⟩
theorem sl18Owned_any (u v x:Value) (y0 y1:Nv) (ps:List (Value×Mg)) (es:List Ev) (w:World) (hr:RdPr w u v x [y0,y1] ps es):
  Calls Tryz.prog 17 #[PrV u v x] w fun r w'=>r=.returned (.int .i64 (ownAt y0.n.r.s y1.n.r.s))∧Below w.heap.size w w':=by
 obtain⟨b,off,uc,rfl,huc, -⟩:=two_states hr.rn
 have HC:Hid (∀wx,Below w.heap.size w wx→∀j y,([y0,y1]:List Nv)[j]?=some y→∀i,i<20→wx.cell? ⟨b,off+j*20+i,none⟩=y.A[i]?):=fun wx B=>by
  obtain⟨b',off',uc',e, -,h⟩:=two_states (hr.below B).rn
  cases e
  exact h
 obtain⟨-, -,hcm, -⟩:=hr.rn.el
 unfold maxLen at hcm
 obtain⟨vo,vc,rfl⟩:=hr.rp.form
 obtain⟨xo,xc,rfl⟩:=hr.re.form
 clear hr
 obtain⟨s0,hs0⟩:∃s,s=y0.n.r.s:=⟨_,rfl⟩
 obtain⟨s1,hs1⟩:∃s,s=y1.n.r.s:=⟨_,rfl⟩
 have HSt:Hid (y0.n.r.s=s0∧y1.n.r.s=s1):=⟨hs0.symm,hs1.symm⟩
 rw[←hs0,←hs1]
 clear hs0 hs1
 obtain⟨t,ht⟩:∃t,t=ownAt s0 s1:=⟨_,rfl⟩
 have HT:Hid (t=ownAt s0 s1):=ht
 rw[←ht]
 clear ht
 obtain⟨w2,hw2⟩:∃w2,w2=(w.alloc (.cells (prA (.slice (some ⟨b,off,none⟩) 2 uc) (.slice vo ps.length vc) (.slice xo es.length xc)) 40)).alloc (.cells #[.int .i64 1,.int .i64 2] 2):=⟨_,rfl⟩
 have HB:Hid (w2.cell? ⟨w.heap.size,0,none⟩=some (.slice (some ⟨b,off,none⟩) 2 uc)∧(∀k:Nat,k<2→w2.cell? ⟨w.heap.size+1,k,none⟩=some (.int .i64 (stK k)))∧Below w.heap.size w w2):=by
  have s0:=(StB.new w 40 (prA (.slice (some ⟨b,off,none⟩) 2 uc) (.slice vo ps.length vc) (.slice xo es.length xc))).alloc (.cells #[.int .i64 1,.int .i64 2] 2)
  have s1:=StB.new (w.alloc (.cells (prA (.slice (some ⟨b,off,none⟩) 2 uc) (.slice vo ps.length vc) (.slice xo es.length xc)) 40)) 2 #[.int .i64 1,.int .i64 2]
  rw[World.size_alloc]at s1
  rw[hw2]
  refine⟨s0.cell 0 rfl,fun k hk=>?_,((Below.refl _ _).alloc (Nat.le_refl _) _).alloc (by simp) _⟩
  have k01:k=0∨k=1:=by omega
  rcases k01 with rfl|rfl
  ·exact s1.cell 0 rfl
  ·exact s1.cell 1 rfl
 unfold prA at hw2
 unfold PrV prA
 go_enter Tryz.func17,Tryz.ntmps17
 go_upto_region 2 with fail
 rw[←hw2]
 clear hw2
 go_loopw [8] (fun i wr=>∃k:Nat,k≤2∧i=.int .i64 k∧Hid ((1≤k→s0≠1∧s1≠1)∧(2≤k→s0≠2∧s1≠2)∧wr=w2)) (fun i _=>2-(intOf i).toNat)
 case atStart=>exact⟨0,by decide,rfl,fun h=>absurd h (by decide),fun h=>absurd h (by decide),rfl⟩
 case round=>
  obtain⟨k,hk,rfl,HI⟩:=hrel
  have hwr:=HI.out.2.2
  subst hwr
  by_cases hlt:(k:Int)<2
  ·have hk2:k<2:=by omega
   have HKn:Hid (k<2):=hk2
   have HJ:Hid ((1≤k→s0≠1∧s1≠1)∧(2≤k→s0≠2∧s1≠2)):=⟨HI.out.1,HI.out.2.1⟩
   obtain⟨st,hst⟩:∃st,st=stK k:=⟨_,rfl⟩
   have HST:Hid (st=stK k):=hst
   have pk:wr.cell? ⟨w.heap.size+1,k,none⟩=some (.int .i64 st):=by rw[hst];exact HB.out.2.1 k hk2
   clear HI hst hk2
   go_wp2
   go_loopw [5] (fun i wq=>∃j:Nat,j≤2∧i=.int .i64 j∧Hid ((1≤j→s0≠st)∧(2≤j→s1≠st)∧wq=wr)) (fun i _=>2-(intOf i).toNat)
   case atStart=>exact⟨0,by decide,rfl,fun h=>absurd h (by decide),fun h=>absurd h (by decide),rfl⟩
   case round=>
    obtain⟨j,hj,rfl,HL⟩:=hrel
    have hwq:=HL.out.2.2
    subst hwq
    by_cases hlj:(j:Int)<2
    ·have hj2:j<2:=by omega
     have HJn:Hid (j<2):=hj2
     obtain⟨y,hy⟩:∃y,([y0,y1]:List Nv)[j]?=some y:=⟨_,List.getElem?_eq_getElem (by show j<2;exact hj2)⟩
     obtain⟨sj,hsj⟩:∃s,s=y.n.r.s:=⟨_,rfl⟩
     have HSJ:Hid (sj=if j=0 then s0 else s1):=by rw[Hid,hsj,state_at hy,HSt.out.1,HSt.out.2]
     have p10:wr.cell? ⟨b,off+j*20+10,none⟩=some (.int .i64 sj):=by rw[hsj];exact HC.out wr HB.out.2.2 j y hy 10 (by decide)
     have p0:=HB.out.1
     clear hy hsj hj2
     by_cases h:sj=st
     ·have HZ:Hid (t=(j:Int)):=by rw[Hid,HT.out];exact ownAt_yes HKn.out HJn.out HJ.out.1 (by rw[←HST.out];exact HL.out.1) HSJ.out (h.trans HST.out)
      subst h
      go_wp2
      go_ret
      rw[HZ.out]
      exact⟨rfl,HB.out.2.2⟩
     ·have HZ:Hid ((1≤j+1→s0≠st)∧(2≤j+1→s1≠st)):=by
       have e:=HSJ.out
       refine⟨fun _=>?_,fun h2=>?_⟩
       ·by_cases hj0:j=0
        ·rw[if_pos hj0]at e
         rw[←e]
         exact h
        ·exact HL.out.1 (by omega)
       ·rw[if_neg (by omega)]at e
        rw[←e]
        exact h
      go_wp2
      go_roundw
      case rel=>exact⟨j+1,by omega,by go_num,HZ.out.1,HZ.out.2,trivial⟩
      case measure=>simp[intOf];omega
    ·have HZ:Hid ((1≤k+1→s0≠1∧s1≠1)∧(2≤k+1→s0≠2∧s1≠2)):=own_next HKn.out HJ.out.1 (HL.out.1 (by omega)) (HL.out.2.1 (by omega)) HST.out
     go_wp2
     go_roundw
     case rel=>exact⟨k+1,by omega,by go_num,HZ.out.1,HZ.out.2,trivial⟩
     case measure=>simp[intOf];omega
  ·have HZ:Hid (t= -1):=by rw[Hid,HT.out];exact ownAt_no (HI.out.1 (by omega)) (HI.out.2.1 (by omega))
   go_wp2
   go_ret
   rw[HZ.out]
   exact⟨rfl,HB.out.2.2⟩
end Go.Proofs.YthmnmaemnihkeaaGreatDoor
set_option maxRecDepth 20000
set_option maxHeartbeats 1000000
namespace Go.Proofs.YthmnmaemnihkeaaGreatDoor
open Go.ChangeShapes Go.WideShapes Go.ChangeAt Go.RowKit
theorem eqStore_any (u v q a b k:Value) (xs ys:List Int) (h:Hd) (w:World) (hu:Reads w u xs) (hv:Reads w v ys) (hq:Reads w q h.ks) (ha:Reads w a xs) (hb:Reads w b ys) (hk:Reads w k h.ks) (gx:xs.length≤1099511627776) (gy:ys.length≤1099511627776) (gk:h.ks.length≤1099511627776):
  Calls Tryz.prog 8 #[SRV u v q h,SRV a b k h] w fun e w'=>e=.returned (.bool true)∧Below w.heap.size w w':=by
 obtain⟨w1,hw1⟩:∃w1,w1=(w.alloc (.cells (srA u v q h) 34)).alloc (.cells (srA a b k h) 34):=⟨_,rfl⟩
 have b1:Below w.heap.size w w1:=by rw[hw1];exact((Below.refl _ _).alloc (Nat.le_refl _) _).alloc (by simp) _
 have S1:Hid (StB w1 w.heap.size 34 (srA u v q h)∧StB w1 (w.heap.size+1) 34 (srA a b k h)∧Below w.heap.size w w1):=by
  have a2:=StB.new (w.alloc (.cells (srA u v q h) 34)) 34 (srA a b k h)
  simp only[World.size_alloc]at a2
  exact⟨by rw[hw1];exact(StB.new w _ _).alloc _,by rw[hw1];exact a2,b1⟩
 have c1:=eqDisk_any u v a b xs ys w1 (hu.below b1 (Nat.le_refl _)) (hv.below b1 (Nat.le_refl _)) (ha.below b1 (Nat.le_refl _)) (hb.below b1 (Nat.le_refl _)) gx gy
 have c2:Hid (∀wx,Below w.heap.size w wx→Calls Tryz.prog 27 #[HV q h,HV k h] wx fun e w'=>e=.returned (.bool true)∧Below wx.heap.size wx w'):=fun wx e=>eqHolding_any q k h wx (hq.below e (Nat.le_refl _)) (hk.below e (Nat.le_refl _)) gk
 obtain⟨uo,uc,rfl⟩:=reads_form hu
 obtain⟨vo,vc,rfl⟩:=reads_form hv
 obtain⟨qo,qc,rfl⟩:=reads_form hq
 obtain⟨ao,ac,rfl⟩:=reads_form ha
 obtain⟨bo,bc,rfl⟩:=reads_form hb
 obtain⟨ko,kc,rfl⟩:=reads_form hk
 clear b1 hu hv hq ha hb hk gx gy gk
 unfold SRV srA at*
 unfold HV hdA at c2
 go_enter Tryz.func8,Tryz.ntmps8
 go_upto_region 1 with fail
 rw[←hw1]
 clear hw1
 have k0:=S1.out.1.cell 0 rfl
 have k1:=S1.out.1.cell 1 rfl
 have l0:=S1.out.2.1.cell 0 rfl
 have l1:=S1.out.2.1.cell 1 rfl
 go_wp2_with fail
 refine c1.mono ?_
 rintro e w2 ⟨rfl,b2⟩
 have S2:Hid (StB w2 w.heap.size 34 _∧StB w2 (w.heap.size+1) 34 _∧Below w.heap.size w w2):=⟨S1.out.1.below b2,S1.out.2.1.below b2,S1.out.2.2.trans (b2.mono S1.out.2.2.size)⟩
 clear S1 c1 b2 k0 k1 l0 l1
 have k2:=S2.out.1.cell 2 rfl
 have k3:=S2.out.1.cell 3 rfl
 have k4:=S2.out.1.cell 4 rfl
 have k5:=S2.out.1.cell 5 rfl
 have l2:=S2.out.2.1.cell 2 rfl
 have l3:=S2.out.2.1.cell 3 rfl
 have l4:=S2.out.2.1.cell 4 rfl
 have l5:=S2.out.2.1.cell 5 rfl
 go_wp2_with fail
 refine(c2.out w2 S2.out.2.2).mono ?_
 rintro e w3 ⟨rfl,b3⟩
 have B3:Hid (Below w.heap.size w w3):=S2.out.2.2.trans (b3.mono S2.out.2.2.size)
 clear S2 c2 b3 k2 k3 k4 k5 l2 l3 l4 l5
 go_wp2
 go_ret
 exact⟨rfl,B3.out⟩
def Marked3 (w w':World) (u v q:Value):Prop:=∃w1,Marked w w1 u v∧w1.grownBy w' q.ownBlock
theorem markStore_any (u v q:Value) (xs ys:List Int) (h:Hd) (k:Int) (w:World) (base:Nat) (ho:OwnR w base u v q xs ys h.ks) (gx:xs.length≤1048576) (gy:ys.length≤1048576) (gk:h.ks.length≤1048576) (h0:0≤k) (h1:k+xs.length+ys.length≤4194304) (h2:k≤1048576):
  Calls Tryz.prog 11 #[SRV u v q h,.int .i64 k] w fun e w'=>e=.returned (.int .i64 (k+xs.length+ys.length+h.ks.length))∧OwnR w' base u v q (marks k xs.length) (marks (k+xs.length) ys.length) (marks (k+xs.length+ys.length) h.ks.length)∧Marked3 w w' u v q:=by
 obtain⟨w1,hw1⟩:∃w1,w1=w.alloc (.cells (srA u v q h) 34):=⟨_,rfl⟩
 have b1:Below w.heap.size w w1:=by rw[hw1];exact(Below.refl _ _).alloc (Nat.le_refl _) _
 have S1:Hid (StB w1 w.heap.size 34 (srA u v q h)):=by rw[hw1];exact StB.new _ _ _
 have O1:Hid (OwnR w1 base u v q xs ys h.ks∧(∀row,w.grownBy w1 row)∧(∀j,(u.ownBlock=some j→j<w.heap.size)∧(v.ownBlock=some j→j<w.heap.size)∧(q.ownBlock=some j→j<w.heap.size))):=
  ⟨ho.below b1,fun row=>by rw[hw1];exact grown_alloc w _ _,fun j=>⟨fun e=>(ho.1.1.lt _ e).2,fun e=>(ho.1.2.1.lt _ e).2,fun e=>(ho.2.1.lt _ e).2⟩⟩
 have c1:=markDisk_any u v xs ys k w1 base O1.out.1.1 gx gy h0 (by omega)
 obtain⟨uo,uc,rfl⟩:=reads_form ho.1.1.reads
 obtain⟨vo,vc,rfl⟩:=reads_form ho.1.2.1.reads
 obtain⟨qo,qc,rfl⟩:=reads_form ho.2.1.reads
 have hm:Hid (k+xs.length+ys.length≤4194304∧0≤k∧h.ks.length≤1048576):=⟨h1,h0,gk⟩
 clear ho b1 gx gy gk h0 h1 h2
 unfold SRV srA at*
 go_enter Tryz.func11,Tryz.ntmps11
 go_upto_region 1 with fail
 rw[←hw1]
 clear hw1
 have k0:=S1.out.cell 0 rfl
 have k1:=S1.out.cell 1 rfl
 go_wp2_with fail
 refine c1.mono ?_
 rintro e w2 ⟨rfl,o2,g2⟩
 have S2:Hid (StB w2 w.heap.size 34 #[.slice uo xs.length uc,.slice vo ys.length vc,.slice qo h.ks.length qc,.int .i64 h.kd,.int .i64 h.ho,.int .i64 h.tu]):=by
  obtain⟨wa,ga,gb⟩:=g2
  exact(S1.out.kept ga (by intro e;have:=(O1.out.2.2 _).1 e.symm;omega)).kept gb (by intro e;have:=(O1.out.2.2 _).2.1 e.symm;omega)
 have q2:Hid (Own w2 base (.slice qo h.ks.length qc) h.ks):=O1.out.1.2.1.marked g2 O1.out.1.2.2.1.2 O1.out.1.2.2.2.2
 have M2:Hid (Marked w w2 (.slice uo xs.length uc) (.slice vo ys.length vc)):=by
  obtain⟨wa,ga,gb⟩:=g2
  exact⟨wa,(O1.out.2.1 _).trans ga,gb⟩
 have O2:Hid (OwnD w2 base (.slice uo xs.length uc) (.slice vo ys.length vc) (marks k xs.length) (marks (k+xs.length) ys.length)):=o2
 have A2:Hid (apart (.slice uo xs.length uc) (.slice qo h.ks.length qc)∧apart (.slice vo ys.length vc) (.slice qo h.ks.length qc)):=O1.out.1.2.2
 have c2:=markHolding_any (.slice qo h.ks.length qc) h (k+xs.length+ys.length) w2 base q2.out hm.out.2.2 (by have:=hm.out;omega) (by have:=hm.out;omega)
 unfold HV hdA at c2
 clear o2 g2 c1 k0 k1 S1 O1 q2
 have k2:=S2.out.cell 2 rfl
 have k3:=S2.out.cell 3 rfl
 have k4:=S2.out.cell 4 rfl
 have k5:=S2.out.cell 5 rfl
 clear S2
 go_wp2_with fail
 refine c2.mono ?_
 rintro e w3 ⟨rfl,o3,g3⟩
 have HC:Hid (OwnR w3 base (.slice uo xs.length uc) (.slice vo ys.length vc) (.slice qo h.ks.length qc) (marks k xs.length) (marks (k+xs.length) ys.length) (marks (k+xs.length+ys.length) h.ks.length)∧Marked3 w w3 (.slice uo xs.length uc) (.slice vo ys.length vc) (.slice qo h.ks.length qc)):=
  ⟨⟨⟨O2.out.1.kept g3 A2.out.1.1,O2.out.2.1.kept g3 A2.out.2.1,O2.out.2.2⟩,o3,A2.out⟩,w2,M2.out,g3⟩
 clear o3 g3 M2 O2 A2 c2 k2 k3 k4 k5
 go_wp2
 go_ret
 exact⟨rfl,HC.out⟩
theorem heldStore_any (u v q:Value) (h:Hd) (n m r:Nat) (k:Int) (w:World) (hr:r=h.ks.length) (hu:Reads w u (marks k n)) (hv:Reads w v (marks (k+n) m)) (hq:Reads w q (marks (k+n+m) r)) (gx:n≤1048576) (gy:m≤1048576) (gk:r≤1048576) (h0:0≤k) (h1:k+n+m≤4194304) (h2:k≤1048576):
  Calls Tryz.prog 12 #[SRV u v q h,.int .i64 k] w fun e w'=>e=.returned (.int .i64 (k+n+m+r))∧Below w.heap.size w w':=by
 have b1:Hid (Below w.heap.size w (w.alloc (.cells (srA u v q h) 34))):=(Below.refl _ _).alloc (Nat.le_refl _) _
 have S1:Hid (StB (w.alloc (.cells (srA u v q h) 34)) w.heap.size 34 (srA u v q h)):=StB.new _ _ _
 have c1:=heldDisk_any u v n m k _ (hu.below b1.out (Nat.le_refl _)) (hv.below b1.out (Nat.le_refl _)) gx gy h0 (by omega)
 have c2:Hid (∀wx,Below w.heap.size w wx→Calls Tryz.prog 37 #[HV q h,.int .i64 (k+n+m)] wx fun e w'=>e=.returned (.int .i64 (k+n+m+r))∧Below wx.heap.size wx w'):=fun wx b=>heldHolding_any q h r (k+n+m) wx hr (hq.below b (Nat.le_refl _)) gk (by omega) (by omega)
 have hp:(0:Int)≤k+n+m:=by omega
 have hp2:(0:Int)≤k+n+m+r:=by omega
 obtain⟨uo,uc,rfl⟩:=reads_form hu
 obtain⟨vo,vc,rfl⟩:=reads_form hv
 obtain⟨qo,qc,rfl⟩:=reads_form hq
 obtain⟨K,hK⟩:∃K:Int,K=k+n+m:=⟨_,rfl⟩
 rw[←hK]at b1 S1 c1 c2 hp hp2⊢
 obtain⟨R,hR⟩:∃R:Int,R=K+r:=⟨_,rfl⟩
 rw[←hR]at c2 hp2⊢
 clear hu hv hq hr gx gy gk h0 h1 h2 hK hR
 unfold SRV srA at*
 unfold HV hdA at c2
 go_enter Tryz.func12,Tryz.ntmps12
 go_wp2_with fail
 refine c1.mono ?_
 rintro e w2 ⟨rfl,b2⟩
 have B2:Hid (Below w.heap.size w w2):=b1.out.trans (b2.mono b1.out.size)
 have S2:=S1.out.below b2
 have k2:=S2.cell 2 rfl
 have k3:=S2.cell 3 rfl
 have k4:=S2.cell 4 rfl
 have k5:=S2.cell 5 rfl
 clear b2 c1 b1 S1 S2
 go_wp2_with fail
 refine(c2.out _ B2.out).mono ?_
 rintro e w3 ⟨rfl,b3⟩
 have B3:Hid (Below w.heap.size w w3):=B2.out.trans (b3.mono B2.out.size)
 clear b3 k2 k3 k4 k5 c2
 go_wp2
 go_ret
 exact⟨rfl,B3.out⟩
end Go.Proofs.YthmnmaemnihkeaaGreatDoor
