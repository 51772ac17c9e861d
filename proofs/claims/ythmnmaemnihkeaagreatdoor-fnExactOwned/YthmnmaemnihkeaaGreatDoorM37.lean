/- Who has a pair's store, by the program: keeperOf, Owned. -/
import Derived.Test.YthmnmaemnihkeaaGreatDoorM36
import Derived.Test.YthmnmaemnihkeaaGreatDoorM35
import Derived.Test.YthmnmaemnihkeaaGreatDoorM23
import Derived.Test.YthmnmaemnihkeaaGreatDoorM14
import Derived.Test.YthmnmaemnihkeaaGreatDoorM29
import Derived.Test.YthmnmaemnihkeaaGreatDoorM33
import Derived.Test.YthmnmaemnihkeaaGreatDoorM6
import Derived.Test.YthmnmaemnihkeaaGreatDoorM7
import Derived.Test.YthmnmaemnihkeaaGreatDoorM16
import Derived.Test.YthmnmaemnihkeaaGreatDoorM27
import Derived.LaidMore
import Derived.Stop.Joined
import Derived.Stop.LaidErr
import Derived.Lib.LaidTab
import Derived.ProofKit
set_option maxRecDepth 20000
set_option maxHeartbeats 8000000
namespace Go.Proofs.YthmnmaemnihkeaaGreatDoor
open Go.ChangeShapes Go.WideShapes Go.ChangeAt Go.RowKit
theorem idx20 (w:World):(Instr.index 108 (.agg #[.int .i64 1,.int .i64 2]) (.int .i64 0)).run Tryz.prog w=.ok (.int .i64 1) w:=by kernel_rfl
theorem idx21 (w:World):(Instr.index 108 (.agg #[.int .i64 1,.int .i64 2]) (.int .i64 1)).run Tryz.prog w=.ok (.int .i64 2) w:=by kernel_rfl
def keepA (k:Int) (y0 y1:Nv):Array Value:=if k=0 then y0.A else if k=1 then y1.A else zeroNd
def keepB (k:Int):Bool:=decide (k=0∨k=1)
theorem keepA_at {k:Int} {y0 y1 y:Nv} {j:Nat} (e:k=(j:Int)) (hy:([y0,y1]:List Nv)[j]?=some y):keepA k y0 y1=y.A∧keepB k=true:=by
 subst e
 match j,hy with
 |0,hy=>cases hy;exact⟨rfl,rfl⟩
 |1,hy=>cases hy;exact⟨rfl,rfl⟩
theorem keepA_no {k:Int} {y0 y1:Nv} (e:k= -1):keepA k y0 y1=zeroNd∧keepB k=false:=by
 subst e
 exact⟨rfl,rfl⟩
theorem ikeeper_any (u:Value) (y0 y1:Nv) (w:World) (hr:RdNs w u [y0,y1]):
  Calls Tryz.prog 23 #[u] w fun e w'=>e=.returned (.tuple #[.agg (keepA (ownAt y0.n.r.s y1.n.r.s) y0 y1),.bool (keepB (ownAt y0.n.r.s y1.n.r.s))])∧Below w.heap.size w w':=by
 obtain⟨b,off,uc,rfl,huc, -⟩:=two_states hr
 have HC:Hid (∀wx,Below w.heap.size w wx→∀j y,([y0,y1]:List Nv)[j]?=some y→∀i,i<20→wx.cell? ⟨b,off+j*20+i,none⟩=y.A[i]?):=fun wx B=>by
  obtain⟨b',off',uc',e, -,h⟩:=two_states (hr.below B)
  cases e
  exact h
 have HK:Hid (∀(j:Nat) (y:Nv),([y0,y1]:List Nv)[j]?=some y→y.A.all (·.oneCell')=true):=fun j y hy=>by
  have hrk:=hr.key y (List.mem_of_getElem? hy)
  exact ndA_one y.n (reads_one (RdN.ra hrk)) (reads_one (RdN.rb hrk)) (reads_one (RdN.rk hrk)) (reads_one (RdN.rq hrk)) (reads_one (RdN.rz hrk))
 obtain⟨-, -,hcm, -⟩:=hr.el
 unfold maxLen at hcm
 obtain⟨s0,hs0⟩:∃s,s=y0.n.r.s:=⟨_,rfl⟩
 obtain⟨s1,hs1⟩:∃s,s=y1.n.r.s:=⟨_,rfl⟩
 have HSt:Hid (∀(j:Nat) (y:Nv),([y0,y1]:List Nv)[j]?=some y→y.n.r.s=if j=0 then s0 else s1):=fun j y hy=>by rw[hs0,hs1];exact state_at hy
 rw[←hs0,←hs1]
 clear hs0 hs1 hr
 obtain⟨w1,hw1⟩:∃w1,w1=w.alloc (.cells zeroNd 59):=⟨_,rfl⟩
 have HB:Hid (StB w1 w.heap.size 59 zeroNd∧Below w.heap.size w w1):=by rw[hw1];exact⟨StB.new _ _ _,(Below.refl _ _).alloc (Nat.le_refl _) _⟩
 unfold zeroNd at hw1
 obtain⟨ra,hra⟩:∃ra,ra=keepA (ownAt s0 s1) y0 y1:=⟨_,rfl⟩
 obtain⟨rb,hrb⟩:∃rb,rb=keepB (ownAt s0 s1):=⟨_,rfl⟩
 have HR:Hid (ra=keepA (ownAt s0 s1) y0 y1∧rb=keepB (ownAt s0 s1)):=⟨hra,hrb⟩
 rw[←hra,←hrb]
 clear hra hrb
 go_enter Tryz.func23,Tryz.ntmps23
 go_upto_region 1 with fail
 rw[←hw1]
 clear hw1
 go_wp2
 go_loopw [9] (fun i wr=>∃k:Nat,k≤2∧i=.int .i64 k∧Hid ((1≤k→s0≠1∧s1≠1)∧(2≤k→s0≠2∧s1≠2)∧StB wr w.heap.size 59 zeroNd∧Below w.heap.size w wr)) (fun i _=>2-(intOf i).toNat)
 case atStart=>exact⟨0,by decide,rfl,fun h=>absurd h (by decide),fun h=>absurd h (by decide),HB.out.1,HB.out.2⟩
 case round=>
  obtain⟨k,hk,rfl,HI⟩:=hrel
  by_cases hlt:(k:Int)<2
  ·have HKn:Hid (k<2):=by rw[Hid];omega
   have HJ:Hid ((1≤k→s0≠1∧s1≠1)∧(2≤k→s0≠2∧s1≠2)):=⟨HI.out.1,HI.out.2.1⟩
   have HW:Hid (StB wr w.heap.size 59 zeroNd∧Below w.heap.size w wr):=HI.out.2.2
   have k01:k=0∨k=1:=by omega
   obtain⟨st,hst⟩:∃st,st=stK k:=⟨_,rfl⟩
   have HST:Hid (st=stK k):=hst
   clear HI
   rcases k01 with hk0|hk0
   ·have hkI:((k:Nat):Int)=0:=by omega
    rw[hkI]
    clear hkI
    subst hk0
    have hst':st=1:=hst
    clear hst
    subst hst'
    have i2:=idx20 wr
    go_wp2
    clear i2
    go_loopw [14] (fun i wr=>∃j:Nat,j≤2∧i=.int .i64 j∧Hid ((1≤j→s0≠1)∧(2≤j→s1≠1)∧StB wr w.heap.size 59 zeroNd∧Below w.heap.size w wr)) (fun i _=>2-(intOf i).toNat)
    case atStart=>exact⟨0,by decide,rfl,fun h=>absurd h (by decide),fun h=>absurd h (by decide),HW.out.1,HW.out.2⟩
    case round=>
     obtain⟨j,hj,rfl,HL⟩:=hrel
     by_cases hlj:(j:Int)<2
     ·have hj2:j<2:=by omega
      have HJn:Hid (j<2):=hj2
      obtain⟨y,hy⟩:∃y,([y0,y1]:List Nv)[j]?=some y:=⟨_,List.getElem?_eq_getElem (by show j<2;exact hj2)⟩
      have HY:Hid (([y0,y1]:List Nv)[j]?=some y):=hy
      have HCy:Hid (∀i,i<20→wr.cell? ⟨b,off+j*20+i,none⟩=y.A[i]?):=HC.out wr HL.out.2.2.2 j y hy
      have hone:y.A.all (·.oneCell')=true:=HK.out j y hy
      obtain⟨sj,hsj⟩:∃s,s=y.n.r.s:=⟨_,rfl⟩
      have HSJ:Hid (sj=if j=0 then s0 else s1):=by rw[Hid,hsj];exact HSt.out j y hy
      have q5:StB (wr.alloc (.cells zeroNd 59)) wr.heap.size 59 zeroNd:=StB.new wr _ _
      clear hy
      go_upto_region 7 with(first|(refine wpList_getO Tryz.isNd rfl _ rfl b (off+j*20) rfl y.A rfl HCy.out ?_)|(refine wpList_putS Tryz.isNd rfl _ _ rfl wr.heap.size y.A zeroNd rfl rfl rfl rfl hone q5 ?_;intro w3 s3 g3))
      (try simp only[Act.put])
      have p10:w3.cell? ⟨wr.heap.size,10,none⟩=some (.int .i64 sj):=by rw[hsj];exact s3.cell 10 rfl
      have HB3:Hid (StB w3 wr.heap.size 59 y.A∧StB w3 w.heap.size 59 zeroNd∧Below w.heap.size w w3):=by
       have h1:=HL.out.2.2.1
       have h2:=HL.out.2.2.2
       have B:=((Below.refl wr.heap.size wr).alloc (Nat.le_refl _) (.cells zeroNd 59)).grown g3 (by simp) (fun k e=>by cases e;omega)
       exact⟨s3,h1.below B,h2.trans (B.mono h2.size)⟩
      clear q5 s3 g3 hsj HCy
      by_cases h:sj=1
      ·have HZ:Hid (ownAt s0 s1=(j:Int)):=ownAt_yes HKn.out HJn.out HJ.out.1 (by rw[←HST.out];exact HL.out.1) HSJ.out (h.trans HST.out)
       rw[h]at p10
       clear h
       go_wp2_with (first|(refine wpList_getS Tryz.isNd rfl _ rfl wr.heap.size rfl y.A rfl HB3.out.1 ?_)|(refine wpList_putS Tryz.isNd rfl _ _ rfl w.heap.size y.A zeroNd rfl rfl rfl rfl hone HB3.out.2.1 ?_;intro w4 s4 g4))
       refine bodyPost_ret (results_S2 Tryz.isNd rfl _ _ w.heap.size y.A (.bool true) rfl rfl rfl s4) rfl ?_
       have e:=keepA_at HZ.out HY.out
       rw[HR.out.1,HR.out.2,e.1,e.2]
       exact⟨rfl,HB3.out.2.2.grown g4 HB3.out.2.2.size (fun k e=>by cases e;omega)⟩
      ·have HZ:Hid ((1≤j+1→s0≠1)∧(2≤j+1→s1≠1)):=own_step HSJ.out h HL.out.1
       go_wp2
       go_roundw
       case rel=>exact⟨j+1,by omega,by go_num,HZ.out.1,HZ.out.2,HB3.out.2.1,HB3.out.2.2⟩
       case measure=>simp[intOf];omega
     ·have HZ:Hid ((1≤1→s0≠1∧s1≠1)∧(2≤1→s0≠2∧s1≠2)):=own_next HKn.out HJ.out.1 (HL.out.1 (by omega)) (HL.out.2.1 (by omega)) HST.out
      go_wp2
      go_roundw
      case rel=>exact⟨1,by decide,by go_num,HZ.out.1,HZ.out.2,HL.out.2.2.1,HL.out.2.2.2⟩
      case measure=>simp[intOf]
   ·have hkI:((k:Nat):Int)=1:=by omega
    rw[hkI]
    clear hkI
    subst hk0
    have hst':st=2:=hst
    clear hst
    subst hst'
    have i2:=idx21 wr
    go_wp2
    clear i2
    go_loopw [14] (fun i wr=>∃j:Nat,j≤2∧i=.int .i64 j∧Hid ((1≤j→s0≠2)∧(2≤j→s1≠2)∧StB wr w.heap.size 59 zeroNd∧Below w.heap.size w wr)) (fun i _=>2-(intOf i).toNat)
    case atStart=>exact⟨0,by decide,rfl,fun h=>absurd h (by decide),fun h=>absurd h (by decide),HW.out.1,HW.out.2⟩
    case round=>
     obtain⟨j,hj,rfl,HL⟩:=hrel
     by_cases hlj:(j:Int)<2
     ·have hj2:j<2:=by omega
      have HJn:Hid (j<2):=hj2
      obtain⟨y,hy⟩:∃y,([y0,y1]:List Nv)[j]?=some y:=⟨_,List.getElem?_eq_getElem (by show j<2;exact hj2)⟩
      have HY:Hid (([y0,y1]:List Nv)[j]?=some y):=hy
      have HCy:Hid (∀i,i<20→wr.cell? ⟨b,off+j*20+i,none⟩=y.A[i]?):=HC.out wr HL.out.2.2.2 j y hy
      have hone:y.A.all (·.oneCell')=true:=HK.out j y hy
      obtain⟨sj,hsj⟩:∃s,s=y.n.r.s:=⟨_,rfl⟩
      have HSJ:Hid (sj=if j=0 then s0 else s1):=by rw[Hid,hsj];exact HSt.out j y hy
      have q5:StB (wr.alloc (.cells zeroNd 59)) wr.heap.size 59 zeroNd:=StB.new wr _ _
      clear hy
      go_upto_region 7 with(first|(refine wpList_getO Tryz.isNd rfl _ rfl b (off+j*20) rfl y.A rfl HCy.out ?_)|(refine wpList_putS Tryz.isNd rfl _ _ rfl wr.heap.size y.A zeroNd rfl rfl rfl rfl hone q5 ?_;intro w3 s3 g3))
      (try simp only[Act.put])
      have p10:w3.cell? ⟨wr.heap.size,10,none⟩=some (.int .i64 sj):=by rw[hsj];exact s3.cell 10 rfl
      have HB3:Hid (StB w3 wr.heap.size 59 y.A∧StB w3 w.heap.size 59 zeroNd∧Below w.heap.size w w3):=by
       have h1:=HL.out.2.2.1
       have h2:=HL.out.2.2.2
       have B:=((Below.refl wr.heap.size wr).alloc (Nat.le_refl _) (.cells zeroNd 59)).grown g3 (by simp) (fun k e=>by cases e;omega)
       exact⟨s3,h1.below B,h2.trans (B.mono h2.size)⟩
      clear q5 s3 g3 hsj HCy
      by_cases h:sj=2
      ·have HZ:Hid (ownAt s0 s1=(j:Int)):=ownAt_yes HKn.out HJn.out HJ.out.1 (by rw[←HST.out];exact HL.out.1) HSJ.out (h.trans HST.out)
       rw[h]at p10
       clear h
       go_wp2_with (first|(refine wpList_getS Tryz.isNd rfl _ rfl wr.heap.size rfl y.A rfl HB3.out.1 ?_)|(refine wpList_putS Tryz.isNd rfl _ _ rfl w.heap.size y.A zeroNd rfl rfl rfl rfl hone HB3.out.2.1 ?_;intro w4 s4 g4))
       refine bodyPost_ret (results_S2 Tryz.isNd rfl _ _ w.heap.size y.A (.bool true) rfl rfl rfl s4) rfl ?_
       have e:=keepA_at HZ.out HY.out
       rw[HR.out.1,HR.out.2,e.1,e.2]
       exact⟨rfl,HB3.out.2.2.grown g4 HB3.out.2.2.size (fun k e=>by cases e;omega)⟩
      ·have HZ:Hid ((1≤j+1→s0≠2)∧(2≤j+1→s1≠2)):=own_step HSJ.out h HL.out.1
       go_wp2
       go_roundw
       case rel=>exact⟨j+1,by omega,by go_num,HZ.out.1,HZ.out.2,HB3.out.2.1,HB3.out.2.2⟩
       case measure=>simp[intOf];omega
     ·have HZ:Hid ((1≤2→s0≠1∧s1≠1)∧(2≤2→s0≠2∧s1≠2)):=own_next HKn.out HJ.out.1 (HL.out.1 (by omega)) (HL.out.2.1 (by omega)) HST.out
      go_wp2
      go_roundw
      case rel=>exact⟨2,by decide,by go_num,HZ.out.1,HZ.out.2,HL.out.2.2.1,HL.out.2.2.2⟩
      case measure=>simp[intOf]
  ·have HZ:Hid (ownAt s0 s1= -1):=ownAt_no (HI.out.1 (by omega)) (HI.out.2.1 (by omega))
   have HW:Hid (StB wr w.heap.size 59 zeroNd∧Below w.heap.size w wr):=HI.out.2.2
   go_wp2_with (refine wpList_putS Tryz.isNd rfl _ _ rfl w.heap.size zeroNd zeroNd rfl rfl rfl rfl zeroNd_one HW.out.1 ?_;intro w4 s4 g4)
   refine bodyPost_ret (results_S2 Tryz.isNd rfl _ _ w.heap.size zeroNd (.bool false) rfl rfl rfl s4) rfl ?_
   have e:=keepA_no (y0:=y0) (y1:=y1) HZ.out
   rw[HR.out.1,HR.out.2,e.1,e.2]
   exact⟨rfl,HW.out.2.grown g4 HW.out.2.size (fun k e=>by cases e;omega)⟩
theorem iOwned_any (u v x:Value) (ns:List Nv) (ps:List (Value×Mg)) (es:List Ev) (w:World) (hr:RdPr w u v x ns ps es) (hn:SmNs ns) (hp:SmP ps) (ht:Tab w):
  Calls Tryz.prog 7 #[PrV u v x] w fun e w'=>∃a b k,e=.returned (SRV a b k (ownedP (nsOf ns) (msOf ps) es).h)∧OwnR w' w.heap.size a b k (ownedP (nsOf ns) (msOf ps) es).xs (ownedP (nsOf ns) (msOf ps) es).ys (ownedP (nsOf ns) (msOf ps) es).h.ks∧Below w.heap.size w w':=by
 have CK:Hid (∀wx,Below w.heap.size w wx→Calls Tryz.prog 22 #[PrV u v x] wx fun r w'=>r=.returned (.bool (paOk (nsOf ns) (msOf ps) es))∧Below wx.heap.size wx w'):=fun wx b=>ipairok_any u v x ns ps es wx (hr.below b) hn hp (ht.below b)
 have HR:Hid (RdPr w u v x ns ps es):=hr
 have HSm:Hid (SmNs ns):=hn
 obtain⟨uo,uc,rfl⟩:=hr.rn.form
 obtain⟨vo,vc,rfl⟩:=hr.rp.form
 obtain⟨xo,xc,rfl⟩:=hr.re.form
 obtain⟨o,ho⟩:∃o,o=paOk (nsOf ns) (msOf ps) es:=⟨_,rfl⟩
 have HO:Hid (o=paOk (nsOf ns) (msOf ps) es):=ho
 obtain⟨R,hR⟩:∃R,R=ownedP (nsOf ns) (msOf ps) es:=⟨_,rfl⟩
 have HRd:Hid (R=ownedP (nsOf ns) (msOf ps) es):=hR
 rw[←hR]
 rw[←ho]at CK
 clear ho hR hr hn hp ht
 obtain⟨w1,hw1⟩:∃w1,w1=(w.alloc (.cells (prA (.slice uo ns.length uc) (.slice vo ps.length vc) (.slice xo es.length xc)) 40)).alloc (.cells zeR 34):=⟨_,rfl⟩
 have HB:Hid (Ow w w1 (.slice uo ns.length uc) (.slice vo ps.length vc) (.slice xo es.length xc)):=by rw[hw1];exact Ow.start _ _ _ _
 unfold prA zeR at hw1
 unfold PrV prA at CK
 unfold PrV
 conv in prA (.slice uo _ uc) _ _=>unfold prA
 go_enter Tryz.func7,Tryz.ntmps7
 go_upto_region 1 with fail
 rw[←hw1]
 clear hw1
 go_wp2_with (refine wpList_getS Tryz.isPr rfl _ rfl w.heap.size rfl (prA (.slice uo ns.length uc) (.slice vo ps.length vc) (.slice xo es.length xc)) rfl HB.out.p ?_)
 refine(CK.out w1 HB.out.b).mono ?_
 rintro e w2 ⟨rfl,b⟩
 replace HB:Hid (Ow w w2 (.slice uo ns.length uc) (.slice vo ps.length vc) (.slice xo es.length xc)):=HB.out.next b
 clear b CK
 cases o with
 |false=>
  have HX:Hid (R=Sr.zero):=by rw[Hid,HRd.out];exact ownedP_bad HO.out.symm
  clear HRd HO HR
  go_wp2_with (refine wpList_putS Tryz.isR rfl _ _ rfl (w.heap.size+1) zeR zeR rfl rfl rfl rfl (srA_one Hd.zero rfl rfl rfl) HB.out.r ?_;intro w5 s5 g5)
  refine bodyPost_ret (results_S Tryz.isR rfl _ _ (w.heap.size+1) _ rfl rfl s5) rfl ?_
  rw[HX.out]
  exact⟨_,_,_,rfl,OwnR.nil _ _,HB.out.b.grown g5 HB.out.b.size (fun k e=>by cases e;omega)⟩
 |true=>
  obtain⟨y0,y1,rfl,k0,k1⟩:=paOk_nd HO.out.symm
  have HOk:Hid (y0.n.ok=true∧y1.n.ok=true):=⟨k0,k1⟩
  clear k0 k1
  have HRN:Hid (RdNs w (.slice uo 2 uc) [y0,y1]):=HR.out.rn
  have CO:Hid (∀wx,Below w.heap.size w wx→Calls Tryz.prog 23 #[.slice uo 2 uc] wx fun e w'=>e=.returned (.tuple #[.agg (keepA (ownAt y0.n.r.s y1.n.r.s) y0 y1),.bool (keepB (ownAt y0.n.r.s y1.n.r.s))])∧Below wx.heap.size wx w'):=fun wx b=>ikeeper_any _ y0 y1 wx (HRN.out.below b)
  clear HR
  replace HB:Hid (Ow w w2 (.slice uo 2 uc) (.slice vo ps.length vc) (.slice xo es.length xc)):=HB
  have p0:w2.cell? ⟨w.heap.size,0,none⟩=some (.slice uo 2 uc):=HB.out.p.cell 0 rfl
  obtain⟨K,hK⟩:∃K,K=ownAt y0.n.r.s y1.n.r.s:=⟨_,rfl⟩
  have HK:Hid (K=ownAt y0.n.r.s y1.n.r.s):=hK
  rw[←hK]at CO
  clear hK
  have HKc:K=0∨K=1∨K= -1:=by rw[HK.out];exact ownAt_cases _ _
  by_cases hneg:K<0
  ·have hm:K= -1:=by omega
   have HX:Hid (R=Sr.zero):=by rw[Hid,HRd.out];exact ownedP_no (by rw[←HK.out];exact hm)
   rw[(keepA_no (y0:=y0) (y1:=y1) hm).1,(keepA_no (y0:=y0) (y1:=y1) hm).2]at CO
   clear HRd HO HRN HK HKc hm hneg HOk
   go_wp2_with fail
   refine(CO.out w2 HB.out.b).mono ?_
   rintro e w3 ⟨rfl,b⟩
   replace HB:Hid (Ow w w3 (.slice uo 2 uc) (.slice vo ps.length vc) (.slice xo es.length xc)):=HB.out.next b
   clear b CO p0
   have q5:StB (w3.alloc (.cells zeroNd 59)) w3.heap.size 59 zeroNd:=StB.new w3 _ _
   go_upto_region 4 with(refine wpList_putS Tryz.isNd rfl _ _ rfl w3.heap.size zeroNd zeroNd rfl rfl rfl rfl zeroNd_one q5 ?_;intro w4 s4 g4)
   (try simp only[Act.put])
   have B:=((Below.refl w3.heap.size w3).alloc (Nat.le_refl _) (.cells zeroNd 59)).grown g4 (by simp) (fun k e=>by cases e;omega)
   replace HB:Hid (Ow w w4 (.slice uo 2 uc) (.slice vo ps.length vc) (.slice xo es.length xc)):=HB.out.next B
   clear q5 s4 g4 B
   go_wp2_with (refine wpList_putS Tryz.isR rfl _ _ rfl (w.heap.size+1) zeR zeR rfl rfl rfl rfl (srA_one Hd.zero rfl rfl rfl) HB.out.r ?_;intro w5 s5 g5)
   refine bodyPost_ret (results_S Tryz.isR rfl _ _ (w.heap.size+1) _ rfl rfl s5) rfl ?_
   rw[HX.out]
   exact⟨_,_,_,rfl,OwnR.nil _ _,HB.out.b.grown g5 HB.out.b.size (fun k e=>by cases e;omega)⟩
  ·obtain⟨j,hj2,rfl⟩:∃j:Nat,j<2∧K=(j:Int):=by
    rcases HKc with e|e|e
    ·exact⟨0,by decide,e⟩
    ·exact⟨1,by decide,e⟩
    ·omega
   obtain⟨y,hy⟩:∃y,([y0,y1]:List Nv)[j]?=some y:=⟨_,List.getElem?_eq_getElem (by show j<2;exact hj2)⟩
   have HX:Hid (R=⟨y.n.xs,y.n.ys,y.n.h⟩):=by rw[Hid,HRd.out];exact ownedP_at HO.out.symm HK.out.symm hy
   have HSy:Hid (SmN y.n):=HSm.out.at hy
   have HRy:Hid (y.rd w):=HRN.out.key y (List.mem_of_getElem? hy)
   have HOy:Hid (y.n.ok=true):=by
    match j,hy with
    |0,hy=>cases hy;exact HOk.out.1
    |1,hy=>cases hy;exact HOk.out.2
   rw[(keepA_at rfl hy).1,(keepA_at rfl hy).2]at CO
   have hone:y.A.all (·.oneCell')=true:=ndA_one y.n (reads_one (RdN.ra HRy.out)) (reads_one (RdN.rb HRy.out)) (reads_one (RdN.rk HRy.out)) (reads_one (RdN.rq HRy.out)) (reads_one (RdN.rz HRy.out))
   clear HKc HRd HO HK HSm hy hneg hj2 HRN HOk
   go_wp2_with fail
   refine(CO.out w2 HB.out.b).mono ?_
   rintro e w3 ⟨rfl,b⟩
   replace HB:Hid (Ow w w3 (.slice uo 2 uc) (.slice vo ps.length vc) (.slice xo es.length xc)):=HB.out.next b
   clear b CO p0
   have q5:StB (w3.alloc (.cells zeroNd 59)) w3.heap.size 59 zeroNd:=StB.new w3 _ _
   go_upto_region 4 with(refine wpList_putS Tryz.isNd rfl _ _ rfl w3.heap.size y.A zeroNd rfl rfl rfl rfl hone q5 ?_;intro w4 s4 g4)
   (try simp only[Act.put])
   have B:=((Below.refl w3.heap.size w3).alloc (Nat.le_refl _) (.cells zeroNd 59)).grown g4 (by simp) (fun k e=>by cases e;omega)
   have HG:Hid (StB w4 w3.heap.size 59 y.A∧w.heap.size+2≤w3.heap.size):=⟨s4,HB.out.s⟩
   replace HB:Hid (Ow w w4 (.slice uo 2 uc) (.slice vo ps.length vc) (.slice xo es.length xc)):=HB.out.next B
   clear q5 s4 g4 B
   obtain⟨g,hg⟩:∃g,g=w3.heap.size:=⟨_,rfl⟩
   rw[←hg]at HG⊢
   clear hg
   obtain⟨ya,yb,yk,yq,yz,m⟩:=y
   have HRm:Hid (RdN w ya yb yk yq yz m):=HRy.out
   have CS:Hid (∀wx,Below w.heap.size w wx→Calls Tryz.prog 25 #[NdV ya yb yk yq yz m] wx fun e w'=>e=.returned (SRV ya yb yk m.h)∧Below wx.heap.size wx w'):=fun wx B=>istoreof_any ya yb yk yq yz m wx (HRm.out.below B)
   have CF:Hid (∀wx,Below w.heap.size w wx→Calls Tryz.prog 24 #[SRV ya yb yk m.h] wx fun e w'=>∃a b k,e=.returned (SRV a b k m.h)∧OwnR w' wx.heap.size a b k m.xs m.ys m.h.ks∧Below wx.heap.size wx w'):=fun wx B=>by
    have h:=NdR.small ((Nd.ok_iff m).1 HOy.out)
    have hl:SmN m:=HSy.out
    exact ifreshStore_any ya yb yk m.xs m.ys m.h wx (HRm.out.below B).ra (HRm.out.below B).rb (HRm.out.below B).rk h.1 h.2.1 h.2.2 (by have:=hl.la;omega) (by have:=hl.lb;omega) (by have:=hl.lk;omega)
   obtain⟨ao,ac,rfl⟩:=reads_form HRm.out.ra
   obtain⟨bo,bc,rfl⟩:=reads_form HRm.out.rb
   obtain⟨ko,kc,rfl⟩:=reads_form HRm.out.rk
   obtain⟨qo,qc,rfl⟩:=reads_form HRm.out.rq
   obtain⟨zo,zc,rfl⟩:=reads_form HRm.out.rz
   clear HRy HRm HSy HOy hone
   unfold NdV at CS
   unfold SRV srA at CS CF
   go_wp2_with (refine wpList_getS Tryz.isNd rfl _ rfl g rfl (ndA (.slice ao m.xs.length ac) (.slice bo m.ys.length bc) (.slice ko m.h.ks.length kc) (.slice qo m.c.ts.length qc) (.slice zo m.s.ts.length zc) m) rfl HG.out.1 ?_)
   refine(CS.out w4 HB.out.b).mono ?_
   rintro e w5 ⟨rfl,b⟩
   replace HB:Hid (Ow w w5 (.slice uo 2 uc) (.slice vo ps.length vc) (.slice xo es.length xc)):=HB.out.next b
   clear b CS
   go_wp2_with fail
   refine(CF.out w5 HB.out.b).mono ?_
   rintro e w6 ⟨a,b,k,rfl,o6,B6⟩
   obtain⟨a6,c6,rfl⟩:=o6.1.1.reads.form
   obtain⟨a7,c7,rfl⟩:=o6.1.2.1.reads.form
   obtain⟨a8,c8,rfl⟩:=o6.2.1.reads.form
   have O6:Hid (OwnR w6 w5.heap.size (.slice a6 m.xs.length c6) (.slice a7 m.ys.length c7) (.slice a8 m.h.ks.length c8) m.xs m.ys m.h.ks):=o6
   have H6:=HB.out.next B6
   have R6:Hid (StB w6 (w.heap.size+1) 34 zeR∧Below w.heap.size w w6∧w.heap.size+2≤w5.heap.size):=⟨H6.r,H6.b,HB.out.s⟩
   clear o6 B6 H6 CF HG HB
   go_wp2_with (refine wpList_putS Tryz.isR rfl _ _ rfl (w.heap.size+1) (srA (.slice a6 m.xs.length c6) (.slice a7 m.ys.length c7) (.slice a8 m.h.ks.length c8) m.h) zeR rfl rfl rfl rfl (srA_one m.h rfl rfl rfl) R6.out.1 ?_;intro w7 s7 g7)
   refine bodyPost_ret (results_S Tryz.isR rfl _ _ (w.heap.size+1) _ rfl rfl s7) rfl ?_
   rw[HX.out]
   exact⟨_,_,_,rfl,(O6.out.keptLt g7 (by have:=R6.out.2.2;omega)).mono (by have:=R6.out.2.2;omega),R6.out.2.1.grown g7 R6.out.2.1.size (fun k e=>by cases e;omega)⟩
end Go.Proofs.YthmnmaemnihkeaaGreatDoor
namespace Go.Proofs.YthmnmaemnihkeaaGreatDoor
open Go.ChangeShapes Go.WideShapes Go.ChangeAt Go.RowKit
theorem OwnD.bel {w w':World} {base:Nat} {u v:Value} {xs ys:List Int} (h:OwnD w base u v xs ys) (b:Below w.heap.size w w'):OwnD w' base u v xs ys:=⟨h.1.below b,h.2.1.below b,h.2.2⟩
end Go.Proofs.YthmnmaemnihkeaaGreatDoor
namespace Go.Proofs.YthmnmaemnihkeaaGreatDoor
open Go.ChangeShapes Go.WideShapes Go.ChangeAt Go.RowKit
def Sto (u v q:Value) (xs ys ks:List Int):Item:=
 ⟨u.ownBlock.toList++v.ownBlock.toList++q.ownBlock.toList,0,fun w=>OwnR w 0 u v q xs ys ks,fun _ _ e _ h=>
  ⟨⟨h.1.1.frame (fun b hb=>e b (List.mem_append_left _ (List.mem_append_left _ hb))),h.1.2.1.frame (fun b hb=>e b (List.mem_append_left _ (List.mem_append_right _ hb))),h.1.2.2⟩,h.2.1.frame (fun b hb=>e b (List.mem_append_right _ hb)),h.2.2⟩⟩
theorem Sto.in {u v q:Value} {xs ys ks:List Int} {x:Nat} (hx:x∈(Sto u v q xs ys ks).blocks):u.ownBlock=some x∨v.ownBlock=some x∨q.ownBlock=some x:=by
 simp only[Sto,List.mem_append,Option.mem_toList]at hx
 rcases hx with(hx|hx)|hx
 ·exact .inl hx
 ·exact .inr (.inl hx)
 ·exact .inr (.inr hx)
theorem Sta.store {w wx wy:World} {L:List Item} {u v q:Value} {xs ys ks:List Int} (h:Sta w wx L) (o:OwnR wy wx.heap.size u v q xs ys ks) (b:Below wx.heap.size wx wy):Sta w wy (Sto u v q xs ys ks::L):=
 h.add b (Sto u v q xs ys ks) (o.mono (Nat.zero_le _)) (fun k hk=>by
  rcases Sto.in hk with hk|hk|hk
  ·exact o.1.1.lt k hk
  ·exact o.1.2.1.lt k hk
  ·exact o.2.1.lt k hk)
theorem Marked3.turned {w w':World} {u v q:Value} (h:Marked3 w w' u v q):Turned w w' (u.ownBlock.toList++v.ownBlock.toList++q.ownBlock.toList):=by
 obtain⟨w1,m1,g2⟩:=h
 exact m1.turned.trans (Turned.of_grown g2)
theorem Sta.marked3 {w wx wy:World} {L:List Item} {u v q:Value} {xs ys ks zs ts ms:List Int} (h:Sta w wx L) (n:Nat) (e:L[n]?=some (Sto u v q xs ys ks)) (o:OwnR wy 0 u v q zs ts ms) (m:Marked3 wx wy u v q):Sta w wy (L.set n (Sto u v q zs ts ms)):=
 h.turn n e m.turned (Sto u v q zs ts ms) rfl o
theorem Sta.rA {w wx:World} {L:List Item} {u v q:Value} {xs ys ks:List Int} (h:Sta w wx L) (n:Nat) (e:L[n]?=some (Sto u v q xs ys ks)):Reads wx u xs:=(h.get n e).1.1.reads
theorem Sta.rB {w wx:World} {L:List Item} {u v q:Value} {xs ys ks:List Int} (h:Sta w wx L) (n:Nat) (e:L[n]?=some (Sto u v q xs ys ks)):Reads wx v ys:=(h.get n e).1.2.1.reads
theorem Sta.rK {w wx:World} {L:List Item} {u v q:Value} {xs ys ks:List Int} (h:Sta w wx L) (n:Nat) (e:L[n]?=some (Sto u v q xs ys ks)):Reads wx q ks:=(h.get n e).2.1.reads
theorem OwnR.inB {w:World} {base:Nat} {u v q:Value} {xs ys ks:List Int} (h:OwnR w base u v q xs ys ks) {x:Nat} (hx:x∈(Sto u v q xs ys ks).blocks):base≤x∧x<w.heap.size:=by
 rcases Sto.in hx with hx|hx|hx
 ·exact h.1.1.lt x hx
 ·exact h.1.2.1.lt x hx
 ·exact h.2.1.lt x hx
end Go.Proofs.YthmnmaemnihkeaaGreatDoor
namespace Go.Proofs.YthmnmaemnihkeaaGreatDoor
open Go.RowKit
end Go.Proofs.YthmnmaemnihkeaaGreatDoor
namespace Go.Proofs.YthmnmaemnihkeaaGreatDoor
open Go.ChangeShapes Go.WideShapes Go.ChangeAt Go.RowKit
end Go.Proofs.YthmnmaemnihkeaaGreatDoor
namespace Go.Proofs.YthmnmaemnihkeaaGreatDoor
open Go.ChangeShapes Go.WideShapes Go.ChangeAt Go.RowKit
end Go.Proofs.YthmnmaemnihkeaaGreatDoor
namespace Go.Proofs.YthmnmaemnihkeaaGreatDoor
open Go.ChangeShapes Go.WideShapes Go.ChangeAt Go.RowKit
theorem pow_is:(Rows.laid_internal_strconv_uint64pow10:DataW Unit)=Lib.tabData .u64 Lib.pow10Tab:=by kernel_rfl
theorem tab_third {W:World} {a b:String×DataW Unit} {rest:List (String×DataW Unit)} (h:laidMet Tryz.prog (a::b::("internal/strconv.uint64pow10",Rows.laid_internal_strconv_uint64pow10)::rest) W):Tab W:=by
 have h3:laidMet Tryz.prog (("internal/strconv.uint64pow10",Lib.tabData .u64 Lib.pow10Tab)::rest) W:=by
  have:=h.tail.tail
  rw[pow_is]at this
  exact this
 exact Lib.tabIs_of_head (show Tryz.prog.globalNamed "internal/strconv.uint64pow10"=some 1 by kernel_rfl) (show(Tryz.prog.globals[1]?).map (·.type)=some 213 by kernel_rfl) Tryz.underlying213 Tryz.underlying204 (by kernel_rfl) (by kernel_rfl) h3
theorem tab_fnExactOwned {W:World} (h:laidMetH Tryz.prog Rows.fnExactOwnedRow.laid W):Tab W:=by
 rw[MakeChecks.laidMetH_plain _ _ _ (by kernel_rfl)]at h
 exact tab_third h
end Go.Proofs.YthmnmaemnihkeaaGreatDoor
