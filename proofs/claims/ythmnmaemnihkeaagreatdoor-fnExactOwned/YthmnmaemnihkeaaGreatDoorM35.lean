/- Who has a pair's store, by the model, on: Owned. -/
import Derived.Test.YthmnmaemnihkeaaGreatDoorM33
import Derived.Test.YthmnmaemnihkeaaGreatDoorM25
import Derived.Test.YthmnmaemnihkeaaGreatDoorM34
import Derived.Test.YthmnmaemnihkeaaGreatDoorM9
import Derived.Test.YthmnmaemnihkeaaGreatDoorM32
import Derived.Test.YthmnmaemnihkeaaGreatDoorM21
import Derived.Test.YthmnmaemnihkeaaGreatDoorM29
import Derived.Test.YthmnmaemnihkeaaGreatDoorM17
set_option maxRecDepth 20000
set_option maxHeartbeats 8000000
namespace Go.Proofs.YthmnmaemnihkeaaGreatDoor
open Go.ChangeShapes Go.WideShapes Go.ChangeAt Go.RowKit
theorem paOk_nd {ns:List Nv} {ms:List Mg} {es:List Ev} (h:paOk (nsOf ns) ms es=true):∃y0 y1,ns=[y0,y1]∧y0.n.ok=true∧y1.n.ok=true:=by
 unfold paOk at h
 simp only[Bool.and_eq_true]at h
 match ns,h with
 |[y0,y1],h=>
  have h1:=h.1.1
  simp only[nsOf,nodesP,List.map_cons,List.map_nil,Bool.and_eq_true]at h1
  exact⟨y0,y1,rfl,h1.1.1.1.1,h1.1.1.1.2⟩
 |[],h=>exact absurd h.1.1 (by simp[nsOf,nodesP])
 |[_],h=>exact absurd h.1.1 (by simp[nsOf,nodesP])
 |_::_::_::_,h=>exact absurd h.1.1 (by simp[nsOf,nodesP])
theorem ownedP_bad {ns:List Nd} {ms:List Mg} {es:List Ev} (h:paOk ns ms es=false):ownedP ns ms es=Sr.zero:=by unfold ownedP;rw[h];rfl
theorem ownedP_no {y0 y1:Nv} {ms:List Mg} {es:List Ev} (e:ownAt y0.n.r.s y1.n.r.s= -1):ownedP (nsOf [y0,y1]) ms es=Sr.zero:=by
 unfold ownedP
 simp only[nsOf,List.map_cons,List.map_nil,keepS,keepN_is,e]
 split<;>rfl
theorem ownedP_at {y0 y1 y:Nv} {ms:List Mg} {es:List Ev} (h:paOk (nsOf [y0,y1]) ms es=true) {j:Nat} (e:ownAt y0.n.r.s y1.n.r.s=(j:Int)) (hy:([y0,y1]:List Nv)[j]?=some y):ownedP (nsOf [y0,y1]) ms es=⟨y.n.xs,y.n.ys,y.n.h⟩:=by
 unfold ownedP
 rw[h]
 simp only[nsOf,List.map_cons,List.map_nil,keepS,keepN_is,e]
 match j,hy with
 |0,hy=>cases hy;rfl
 |1,hy=>cases hy;rfl
theorem ownedP_len {ns:List Nv} {ps:List (Value×Mg)} {es:List Ev} (h:SmNs ns):(ownedP (nsOf ns) (msOf ps) es).xs.length≤1048576∧(ownedP (nsOf ns) (msOf ps) es).ys.length≤1048576∧(ownedP (nsOf ns) (msOf ps) es).h.ks.length≤1048576:=by
 cases hp:paOk (nsOf ns) (msOf ps) es with
 |false=>rw[ownedP_bad hp];simp[Sr.zero,Hd.zero]
 |true=>
  obtain⟨y0,y1,rfl, -, -⟩:=paOk_nd hp
  rcases ownAt_cases y0.n.r.s y1.n.r.s with e|e|e
  ·rw[ownedP_at hp (j:=0) e (y:=y0) rfl]
   have:=h y0 (by simp)
   exact⟨this.la,this.lb,this.lk⟩
  ·rw[ownedP_at hp (j:=1) e (y:=y1) rfl]
   have:=h y1 (by simp)
   exact⟨this.la,this.lb,this.lk⟩
  ·rw[ownedP_no e];simp[Sr.zero,Hd.zero]
structure Ow (w wx:World) (u v x:Value):Prop where
 p:StB wx w.heap.size 40 (prA u v x)
 r:StB wx (w.heap.size+1) 34 zeR
 b:Below w.heap.size w wx
 s:w.heap.size+2≤wx.heap.size
theorem Ow.next {w wx wy:World} {u v x:Value} (h:Ow w wx u v x) (b:Below wx.heap.size wx wy):Ow w wy u v x:=⟨h.p.below b,h.r.below b,h.b.trans (b.mono h.b.size),Nat.le_trans h.s b.size⟩
theorem Ow.start (w:World) (u v x:Value):Ow w ((w.alloc (.cells (prA u v x) 40)).alloc (.cells zeR 34)) u v x:=by
 have a2:=StB.new (w.alloc (.cells (prA u v x) 40)) 34 zeR
 simp only[World.size_alloc]at a2
 exact⟨(StB.new w _ _).alloc _,a2,((Below.refl _ _).alloc (Nat.le_refl _) _).alloc (by simp) _,by simp⟩
theorem isG_later {v u:Value} {x y:World} (hx:(isG v).F u x) (_:Later x y):(isG v).F u y:=hx
theorem sOwned_any (u v x:Value) (ns:List Nv) (ps:List (Value×Mg)) (es:List Ev) (w:World) (hr:RdPr w u v x ns ps es) (hn:SmNs ns) (hp:SmP ps):
  Calls Tryz.prog 5 #[PrV u v x] w fun e w'=>∃a b k,e=.returned (SRV a b k (ownedP (nsOf ns) (msOf ps) es).h)∧OwnR w' w.heap.size a b k (ownedP (nsOf ns) (msOf ps) es).xs (ownedP (nsOf ns) (msOf ps) es).ys (ownedP (nsOf ns) (msOf ps) es).h.ks∧Below w.heap.size w w':=by
 have CK:Hid (∀wx,Below w.heap.size w wx→Calls Tryz.prog 16 #[PrV u v x] wx fun r w'=>r=.returned (.bool (paOk (nsOf ns) (msOf ps) es))∧Below wx.heap.size wx w'):=fun wx b=>spairok_any u v x ns ps es wx (hr.below b) hn hp
 have HR:Hid (RdPr w u v x ns ps es):=hr
 have HSm:Hid (SmNs ns):=hn
 obtain⟨uo,uc,rfl⟩:=hr.rn.form
 obtain⟨vo,vc,rfl⟩:=hr.rp.form
 obtain⟨xo,xc,rfl⟩:=hr.re.form
 obtain⟨o,ho⟩:∃o,o=paOk (nsOf ns) (msOf ps) es:=⟨_,rfl⟩
 have HO:Hid (o=paOk (nsOf ns) (msOf ps) es):=ho
 obtain⟨R,hR⟩:∃R,R=ownedP (nsOf ns) (msOf ps) es:=⟨_,rfl⟩
 have HRd:Hid (R=ownedP (nsOf ns) (msOf ps) es):=hR
 rw[←hR]
 rw[←ho]at CK
 clear ho hR hr hn hp
 obtain⟨w1,hw1⟩:∃w1,w1=(w.alloc (.cells (prA (.slice uo ns.length uc) (.slice vo ps.length vc) (.slice xo es.length xc)) 40)).alloc (.cells zeR 34):=⟨_,rfl⟩
 have HB:Hid (Ow w w1 (.slice uo ns.length uc) (.slice vo ps.length vc) (.slice xo es.length xc)):=by rw[hw1];exact Ow.start _ _ _ _
 unfold prA zeR at hw1
 unfold PrV prA at CK
 unfold PrV
 conv in prA (.slice uo _ uc) _ _=>unfold prA
 go_enter Tryz.func5,Tryz.ntmps5
 go_upto_region 1 with fail
 rw[←hw1]
 clear hw1
 go_wp2_with (refine wpList_getS Tryz.isPr rfl _ rfl w.heap.size rfl (prA (.slice uo ns.length uc) (.slice vo ps.length vc) (.slice xo es.length xc)) rfl HB.out.p ?_)
 refine(CK.out w1 HB.out.b).mono ?_
 rintro e w2 ⟨rfl,b⟩
 replace HB:Hid (Ow w w2 (.slice uo ns.length uc) (.slice vo ps.length vc) (.slice xo es.length xc)):=HB.out.next b
 clear b CK
 cases o with
 |false=>
  have HX:Hid (R=Sr.zero):=by rw[Hid,HRd.out];exact ownedP_bad HO.out.symm
  clear HRd HO HR
  go_wp2_with (refine wpList_putS Tryz.isR rfl _ _ rfl (w.heap.size+1) zeR zeR rfl rfl rfl rfl (srA_one Hd.zero rfl rfl rfl) HB.out.r ?_;intro w5 s5 g5)
  refine bodyPost_ret (results_S Tryz.isR rfl _ _ (w.heap.size+1) _ rfl rfl s5) rfl ?_
  rw[HX.out]
  exact⟨_,_,_,rfl,OwnR.nil _ _,HB.out.b.grown g5 HB.out.b.size (fun k e=>by cases e;omega)⟩
 |true=>
  obtain⟨y0,y1,rfl, -, -⟩:=paOk_nd HO.out.symm
  have CO:Hid (∀wx,Below w.heap.size w wx→Calls Tryz.prog 17 #[PrV (.slice uo 2 uc) (.slice vo ps.length vc) (.slice xo es.length xc)] wx fun r w'=>r=.returned (.int .i64 (ownAt y0.n.r.s y1.n.r.s))∧Below wx.heap.size wx w'):=fun wx b=>sl18Owned_any _ _ _ y0 y1 ps es wx (HR.out.below b)
  have HRN:Hid (RdNs w (.slice uo 2 uc) [y0,y1]):=HR.out.rn
  clear HR
  replace HB:Hid (Ow w w2 (.slice uo 2 uc) (.slice vo ps.length vc) (.slice xo es.length xc)):=HB
  obtain⟨K,hK⟩:∃K,K=ownAt y0.n.r.s y1.n.r.s:=⟨_,rfl⟩
  have HK:Hid (K=ownAt y0.n.r.s y1.n.r.s):=hK
  rw[←hK]at CO
  clear hK
  unfold PrV prA at CO
  go_wp2_with (refine wpList_getSG Tryz.isPr rfl _ rfl w.heap.size rfl (prA (.slice uo 2 uc) (.slice vo ps.length vc) (.slice xo es.length xc)) rfl HB.out.p ?_)
  refine(CO.out w2 HB.out.b).mono ?_
  rintro e w3 ⟨rfl,b⟩
  replace HB:Hid (Ow w w3 (.slice uo 2 uc) (.slice vo ps.length vc) (.slice xo es.length xc)):=HB.out.next b
  clear b
  have HKc:Hid (K=0∨K=1∨K= -1):=by rw[Hid,HK.out];exact ownAt_cases _ _
  by_cases hneg:K<0
  ·have HX:Hid (R=Sr.zero):=by rw[Hid,HRd.out];exact ownedP_no (by rw[←HK.out];have:=HKc.out;omega)
   clear HRd HO HRN HK HKc CO
   go_wp2_with (refine wpList_putS Tryz.isR rfl _ _ rfl (w.heap.size+1) zeR zeR rfl rfl rfl rfl (srA_one Hd.zero rfl rfl rfl) HB.out.r ?_;intro w5 s5 g5)
   refine bodyPost_ret (results_S Tryz.isR rfl _ _ (w.heap.size+1) _ rfl rfl s5) rfl ?_
   rw[HX.out]
   exact⟨_,_,_,rfl,OwnR.nil _ _,HB.out.b.grown g5 HB.out.b.size (fun k e=>by cases e;omega)⟩
  ·obtain⟨j,hj2,rfl⟩:∃j:Nat,j<2∧K=(j:Int):=by
    rcases HKc.out with e|e|e
    ·exact⟨0,by decide,e⟩
    ·exact⟨1,by decide,e⟩
    ·omega
   obtain⟨y,hy⟩:∃y,([y0,y1]:List Nv)[j]?=some y:=⟨_,List.getElem?_eq_getElem (by show j<2;exact hj2)⟩
   have HX:Hid (R=⟨y.n.xs,y.n.ys,y.n.h⟩):=by rw[Hid,HRd.out];exact ownedP_at HO.out.symm HK.out.symm hy
   have HJ:Hid (j<2∧([y0,y1]:List Nv)[j]?=some y):=⟨hj2,hy⟩
   have HSy:Hid (SmN y.n):=HSm.out.at hy
   clear HKc HRd HO HK HSm hy
   obtain⟨b0,off,uc',e0, -,hcell⟩:=two_states HRN.out
   cases e0
   have HC:Hid (∀wx,Below w.heap.size w wx→∀i,i<20→wx.cell? ⟨b0,off+j*20+i,none⟩=y.A[i]?):=fun wx B=>by
    obtain⟨b',off',uc',e, -,h⟩:=two_states (HRN.out.below B)
    cases e
    exact h j y HJ.out.2
   have HRy:Hid (y.rd w):=HRN.out.key y (List.mem_of_getElem? HJ.out.2)
   clear hcell HRN
   go_upto_region 3 with fail
   obtain⟨C,hCd⟩:∃C,C=fun x=>Ow w x (.slice (some ⟨b0,off,none⟩) 2 uc) (.slice vo ps.length vc) (.slice xo es.length xc):=⟨_,rfl⟩
   have HQ:Hid (∀x,C x→Ow w x (.slice (some ⟨b0,off,none⟩) 2 uc) (.slice vo ps.length vc) (.slice xo es.length xc)):=by rw[hCd];exact fun _ h=>h
   have HN:Hid (∀x y,C x→Later x y→C y):=by rw[hCd];exact fun _ _ h b=>h.next b
   have H0:Hid (C w3.drew):=by rw[hCd];exact HB.out.next (Below.refl _ _).drew
   have hne:Nonempty (Kin C):=⟨⟨_,H0.out⟩⟩
   have m0:∀q:Kin C,q.x.cell? ⟨w.heap.size,0,none⟩=some (.slice (some ⟨b0,off,none⟩) 2 uc):=fun q=>(HQ.out _ q.h).p.cell 0 rfl
   have hji:(j:Int)<(2:Int):=by omega
   have hjz:(0:Int)≤(j:Int):=by omega
   clear hCd
   refine wp_region_gs_last (C:=C) (E:=byDst fun d=>if d=16 then some (isG (.int .i64 j))else if d=3 then some (alG (w.heap.size+2) 59 zeroNd)else none) (R:=Later) HN.out (byDst_later (by intro d s hs u x y hx hl;split at hs;(cases hs;exact isG_later hx hl);split at hs;(cases hs;exact alG_later hx hl);cases hs)) (byDst_looks _ _) (by kernel_rfl) (by kernel_rfl) (by kernel_rfl) (by simp) H0.out ?_
   iterate 2 (refine gs_plain rfl (fun K hK=>?_);go_simp;refine hK _ ?_;clear hK K)
   refine gs_loadS Tryz.isPr rfl (by first|rfl|kernel_rfl) _ rfl w.heap.size rfl (prA (.slice (some ⟨b0,off,none⟩) 2 uc) (.slice vo ps.length vc) (.slice xo es.length xc)) rfl (fun q=>(HQ.out _ q.h).p) ?_
   refine gs_call (isG (.int .i64 j)) rfl (by first|rfl|kernel_rfl) (fun wq hB=>?_) (fun uq hu=>?_)
   ·go_simp
    refine⟨rfl,?_⟩
    exact isG_of (CO.out _ (HQ.out _ hB.1).b)
   obtain rfl:=hu
   refine gs_plain rfl (fun K hK=>?_);go_simp;refine hK _ ?_;clear hK K
   refine gs_loadO Tryz.isNd rfl (by first|rfl|kernel_rfl) _ rfl b0 (off+j*20) rfl y.A rfl (fun q=>HC.out _ (HQ.out _ q.h).b) ?_
   refine gs_call (alG (w.heap.size+2) 59 zeroNd) rfl (by first|rfl|kernel_rfl) (fun wq hB=>?_) (fun uq hu=>?_)
   ·go_simp
    exact alG_of (HQ.out _ hB.1).s
   obtain⟨g,rfl⟩:=hu
   refine gs_end (fun w4 hz=>?_)
   have hn4:=hz.2 _ (List.mem_cons_self ..) g rfl
   have hone:y.A.all (·.oneCell')=true:=ndA_one y.n (reads_one (RdN.ra HRy.out)) (reads_one (RdN.rb HRy.out)) (reads_one (RdN.rk HRy.out)) (reads_one (RdN.rq HRy.out)) (reads_one (RdN.rz HRy.out))
   refine last_putL Tryz.isNd rfl rfl _ _ rfl g y.A zeroNd rfl rfl rfl rfl hone hn4.1 ?_
   intro w5 s5 g5
   obtain⟨HO5,HS5⟩:Hid (Ow w w5 (.slice (some ⟨b0,off,none⟩) 2 uc) (.slice vo ps.length vc) (.slice xo es.length xc))∧Hid (StB w5 g 59 y.A∧w.heap.size+2≤g):=by
    have c4:=HQ.out _ hz.1
    have hg:=hn4.2
    exact⟨⟨c4.p.kept g5 (fun e=>by have:=Option.some.inj e;omega),c4.r.kept g5 (fun e=>by have:=Option.some.inj e;omega),c4.b.grown g5 c4.b.size (fun k e=>by cases e;omega),Nat.le_trans c4.s g5.size⟩,s5,hg⟩
   clear hn4 s5 g5 hz HQ HN H0 hne m0 hji hjz HC HB CO HJ hone hneg hj2
   obtain⟨ya,yb,yk,yq,yz,m⟩:=y
   have HRm:Hid (RdN w ya yb yk yq yz m):=HRy.out
   have CC:Hid (∀wx,Below w5.heap.size w5 wx→Calls Tryz.prog 18 #[SRV ya yb yk m.h] wx fun e w'=>∃a b k,e=.returned (SRV a b k m.h)∧OwnR w' wx.heap.size a b k m.xs m.ys m.h.ks∧Below wx.heap.size wx w'):=fun wx e=>by
    have h:=HRm.out.below (HO5.out.b.trans (e.mono HO5.out.b.size))
    exact s12copy_any ya yb yk m.xs m.ys m.h wx h.ra h.rb h.rk (by have:=HSy.out.la;dsimp only at this;omega) (by have:=HSy.out.lb;dsimp only at this;omega) (by have:=HSy.out.lk;dsimp only at this;omega)
   obtain⟨ao,ac,rfl⟩:=reads_form HRm.out.ra
   obtain⟨bo,bc,rfl⟩:=reads_form HRm.out.rb
   obtain⟨ko,kc,rfl⟩:=reads_form HRm.out.rk
   clear HRy HRm HSy
   have p2:w5.cell? ⟨g,2,none⟩=some (.slice ao m.xs.length ac):=HS5.out.1.cell 2 rfl
   have p3:w5.cell? ⟨g,3,none⟩=some (.slice bo m.ys.length bc):=HS5.out.1.cell 3 rfl
   have p4:w5.cell? ⟨g,4,none⟩=some (.slice ko m.h.ks.length kc):=HS5.out.1.cell 4 rfl
   have p5:w5.cell? ⟨g,5,none⟩=some (.int .i64 m.h.kd):=HS5.out.1.cell 5 rfl
   have p6:w5.cell? ⟨g,6,none⟩=some (.int .i64 m.h.ho):=HS5.out.1.cell 6 rfl
   have p7:w5.cell? ⟨g,7,none⟩=some (.int .i64 m.h.tu):=HS5.out.1.cell 7 rfl
   unfold SRV srA at CC
   go_wp2_with fail
   refine(CC.out w5 (Below.refl _ _)).mono ?_
   rintro e w6 ⟨a,b,k,rfl,o6,B6⟩
   obtain⟨a6,c6,rfl⟩:=o6.1.1.reads.form
   obtain⟨a7,c7,rfl⟩:=o6.1.2.1.reads.form
   obtain⟨a8,c8,rfl⟩:=o6.2.1.reads.form
   have O6:Hid (OwnR w6 w5.heap.size (.slice a6 m.xs.length c6) (.slice a7 m.ys.length c7) (.slice a8 m.h.ks.length c8) m.xs m.ys m.h.ks):=o6
   have H6:=HO5.out.next B6
   have R6:Hid (StB w6 (w.heap.size+1) 34 zeR∧Below w.heap.size w w6∧w.heap.size+2≤w5.heap.size):=⟨H6.r,H6.b,HO5.out.s⟩
   clear o6 B6 H6 CC p2 p3 p4 p5 p6 p7 HO5 HS5
   go_wp2_with (refine wpList_putS Tryz.isR rfl _ _ rfl (w.heap.size+1) (srA (.slice a6 m.xs.length c6) (.slice a7 m.ys.length c7) (.slice a8 m.h.ks.length c8) m.h) zeR rfl rfl rfl rfl (srA_one m.h rfl rfl rfl) R6.out.1 ?_;intro w7 s7 g7)
   refine bodyPost_ret (results_S Tryz.isR rfl _ _ (w.heap.size+1) _ rfl rfl s7) rfl ?_
   rw[HX.out]
   exact⟨_,_,_,rfl,(O6.out.keptLt g7 (by have:=R6.out.2.2;omega)).mono (by have:=R6.out.2.2;omega),R6.out.2.1.grown g7 R6.out.2.1.size (fun k e=>by cases e;omega)⟩
end Go.Proofs.YthmnmaemnihkeaaGreatDoor
set_option maxRecDepth 20000
set_option maxHeartbeats 4000000
namespace Go.Proofs.YthmnmaemnihkeaaGreatDoor
open Go.ChangeShapes Go.WideShapes Go.ChangeAt Go.RowKit
theorem ibytes_any (s:Bs) (w:World):
  Calls Tryz.prog 132 #[S s] w fun r w'=>r=.returned (.bool (decide (s.length≤20)))∧w'=w:=by
 have hsz:(⟨s.toArray⟩:ByteArray).size=s.length:=rfl
 unfold S
 by_cases h:s.length≤20
 ·have h':(s.length:Int)≤20:=by omega
  have e:decide (s.length≤20)=true:=by simp[h]
  rw[e]
  clear e
  go_enter Tryz.func132,Tryz.ntmps132
  go_wp2
  go_ret
  exact⟨rfl,rfl⟩
 ·have h':¬(s.length:Int)≤20:=by omega
  have e:decide (s.length≤20)=false:=by simp[h]
  rw[e]
  clear e
  go_enter Tryz.func132,Tryz.ntmps132
  go_wp2
  go_ret
  exact⟨rfl,rfl⟩
theorem istatus_any (x:Int) (w:World):
  Calls Tryz.prog 133 #[.int .i64 x] w fun r w'=>r=.returned (.bool (inI x 0 7))∧w'=w:=by
 by_cases h0:0≤x
 ·by_cases h1:x≤7
  ·have he:inI x 0 7=true:=by simp[inI,h0,h1]
   rw[he]
   clear he
   go_enter Tryz.func133,Tryz.ntmps133
   go_wp2
   go_ret
   exact⟨rfl,rfl⟩
  ·have he:inI x 0 7=false:=by simp[inI,h1]
   rw[he]
   clear he
   go_enter Tryz.func133,Tryz.ntmps133
   go_wp2
   go_ret
   exact⟨rfl,rfl⟩
 ·have he:inI x 0 7=false:=by simp[inI,h0]
  rw[he]
  clear he
  go_enter Tryz.func133,Tryz.ntmps133
  go_wp2
  go_ret
  exact⟨rfl,rfl⟩
theorem ieventok_any (e:Ev) (w:World):
  Calls Tryz.prog 113 #[.agg (evA e)] w fun r w'=>r=.returned (.bool e.ok)∧Below w.heap.size w w':=by
 have CW:Hid (∀wx,Calls Tryz.prog 131 #[.int .i64 e.who] wx fun r w'=>r=.returned (.bool (inI e.who 0 3))∧w'=wx):=fun wx=>iperson_any e.who wx
 have CB:Hid (∀wx,Calls Tryz.prog 132 #[S e.bs] wx fun r w'=>r=.returned (.bool (decide (e.bs.length≤20)))∧w'=wx):=fun wx=>ibytes_any e.bs wx
 have CI:Hid (∀wx,Calls Tryz.prog 133 #[.int .i64 e.an.st] wx fun r w'=>r=.returned (.bool (inI e.an.st 0 7))∧w'=wx):=fun wx=>istatus_any e.an.st wx
 have CS:Hid (∀wx,Calls Tryz.prog 134 #[.int .i64 e.set] wx fun r w'=>r=.returned (.bool (setOk e.set))∧w'=wx):=fun wx=>bsok_any e.set wx
 obtain⟨kd,who,bs,⟨st,tx⟩,set⟩:=e
 have hb:Hid (Below w.heap.size w (w.alloc (.cells (evA ⟨kd,who,bs,⟨st,tx⟩,set⟩) 98))):=(Below.refl _ _).alloc (Nat.le_refl _) _
 have hsz:(⟨bs.toArray⟩:ByteArray).size=bs.length:=rfl
 unfold evA S at*
 dsimp only at*
 by_cases h1:kd=1
 ·subst h1
  obtain⟨b1,hb1⟩:∃b,b=inI who 0 3:=⟨_,rfl⟩
  obtain⟨b2,hb2⟩:∃b,b=inI st 0 7:=⟨_,rfl⟩
  have HE:Hid (Ev.ok ⟨1,who,bs,⟨st,tx⟩,set⟩=(b1&&decide (bs.length≤20)&&decide (set=0)&&b2)):=by rw[hb1,hb2];rfl
  rw[←hb1]at CW
  rw[←hb2]at CI
  clear hb1 hb2 CS
  go_enter Tryz.func113,Tryz.ntmps113
  go_wp2_with fail
  refine(CW.out _).mono ?_
  rintro r w' ⟨rfl,hw⟩;subst w'
  clear CW
  cases b1 with
  |false=>
   go_wp2
   go_ret
   rw[HE.out]
   exact⟨rfl,hb.out⟩
  |true=>
   go_wp2_with fail
   refine(CB.out _).mono ?_
   rintro r w' ⟨rfl,hw⟩;subst w'
   clear CB
   obtain⟨b3,hb3⟩:∃b,b=decide (bs.length≤20):=⟨_,rfl⟩
   rw[←hb3]
   have HE3:Hid (decide (bs.length≤20)=b3):=hb3.symm
   clear hb3
   cases b3 with
   |false=>
    have HX:Hid (Ev.ok ⟨1,who,bs,⟨st,tx⟩,set⟩=false):=by rw[Hid,HE.out,HE3.out];rfl
    clear HE CI
    go_wp2
    go_ret
    rw[HX.out]
    exact⟨rfl,hb.out⟩
   |true=>
    go_wp2_with fail
    refine(CI.out _).mono ?_
    rintro r w' ⟨rfl,hw⟩;subst w'
    clear CI
    cases b2 with
    |false=>
     have HX:Hid (Ev.ok ⟨1,who,bs,⟨st,tx⟩,set⟩=false):=by rw[Hid,HE.out];simp
     clear HE
     go_wp2
     go_ret
     rw[HX.out]
     exact⟨rfl,hb.out⟩
    |true=>
     by_cases hs0:set=0
     ·have HX:Hid (Ev.ok ⟨1,who,bs,⟨st,tx⟩,set⟩=true):=by rw[Hid,HE.out,HE3.out];simp[hs0]
      clear HE
      subst hs0
      go_wp2
      go_ret
      rw[HX.out]
      exact⟨rfl,hb.out⟩
     ·have HX:Hid (Ev.ok ⟨1,who,bs,⟨st,tx⟩,set⟩=false):=by rw[Hid,HE.out];simp[hs0]
      have hs0b:(set==0)=false:=by simp[hs0]
      clear HE hs0
      go_wp2
      go_ret
      rw[HX.out]
      exact⟨by simp,hb.out⟩
 ·by_cases h2:kd=2
  ·subst h2
   obtain⟨b1,hb1⟩:∃b,b=setOk set:=⟨_,rfl⟩
   have HE:Hid (Ev.ok ⟨2,who,bs,⟨st,tx⟩,set⟩=(b1&&decide (who=0)&&decide (bs=[])&&decide (st=0)&&decide (tx=[]))):=by rw[hb1];rfl
   rw[←hb1]at CS
   clear hb1 CW CI CB h1
   go_enter Tryz.func113,Tryz.ntmps113
   go_wp2_with fail
   refine(CS.out _).mono ?_
   rintro r w' ⟨rfl,hw⟩;subst w'
   clear CS
   cases b1 with
   |false=>
    go_wp2
    go_ret
    rw[HE.out]
    exact⟨rfl,hb.out⟩
   |true=>
    by_cases hw0:who=0
    ·by_cases hbs:bs=[]
     ·by_cases hst:st=0
      ·by_cases htx:tx=[]
       ·have HX:Hid (Ev.ok ⟨2,who,bs,⟨st,tx⟩,set⟩=true):=by rw[Hid,HE.out];simp[hw0,hbs,hst,htx]
        clear HE
        subst hw0 hbs hst htx
        go_wp2
        go_ret
        rw[HX.out]
        exact⟨rfl,hb.out⟩
       ·have HX:Hid (Ev.ok ⟨2,who,bs,⟨st,tx⟩,set⟩=false):=by rw[Hid,HE.out];simp[htx]
        clear HE
        subst hw0 hbs hst
        go_wp2
        go_ret
        rw[HX.out]
        exact⟨rfl,hb.out⟩
      ·have HX:Hid (Ev.ok ⟨2,who,bs,⟨st,tx⟩,set⟩=false):=by rw[Hid,HE.out];simp[hst]
       clear HE
       subst hw0 hbs
       go_wp2
       go_ret
       rw[HX.out]
       exact⟨rfl,hb.out⟩
     ·have HX:Hid (Ev.ok ⟨2,who,bs,⟨st,tx⟩,set⟩=false):=by rw[Hid,HE.out];simp[hbs]
      clear HE
      subst hw0
      go_wp2
      go_ret
      rw[HX.out]
      exact⟨rfl,hb.out⟩
    ·have HX:Hid (Ev.ok ⟨2,who,bs,⟨st,tx⟩,set⟩=false):=by rw[Hid,HE.out];simp[hw0]
     clear HE
     go_wp2
     go_ret
     rw[HX.out]
     exact⟨rfl,hb.out⟩
  ·clear CW CI CS CB
   by_cases h3:kd=3
   ·subst h3
    have HE:Hid (Ev.ok ⟨3,who,bs,⟨st,tx⟩,set⟩=(decide (who=0)&&decide (bs=[])&&decide (st=0)&&decide (tx=[])&&decide (set=0))):=rfl
    clear h1 h2
    go_enter Tryz.func113,Tryz.ntmps113
    by_cases hw0:who=0
    ·by_cases hbs:bs=[]
     ·by_cases hst:st=0
      ·by_cases htx:tx=[]
       ·by_cases hs0:set=0
        ·have HX:Hid (Ev.ok ⟨3,who,bs,⟨st,tx⟩,set⟩=true):=by rw[Hid,HE.out];simp[hw0,hbs,hst,htx,hs0]
         clear HE
         subst hw0 hbs hst htx hs0
         go_wp2
         go_ret
         rw[HX.out]
         exact⟨rfl,hb.out⟩
        ·have HX:Hid (Ev.ok ⟨3,who,bs,⟨st,tx⟩,set⟩=false):=by rw[Hid,HE.out];simp[hs0]
         clear HE
         subst hw0 hbs hst htx
         go_wp2
         go_ret
         rw[HX.out]
         exact⟨rfl,hb.out⟩
       ·have HX:Hid (Ev.ok ⟨3,who,bs,⟨st,tx⟩,set⟩=false):=by rw[Hid,HE.out];simp[htx]
        clear HE
        subst hw0 hbs hst
        go_wp2
        go_ret
        rw[HX.out]
        exact⟨rfl,hb.out⟩
      ·have HX:Hid (Ev.ok ⟨3,who,bs,⟨st,tx⟩,set⟩=false):=by rw[Hid,HE.out];simp[hst]
       clear HE
       subst hw0 hbs
       go_wp2
       go_ret
       rw[HX.out]
       exact⟨rfl,hb.out⟩
     ·have HX:Hid (Ev.ok ⟨3,who,bs,⟨st,tx⟩,set⟩=false):=by rw[Hid,HE.out];simp[hbs]
      clear HE
      subst hw0
      go_wp2
      go_ret
      rw[HX.out]
      exact⟨rfl,hb.out⟩
    ·have HX:Hid (Ev.ok ⟨3,who,bs,⟨st,tx⟩,set⟩=false):=by rw[Hid,HE.out];simp[hw0]
     clear HE
     go_wp2
     go_ret
     rw[HX.out]
     exact⟨rfl,hb.out⟩
   ·have HX:Hid (Ev.ok ⟨kd,who,bs,⟨st,tx⟩,set⟩=false):=by rw[Hid];simp[Ev.ok,h1,h2,h3]
    go_enter Tryz.func113,Tryz.ntmps113
    go_wp2
    go_ret
    rw[HX.out]
    exact⟨rfl,hb.out⟩
theorem take_all_evI (es:List Ev) (j:Nat) (e:Ev) (he:es[j]?=some e) (h0:(es.take j).all Ev.ok=true) (hx:e.ok=true):(es.take (j+1)).all Ev.ok=true:=by
 obtain⟨hj,rfl⟩:=List.getElem?_eq_some_iff.1 he
 rw[List.take_succ_eq_append_getElem hj,List.all_append,h0]
 simp[hx]
theorem not_all_evI (es:List Ev) (j:Nat) (e:Ev) (he:es[j]?=some e) (hx:e.ok=false):es.all Ev.ok=false:=by
 rw[List.all_eq_false]
 exact⟨e,List.mem_of_getElem? he,by simp[hx]⟩
theorem iallEventsOk_any (v:Value) (es:List Ev) (w:World) (hr:RdE w v es):
  Calls Tryz.prog 86 #[v] w fun r w'=>r=.returned (.bool (es.all Ev.ok))∧Below w.heap.size w w':=by
 obtain⟨ao,cap,rfl⟩:=hr.form
 have HR:Hid (∀wx,Below w.heap.size w wx→RdE wx (.slice ao es.length cap) es):=fun wx b=>hr.below b
 obtain⟨-,hnc,hcm, -⟩:=hr.el
 unfold maxLen at hcm
 obtain⟨t,ht⟩:∃t,t=es.all Ev.ok:=⟨_,rfl⟩
 have HX:Hid (t=es.all Ev.ok):=ht
 rw[←ht]
 clear hr ht
 obtain⟨n,hn⟩:∃n,n=es.length:=⟨_,rfl⟩
 rw[←hn]at HR hnc⊢
 have HN:Hid (n=es.length):=hn
 clear hn
 go_enter Tryz.func86,Tryz.ntmps86
 go_wp2
 go_loopw [7] (fun i wr=>∃j:Nat,j≤n∧i=.int .i64 j∧Hid ((es.take j).all Ev.ok=true∧Below w.heap.size w wr)) (fun i _=>n-(intOf i).toNat)
 case atStart=>exact⟨0,Nat.zero_le _,rfl,by simp,Below.refl _ _⟩
 case round=>
  obtain⟨j,hj,rfl,HI⟩:=hrel
  by_cases hlt:(j:Int)<(n:Int)
  ·obtain⟨be,offe,y,he,rfl,hc⟩:=(HR.out wr HI.out.2).el.2.2.2 j (by omega)
   have CE:Hid (∀wx,Calls Tryz.prog 113 #[.agg (evA y)] wx fun r w'=>r=.returned (.bool y.ok)∧Below wx.heap.size wx w'):=fun wx=>ieventok_any y wx
   have HC:Hid (∀i,i<6→wr.cell? ⟨be,offe+j*6+i,none⟩=(evA y)[i]?):=hc
   have HY:Hid (es[j]?=some y):=he
   clear hc he
   have q5:StB (wr.alloc (.cells zeroEv 98)) wr.heap.size 98 zeroEv:=StB.new wr _ _
   go_upto_region 4 with(first|(refine wpList_getO Tryz.isEv rfl _ rfl be (offe+j*6) rfl (evA y) rfl HC.out ?_)|(refine wpList_putS Tryz.isEv rfl _ _ rfl wr.heap.size (evA y) zeroEv rfl rfl rfl rfl (evA_one y) q5 ?_;intro w2 s2 g2))
   (try simp only[Act.put])
   have HB:Hid (Below w.heap.size w w2):=HI.out.2.trans ((((Below.refl _ _).alloc (Nat.le_refl _) _).grown g2 (by simp) (fun k e=>by cases e;omega)).mono HI.out.2.size)
   clear q5 g2
   go_wp2_with (refine wpList_getS Tryz.isEv rfl _ rfl wr.heap.size rfl (evA y) rfl s2 ?_)
   refine(CE.out _).mono ?_
   rintro e w3 ⟨rfl,b3⟩
   have HB3:Hid (Below w.heap.size w w3):=HB.out.trans (b3.mono HB.out.size)
   clear b3 CE HC s2 HB
   obtain⟨o,ho⟩:∃o,o=y.ok:=⟨_,rfl⟩
   rw[←ho]
   have HO:Hid (y.ok=o):=ho.symm
   clear ho
   cases o with
   |false=>
    have HZ:Hid (t=false):=by rw[Hid,HX.out];exact not_all_evI es j y HY.out HO.out
    go_wp2
    go_ret
    rw[HZ.out]
    exact⟨rfl,HB3.out⟩
   |true=>
    have HZ:Hid ((es.take (j+1)).all Ev.ok=true):=take_all_evI es j y HY.out HI.out.1 HO.out
    go_wp2
    go_roundw
    case rel=>exact⟨j+1,by omega,by go_num,HZ.out,HB3.out⟩
    case measure=>simp[intOf];omega
  ·have HZ:Hid (t=true):=by
    have h1:=HI.out.1
    rw[List.take_of_length_le (by have:=HN.out;omega)]at h1
    rw[Hid,HX.out,h1]
   go_wp2
   go_ret
   rw[HZ.out]
   exact⟨rfl,HI.out.2⟩
theorem ieventsok_any (v:Value) (es:List Ev) (w:World) (hr:RdE w v es):
  Calls Tryz.prog 51 #[v] w fun r w'=>r=.returned (.bool (evsOk es))∧Below w.heap.size w w':=by
 have CA:Hid (Calls Tryz.prog 86 #[v] w fun r w'=>r=.returned (.bool (es.all Ev.ok))∧Below w.heap.size w w'):=iallEventsOk_any v es w hr
 obtain⟨ao,cap,rfl⟩:=hr.form
 obtain⟨-,hnc,hcm, -⟩:=hr.el
 unfold maxLen at hcm
 have HE:Hid (evsOk es=(decide (es.length≤300)&&es.all Ev.ok)):=rfl
 obtain⟨t,ht⟩:∃t,t=evsOk es:=⟨_,rfl⟩
 obtain⟨o,ho⟩:∃o,o=es.all Ev.ok:=⟨_,rfl⟩
 rw[←ht]at HE⊢
 rw[←ho]at HE CA
 clear hr ht ho
 obtain⟨n,hn⟩:∃n,n=es.length:=⟨_,rfl⟩
 rw[←hn]at hnc HE CA⊢
 clear hn
 by_cases h300:n≤300
 case neg=>
  have h':¬(n:Int)≤300:=by omega
  have HX:Hid (t=false):=by rw[Hid,HE.out];simp[h300]
  clear HE CA
  go_enter Tryz.func51,Tryz.ntmps51
  go_wp2
  go_ret
  rw[HX.out]
  exact⟨rfl,Below.refl _ _⟩
 case pos=>
  have h':(n:Int)≤300:=by omega
  have HX:Hid (t=o):=by rw[Hid,HE.out];simp[h300]
  clear HE h300
  go_enter Tryz.func51,Tryz.ntmps51
  go_wp2_with fail
  refine CA.out.mono ?_
  rintro e w2 ⟨rfl,b⟩
  have HB:Hid (Below w.heap.size w w2):=b
  clear b CA
  go_wp2
  go_ret
  rw[HX.out]
  exact⟨rfl,HB.out⟩
end Go.Proofs.YthmnmaemnihkeaaGreatDoor
