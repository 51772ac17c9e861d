/- Pairs by the model: PairOk, l17Owners, Owners. -/
import Derived.Test.YtflbcjgkdokhiaaGreatDoorM33
import Derived.Test.YtflbcjgkdokhiaaGreatDoorSNode
set_option maxRecDepth 20000
set_option maxHeartbeats 8000000
namespace Go.Proofs.YtflbcjgkdokhiaaGreatDoor
open Go.ChangeShapes Go.WideShapes Go.ChangeAt Go.RowKit
theorem two_ofS {α:Type} {l:List α} (h:l.length=2):∃a b,l=[a,b]:=by
 match l,h with
 |[a,b],_=>exact⟨a,b,rfl⟩
theorem nodesP_no {ns:List Nv} (h:ns.length≠2):nodesP (nsOf ns)=false:=by
 match ns,h with
 |[],_=>rfl
 |[_],_=>rfl
 |[_,_],h=>exact absurd rfl h
 |_::_::_::_,_=>rfl
theorem take_all_ev (es:List Ev) (j:Nat) (e:Ev) (he:es[j]?=some e) (h0:(es.take j).all Ev.ok=true) (hx:e.ok=true):(es.take (j+1)).all Ev.ok=true:=by
 obtain⟨hj,rfl⟩:=List.getElem?_eq_some_iff.1 he
 rw[List.take_succ_eq_append_getElem hj,List.all_append,h0]
 simp[hx]
theorem not_all_ev (es:List Ev) (j:Nat) (e:Ev) (he:es[j]?=some e) (hx:e.ok=false):es.all Ev.ok=false:=by
 rw[List.all_eq_false]
 exact⟨e,List.mem_of_getElem? he,by simp[hx]⟩
theorem spairok_any (u v x:Value) (ns:List Nv) (ps:List (Value×Mg)) (es:List Ev) (w:World) (hr:RdPr w u v x ns ps es) (hn:SmNs ns) (hp:SmP ps):
  Calls Tryz.prog 12 #[PrV u v x] w fun r w'=>r=.returned (.bool (paOk (nsOf ns) (msOf ps) es))∧Below w.heap.size w w':=by
 have HR:Hid (∀wx,Below w.heap.size w wx→RdPr wx u v x ns ps es):=fun wx b=>hr.below b
 have CN:Hid (∀wx,Below w.heap.size w wx→∀y∈ns,Calls Tryz.prog 25 #[.agg y.A] wx fun r w'=>r=.returned (.bool y.n.ok)∧Below wx.heap.size wx w'):=fun wx b y hy=>snodeok_any y.a y.b y.k y.q y.z y.n wx ((HR.out wx b).rn.key y hy) (hn y hy)
 have CP:Hid (∀wx,Below w.heap.size w wx→Calls Tryz.prog 26 #[v] wx fun r w'=>r=.returned (.bool (postOk (msOf ps)))∧Below wx.heap.size wx w'):=fun wx b=>spostok_any v ps wx (HR.out wx b).rp hp
 obtain⟨uo,uc,rfl⟩:=hr.rn.form
 obtain⟨vo,vc,rfl⟩:=hr.rp.form
 obtain⟨xo,xc,rfl⟩:=hr.re.form
 obtain⟨w1,hw1⟩:∃w1,w1=w.alloc (.cells (prA (.slice uo ns.length uc) (.slice vo ps.length vc) (.slice xo es.length xc)) 33):=⟨_,rfl⟩
 have HB:Hid (StB w1 w.heap.size 33 (prA (.slice uo ns.length uc) (.slice vo ps.length vc) (.slice xo es.length xc))∧Below w.heap.size w w1):=by rw[hw1];exact⟨StB.new _ _ _,(Below.refl _ _).alloc (Nat.le_refl _) _⟩
 obtain⟨-,hnc,hcm, -⟩:=hr.re.el
 unfold maxLen at hcm
 clear hr
 by_cases h2:ns.length=2
 case neg=>
  have HX:Hid (paOk (nsOf ns) (msOf ps) es=false):=by rw[Hid];unfold paOk;rw[nodesP_no h2];rfl
  have h2':¬(ns.length:Int)=2:=by omega
  clear CN CP HR
  unfold PrV prA
  rw[HX.out]
  unfold prA at hw1
  go_enter Tryz.func12,Tryz.ntmps12
  go_upto_region 1 with fail
  rw[←hw1]
  clear hw1
  obtain⟨C,hCd⟩:∃C,C=fun x=>Below w1.heap.size w1 x:=⟨_,rfl⟩
  have HQ:Hid (∀x,C x→Below w1.heap.size w1 x):=by rw[hCd];exact fun _ h=>h
  have HNx:Hid (∀x y,C x→Later x y→C y):=by rw[hCd];exact fun _ _ h b=>h.trans (b.mono h.size)
  have H0:Hid (C w1.drew):=by rw[hCd];exact(Below.refl _ _).drew
  have hne:Nonempty (Kin C):=⟨⟨_,H0.out⟩⟩
  clear hCd
  have m0:∀q:Kin C,q.x.cell? ⟨w.heap.size,0,none⟩=some (.slice uo ns.length uc):=fun q=>later_cell (HB.out.1.cell 0 rfl) (HQ.out _ q.h)
  have m1:∀q:Kin C,q.x.cell? ⟨w.heap.size,1,none⟩=some (.slice vo ps.length vc):=fun q=>later_cell (HB.out.1.cell 1 rfl) (HQ.out _ q.h)
  have m2:∀q:Kin C,q.x.cell? ⟨w.heap.size,2,none⟩=some (.slice xo es.length xc):=fun q=>later_cell (HB.out.1.cell 2 rfl) (HQ.out _ q.h)
  refine wp_region_gs (C:=C) (E:=byDst fun d=>none) (R:=Later) HNx.out (byDst_later (by intro d s hs;cases hs)) (byDst_looks _ _) (by kernel_rfl) (by kernel_rfl) H0.out ?_
  iterate 65 (refine gs_plain rfl (fun K hK=>?_);go_simp;refine hK _ ?_;clear hK K)
  refine gs_end (fun w2 hz=>?_)
  have HB2:Hid (Below w.heap.size w w2∧StB w2 w.heap.size 33 (prA (.slice uo ns.length uc) (.slice vo ps.length vc) (.slice xo es.length xc))):=⟨HB.out.2.trans ((HQ.out _ hz.1).mono HB.out.2.size),HB.out.1.below (HQ.out _ hz.1)⟩
  clear hz HQ HNx H0 hne m0 m1 m2
  go_wp2
  go_ret
  exact⟨rfl,HB2.out.1⟩
 case pos=>
 obtain⟨y0,y1,rfl⟩:=two_ofS h2
 obtain⟨b,off,rfl,hc0,hc1⟩:∃b off,uo=some ⟨b,off,none⟩∧(∀wx,Below w.heap.size w wx→∀i,i<20→wx.cell? ⟨b,off+i,none⟩=y0.A[i]?)∧(∀wx,Below w.heap.size w wx→∀i,i<20→wx.cell? ⟨b,off+20+i,none⟩=y1.A[i]?):=by
  obtain⟨b,off,x,hx,e,_,_⟩:=(HR.out w (Below.refl _ _)).rn.el.2.2.2 0 (by show 0<2;decide)
  refine⟨b,off,e,fun wx B i hi=>?_,fun wx B i hi=>?_⟩
  ·obtain⟨b',off',x',hx',e',_,hc⟩:=(HR.out wx B).rn.el.2.2.2 0 (by show 0<2;decide)
   rw[e]at e';cases e'
   cases hx'
   simpa using hc i hi
  ·obtain⟨b',off',x',hx',e',_,hc⟩:=(HR.out wx B).rn.el.2.2.2 1 (by show 1<2;decide)
   rw[e]at e';cases e'
   cases hx'
   simpa using hc i hi
 have HC0:Hid (∀wx,Below w.heap.size w wx→∀i,i<20→wx.cell? ⟨b,off+i,none⟩=y0.A[i]?):=hc0
 have HC1:Hid (∀wx,Below w.heap.size w wx→∀i,i<20→wx.cell? ⟨b,off+20+i,none⟩=y1.A[i]?):=hc1
 have C0:Hid (∀wx,Below w.heap.size w wx→Calls Tryz.prog 25 #[.agg y0.A] wx fun r w'=>r=.returned (.bool y0.n.ok)∧Below wx.heap.size wx w'):=fun wx B=>CN.out wx B y0 (by simp)
 have C1:Hid (∀wx,Below w.heap.size w wx→Calls Tryz.prog 25 #[.agg y1.A] wx fun r w'=>r=.returned (.bool y1.n.ok)∧Below wx.heap.size wx w'):=fun wx B=>CN.out wx B y1 (by simp)
 have HE:Hid (paOk (nsOf [y0,y1]) (msOf ps) es=((y0.n.ok&&y1.n.ok&&decide (y0.n.id=0)&&decide (y1.n.id=1)&&decide (y0.n.ys.length=y1.n.ys.length))&&postOk (msOf ps)&&(decide (es.length≤300)&&es.all Ev.ok))):=rfl
 obtain⟨bo0,bc0,eb0⟩:∃bo bc,y0.b=.slice bo y0.n.ys.length bc:=reads_form ((HR.out w (Below.refl _ _)).rn.key y0 (by simp)).rb
 obtain⟨bo1,bc1,eb1⟩:∃bo bc,y1.b=.slice bo y1.n.ys.length bc:=reads_form ((HR.out w (Below.refl _ _)).rn.key y1 (by simp)).rb
 obtain⟨t,ht⟩:∃t,t=paOk (nsOf [y0,y1]) (msOf ps) es:=⟨_,rfl⟩
 rw[←ht]at HE⊢
 clear ht
 obtain⟨b0,hb0⟩:∃b,b=y0.n.ok:=⟨_,rfl⟩
 obtain⟨b1,hb1⟩:∃b,b=y1.n.ok:=⟨_,rfl⟩
 obtain⟨bp,hbp⟩:∃b,b=postOk (msOf ps):=⟨_,rfl⟩
 rw[←hb0]at C0 HE
 rw[←hb1]at C1 HE
 rw[←hbp]at CP HE
 clear hb0 hb1 hbp CN hc0 hc1 h2 hn hp
 obtain⟨i0,hi0⟩:∃i,i=y0.n.id:=⟨_,rfl⟩
 obtain⟨i1,hi1⟩:∃i,i=y1.n.id:=⟨_,rfl⟩
 obtain⟨l0,hl0⟩:∃i,i=y0.n.ys.length:=⟨_,rfl⟩
 obtain⟨l1,hl1⟩:∃i,i=y1.n.ys.length:=⟨_,rfl⟩
 rw[←hi0,←hi1,←hl0,←hl1]at HE
 have HD:Hid (∀wx,Below w.heap.size w wx→wx.cell? ⟨b,off,none⟩=some (.int .i64 i0)∧wx.cell? ⟨b,off+20,none⟩=some (.int .i64 i1)∧wx.cell? ⟨b,off+3,none⟩=some (.slice bo0 l0 bc0)∧wx.cell? ⟨b,off+20+3,none⟩=some (.slice bo1 l1 bc1)):=fun wx B=>by
  have e0:=HC0.out wx B 0 (by decide)
  have e1:=HC1.out wx B 0 (by decide)
  have e2:=HC0.out wx B 3 (by decide)
  have e3:=HC1.out wx B 3 (by decide)
  refine⟨?_,?_,?_,?_⟩
  ·rw[hi0];simpa[Nv.A,ndA]using e0
  ·rw[hi1];simpa[Nv.A,ndA]using e1
  ·rw[hl0,←eb0];simpa[Nv.A,ndA]using e2
  ·rw[hl1,←eb1];simpa[Nv.A,ndA]using e3
 clear hi0 hi1 hl0 hl1 eb0 eb1
 have el:([y0,y1]:List Nv).length=2:=rfl
 rw[el]at hw1 HB⊢
 have HRE:Hid (∀wx,Below w.heap.size w wx→RdE wx (.slice xo es.length xc) es):=fun wx b=>(HR.out wx b).re
 clear el HR
 unfold prA at hw1
 unfold PrV prA
 go_enter Tryz.func12,Tryz.ntmps12
 go_upto_region 1 with fail
 rw[←hw1]
 clear hw1
 cases b0 with
 |false=>
  have HX:Hid (t=false):=by rw[Hid,HE.out];simp
  clear HE
  obtain⟨C,hCd⟩:∃C,C=fun x=>Below w1.heap.size w1 x:=⟨_,rfl⟩
  have HQ:Hid (∀x,C x→Below w1.heap.size w1 x):=by rw[hCd];exact fun _ h=>h
  have HNx:Hid (∀x y,C x→Later x y→C y):=by rw[hCd];exact fun _ _ h b=>h.trans (b.mono h.size)
  have H0:Hid (C w1.drew):=by rw[hCd];exact(Below.refl _ _).drew
  have hne:Nonempty (Kin C):=⟨⟨_,H0.out⟩⟩
  clear hCd
  have m0:∀q:Kin C,q.x.cell? ⟨w.heap.size,0,none⟩=some (.slice (some ⟨b,off,none⟩) 2 uc):=fun q=>later_cell (HB.out.1.cell 0 rfl) (HQ.out _ q.h)
  have m1:∀q:Kin C,q.x.cell? ⟨w.heap.size,1,none⟩=some (.slice vo ps.length vc):=fun q=>later_cell (HB.out.1.cell 1 rfl) (HQ.out _ q.h)
  have m2:∀q:Kin C,q.x.cell? ⟨w.heap.size,2,none⟩=some (.slice xo es.length xc):=fun q=>later_cell (HB.out.1.cell 2 rfl) (HQ.out _ q.h)
  have n0:∀q:Kin C,q.x.cell? ⟨b,off,none⟩=some (.int .i64 i0):=fun q=>(HD.out _ (HB.out.2.trans ((HQ.out _ q.h).mono HB.out.2.size))).1
  have n1:∀q:Kin C,q.x.cell? ⟨b,off+20,none⟩=some (.int .i64 i1):=fun q=>(HD.out _ (HB.out.2.trans ((HQ.out _ q.h).mono HB.out.2.size))).2.1
  have n2:∀q:Kin C,q.x.cell? ⟨b,off+3,none⟩=some (.slice bo0 l0 bc0):=fun q=>(HD.out _ (HB.out.2.trans ((HQ.out _ q.h).mono HB.out.2.size))).2.2.1
  have n3:∀q:Kin C,q.x.cell? ⟨b,off+20+3,none⟩=some (.slice bo1 l1 bc1):=fun q=>(HD.out _ (HB.out.2.trans ((HQ.out _ q.h).mono HB.out.2.size))).2.2.2
  refine wp_region_gs (C:=C) (E:=byDst fun d=>if d=13 then some (truth false)else if d=21 then some (truth false)else if d=60 then some (truth false)else none) (R:=Later) HNx.out (byDst_later (by intro d s hs u x y hx hl;split at hs;(cases hs;exact truthC_later hx hl);split at hs;(cases hs;exact truthC_later hx hl);split at hs;(cases hs;exact truthC_later hx hl);cases hs)) (byDst_looks _ _) (by kernel_rfl) (by kernel_rfl) H0.out ?_
  iterate 8 (refine gs_plain rfl (fun K hK=>?_);go_simp;refine hK _ ?_;clear hK K)
  refine gs_loadO Tryz.isNd rfl (by first|rfl|kernel_rfl) _ rfl b off rfl y0.A rfl (fun q=>HC0.out _ (HB.out.2.trans ((HQ.out _ q.h).mono HB.out.2.size))) ?_
  refine gs_call (truth false) rfl (by first|rfl|kernel_rfl) (fun wq hB=>?_) (fun uq hu=>?_)
  ·go_simp
   refine⟨rfl,?_⟩
   exact truth_of (fun _ h=>h) (C0.out _ (HB.out.2.trans ((HQ.out _ hB.1).mono HB.out.2.size)))
  obtain rfl:=hu
  iterate 3 (refine gs_plain rfl (fun K hK=>?_);go_simp;refine hK _ ?_;clear hK K)
  iterate 4 (refine gs_plain rfl (fun K hK=>?_);go_simp;refine hK _ ?_;clear hK K)
  refine gs_skip (by first|rfl|kernel_rfl) ?_
  iterate 3 (refine gs_plain rfl (fun K hK=>?_);go_simp;refine hK _ ?_;clear hK K)
  iterate 33 (refine gs_plain rfl (fun K hK=>?_);go_simp;refine hK _ ?_;clear hK K)
  iterate 2 (refine gs_plain rfl (fun K hK=>?_);go_simp;refine hK _ ?_;clear hK K)
  refine gs_skip (by first|rfl|kernel_rfl) ?_
  iterate 3 (refine gs_plain rfl (fun K hK=>?_);go_simp;refine hK _ ?_;clear hK K)
  iterate 5 (refine gs_plain rfl (fun K hK=>?_);go_simp;refine hK _ ?_;clear hK K)
  refine gs_end (fun w2 hz=>?_)
  have HB2:Hid (Below w.heap.size w w2∧StB w2 w.heap.size 33 (prA (.slice (some ⟨b,off,none⟩) 2 uc) (.slice vo ps.length vc) (.slice xo es.length xc))):=⟨HB.out.2.trans ((HQ.out _ hz.1).mono HB.out.2.size),HB.out.1.below (HQ.out _ hz.1)⟩
  clear hz HQ HNx H0 hne m0 m1 m2 n0 n1 n2 n3
  go_wp2
  go_ret
  rw[HX.out]
  exact⟨rfl,HB2.out.1⟩
 |true=>
  cases b1 with
  |false=>
   have HX:Hid (t=false):=by rw[Hid,HE.out];simp
   clear HE
   obtain⟨C,hCd⟩:∃C,C=fun x=>Below w1.heap.size w1 x:=⟨_,rfl⟩
   have HQ:Hid (∀x,C x→Below w1.heap.size w1 x):=by rw[hCd];exact fun _ h=>h
   have HNx:Hid (∀x y,C x→Later x y→C y):=by rw[hCd];exact fun _ _ h b=>h.trans (b.mono h.size)
   have H0:Hid (C w1.drew):=by rw[hCd];exact(Below.refl _ _).drew
   have hne:Nonempty (Kin C):=⟨⟨_,H0.out⟩⟩
   clear hCd
   have m0:∀q:Kin C,q.x.cell? ⟨w.heap.size,0,none⟩=some (.slice (some ⟨b,off,none⟩) 2 uc):=fun q=>later_cell (HB.out.1.cell 0 rfl) (HQ.out _ q.h)
   have m1:∀q:Kin C,q.x.cell? ⟨w.heap.size,1,none⟩=some (.slice vo ps.length vc):=fun q=>later_cell (HB.out.1.cell 1 rfl) (HQ.out _ q.h)
   have m2:∀q:Kin C,q.x.cell? ⟨w.heap.size,2,none⟩=some (.slice xo es.length xc):=fun q=>later_cell (HB.out.1.cell 2 rfl) (HQ.out _ q.h)
   have n0:∀q:Kin C,q.x.cell? ⟨b,off,none⟩=some (.int .i64 i0):=fun q=>(HD.out _ (HB.out.2.trans ((HQ.out _ q.h).mono HB.out.2.size))).1
   have n1:∀q:Kin C,q.x.cell? ⟨b,off+20,none⟩=some (.int .i64 i1):=fun q=>(HD.out _ (HB.out.2.trans ((HQ.out _ q.h).mono HB.out.2.size))).2.1
   have n2:∀q:Kin C,q.x.cell? ⟨b,off+3,none⟩=some (.slice bo0 l0 bc0):=fun q=>(HD.out _ (HB.out.2.trans ((HQ.out _ q.h).mono HB.out.2.size))).2.2.1
   have n3:∀q:Kin C,q.x.cell? ⟨b,off+20+3,none⟩=some (.slice bo1 l1 bc1):=fun q=>(HD.out _ (HB.out.2.trans ((HQ.out _ q.h).mono HB.out.2.size))).2.2.2
   refine wp_region_gs (C:=C) (E:=byDst fun d=>if d=13 then some (truth true)else if d=21 then some (truth false)else if d=60 then some (truth false)else none) (R:=Later) HNx.out (byDst_later (by intro d s hs u x y hx hl;split at hs;(cases hs;exact truthC_later hx hl);split at hs;(cases hs;exact truthC_later hx hl);split at hs;(cases hs;exact truthC_later hx hl);cases hs)) (byDst_looks _ _) (by kernel_rfl) (by kernel_rfl) H0.out ?_
   iterate 8 (refine gs_plain rfl (fun K hK=>?_);go_simp;refine hK _ ?_;clear hK K)
   refine gs_loadO Tryz.isNd rfl (by first|rfl|kernel_rfl) _ rfl b off rfl y0.A rfl (fun q=>HC0.out _ (HB.out.2.trans ((HQ.out _ q.h).mono HB.out.2.size))) ?_
   refine gs_call (truth true) rfl (by first|rfl|kernel_rfl) (fun wq hB=>?_) (fun uq hu=>?_)
   ·go_simp
    refine⟨rfl,?_⟩
    exact truth_of (fun _ h=>h) (C0.out _ (HB.out.2.trans ((HQ.out _ hB.1).mono HB.out.2.size)))
   obtain rfl:=hu
   iterate 3 (refine gs_plain rfl (fun K hK=>?_);go_simp;refine hK _ ?_;clear hK K)
   iterate 3 (refine gs_plain rfl (fun K hK=>?_);go_simp;refine hK _ ?_;clear hK K)
   refine gs_loadO Tryz.isNd rfl (by first|rfl|kernel_rfl) _ rfl b (off+20) rfl y1.A rfl (fun q=>HC1.out _ (HB.out.2.trans ((HQ.out _ q.h).mono HB.out.2.size))) ?_
   refine gs_call (truth false) rfl (by first|rfl|kernel_rfl) (fun wq hB=>?_) (fun uq hu=>?_)
   ·go_simp
    refine⟨rfl,?_⟩
    exact truth_of (fun _ h=>h) (C1.out _ (HB.out.2.trans ((HQ.out _ hB.1).mono HB.out.2.size)))
   obtain rfl:=hu
   iterate 3 (refine gs_plain rfl (fun K hK=>?_);go_simp;refine hK _ ?_;clear hK K)
   iterate 33 (refine gs_plain rfl (fun K hK=>?_);go_simp;refine hK _ ?_;clear hK K)
   iterate 2 (refine gs_plain rfl (fun K hK=>?_);go_simp;refine hK _ ?_;clear hK K)
   refine gs_skip (by first|rfl|kernel_rfl) ?_
   iterate 3 (refine gs_plain rfl (fun K hK=>?_);go_simp;refine hK _ ?_;clear hK K)
   iterate 5 (refine gs_plain rfl (fun K hK=>?_);go_simp;refine hK _ ?_;clear hK K)
   refine gs_end (fun w2 hz=>?_)
   have HB2:Hid (Below w.heap.size w w2∧StB w2 w.heap.size 33 (prA (.slice (some ⟨b,off,none⟩) 2 uc) (.slice vo ps.length vc) (.slice xo es.length xc))):=⟨HB.out.2.trans ((HQ.out _ hz.1).mono HB.out.2.size),HB.out.1.below (HQ.out _ hz.1)⟩
   clear hz HQ HNx H0 hne m0 m1 m2 n0 n1 n2 n3
   go_wp2
   go_ret
   rw[HX.out]
   exact⟨rfl,HB2.out.1⟩
  |true=>
   by_cases hi0:i0=0
   case neg=>
    have HX:Hid (t=false):=by rw[Hid,HE.out];simp[hi0]
    clear HE
    obtain⟨C,hCd⟩:∃C,C=fun x=>Below w1.heap.size w1 x:=⟨_,rfl⟩
    have HQ:Hid (∀x,C x→Below w1.heap.size w1 x):=by rw[hCd];exact fun _ h=>h
    have HNx:Hid (∀x y,C x→Later x y→C y):=by rw[hCd];exact fun _ _ h b=>h.trans (b.mono h.size)
    have H0:Hid (C w1.drew):=by rw[hCd];exact(Below.refl _ _).drew
    have hne:Nonempty (Kin C):=⟨⟨_,H0.out⟩⟩
    clear hCd
    have m0:∀q:Kin C,q.x.cell? ⟨w.heap.size,0,none⟩=some (.slice (some ⟨b,off,none⟩) 2 uc):=fun q=>later_cell (HB.out.1.cell 0 rfl) (HQ.out _ q.h)
    have m1:∀q:Kin C,q.x.cell? ⟨w.heap.size,1,none⟩=some (.slice vo ps.length vc):=fun q=>later_cell (HB.out.1.cell 1 rfl) (HQ.out _ q.h)
    have m2:∀q:Kin C,q.x.cell? ⟨w.heap.size,2,none⟩=some (.slice xo es.length xc):=fun q=>later_cell (HB.out.1.cell 2 rfl) (HQ.out _ q.h)
    have n0:∀q:Kin C,q.x.cell? ⟨b,off,none⟩=some (.int .i64 i0):=fun q=>(HD.out _ (HB.out.2.trans ((HQ.out _ q.h).mono HB.out.2.size))).1
    have n1:∀q:Kin C,q.x.cell? ⟨b,off+20,none⟩=some (.int .i64 i1):=fun q=>(HD.out _ (HB.out.2.trans ((HQ.out _ q.h).mono HB.out.2.size))).2.1
    have n2:∀q:Kin C,q.x.cell? ⟨b,off+3,none⟩=some (.slice bo0 l0 bc0):=fun q=>(HD.out _ (HB.out.2.trans ((HQ.out _ q.h).mono HB.out.2.size))).2.2.1
    have n3:∀q:Kin C,q.x.cell? ⟨b,off+20+3,none⟩=some (.slice bo1 l1 bc1):=fun q=>(HD.out _ (HB.out.2.trans ((HQ.out _ q.h).mono HB.out.2.size))).2.2.2
    refine wp_region_gs (C:=C) (E:=byDst fun d=>if d=13 then some (truth true)else if d=21 then some (truth true)else if d=60 then some (truth false)else none) (R:=Later) HNx.out (byDst_later (by intro d s hs u x y hx hl;split at hs;(cases hs;exact truthC_later hx hl);split at hs;(cases hs;exact truthC_later hx hl);split at hs;(cases hs;exact truthC_later hx hl);cases hs)) (byDst_looks _ _) (by kernel_rfl) (by kernel_rfl) H0.out ?_
    iterate 8 (refine gs_plain rfl (fun K hK=>?_);go_simp;refine hK _ ?_;clear hK K)
    refine gs_loadO Tryz.isNd rfl (by first|rfl|kernel_rfl) _ rfl b off rfl y0.A rfl (fun q=>HC0.out _ (HB.out.2.trans ((HQ.out _ q.h).mono HB.out.2.size))) ?_
    refine gs_call (truth true) rfl (by first|rfl|kernel_rfl) (fun wq hB=>?_) (fun uq hu=>?_)
    ·go_simp
     refine⟨rfl,?_⟩
     exact truth_of (fun _ h=>h) (C0.out _ (HB.out.2.trans ((HQ.out _ hB.1).mono HB.out.2.size)))
    obtain rfl:=hu
    iterate 3 (refine gs_plain rfl (fun K hK=>?_);go_simp;refine hK _ ?_;clear hK K)
    iterate 3 (refine gs_plain rfl (fun K hK=>?_);go_simp;refine hK _ ?_;clear hK K)
    refine gs_loadO Tryz.isNd rfl (by first|rfl|kernel_rfl) _ rfl b (off+20) rfl y1.A rfl (fun q=>HC1.out _ (HB.out.2.trans ((HQ.out _ q.h).mono HB.out.2.size))) ?_
    refine gs_call (truth true) rfl (by first|rfl|kernel_rfl) (fun wq hB=>?_) (fun uq hu=>?_)
    ·go_simp
     refine⟨rfl,?_⟩
     exact truth_of (fun _ h=>h) (C1.out _ (HB.out.2.trans ((HQ.out _ hB.1).mono HB.out.2.size)))
    obtain rfl:=hu
    iterate 3 (refine gs_plain rfl (fun K hK=>?_);go_simp;refine hK _ ?_;clear hK K)
    iterate 33 (refine gs_plain rfl (fun K hK=>?_);go_simp;refine hK _ ?_;clear hK K)
    iterate 2 (refine gs_plain rfl (fun K hK=>?_);go_simp;refine hK _ ?_;clear hK K)
    refine gs_skip (by first|rfl|kernel_rfl) ?_
    iterate 3 (refine gs_plain rfl (fun K hK=>?_);go_simp;refine hK _ ?_;clear hK K)
    iterate 5 (refine gs_plain rfl (fun K hK=>?_);go_simp;refine hK _ ?_;clear hK K)
    refine gs_end (fun w2 hz=>?_)
    have HB2:Hid (Below w.heap.size w w2∧StB w2 w.heap.size 33 (prA (.slice (some ⟨b,off,none⟩) 2 uc) (.slice vo ps.length vc) (.slice xo es.length xc))):=⟨HB.out.2.trans ((HQ.out _ hz.1).mono HB.out.2.size),HB.out.1.below (HQ.out _ hz.1)⟩
    clear hz HQ HNx H0 hne m0 m1 m2 n0 n1 n2 n3
    go_wp2
    go_ret
    rw[HX.out]
    exact⟨rfl,HB2.out.1⟩
   case pos=>
    subst hi0
    by_cases hi1:i1=1
    case neg=>
     have HX:Hid (t=false):=by rw[Hid,HE.out];simp[hi1]
     clear HE
     obtain⟨C,hCd⟩:∃C,C=fun x=>Below w1.heap.size w1 x:=⟨_,rfl⟩
     have HQ:Hid (∀x,C x→Below w1.heap.size w1 x):=by rw[hCd];exact fun _ h=>h
     have HNx:Hid (∀x y,C x→Later x y→C y):=by rw[hCd];exact fun _ _ h b=>h.trans (b.mono h.size)
     have H0:Hid (C w1.drew):=by rw[hCd];exact(Below.refl _ _).drew
     have hne:Nonempty (Kin C):=⟨⟨_,H0.out⟩⟩
     clear hCd
     have m0:∀q:Kin C,q.x.cell? ⟨w.heap.size,0,none⟩=some (.slice (some ⟨b,off,none⟩) 2 uc):=fun q=>later_cell (HB.out.1.cell 0 rfl) (HQ.out _ q.h)
     have m1:∀q:Kin C,q.x.cell? ⟨w.heap.size,1,none⟩=some (.slice vo ps.length vc):=fun q=>later_cell (HB.out.1.cell 1 rfl) (HQ.out _ q.h)
     have m2:∀q:Kin C,q.x.cell? ⟨w.heap.size,2,none⟩=some (.slice xo es.length xc):=fun q=>later_cell (HB.out.1.cell 2 rfl) (HQ.out _ q.h)
     have n0:∀q:Kin C,q.x.cell? ⟨b,off,none⟩=some (.int .i64 0):=fun q=>(HD.out _ (HB.out.2.trans ((HQ.out _ q.h).mono HB.out.2.size))).1
     have n1:∀q:Kin C,q.x.cell? ⟨b,off+20,none⟩=some (.int .i64 i1):=fun q=>(HD.out _ (HB.out.2.trans ((HQ.out _ q.h).mono HB.out.2.size))).2.1
     have n2:∀q:Kin C,q.x.cell? ⟨b,off+3,none⟩=some (.slice bo0 l0 bc0):=fun q=>(HD.out _ (HB.out.2.trans ((HQ.out _ q.h).mono HB.out.2.size))).2.2.1
     have n3:∀q:Kin C,q.x.cell? ⟨b,off+20+3,none⟩=some (.slice bo1 l1 bc1):=fun q=>(HD.out _ (HB.out.2.trans ((HQ.out _ q.h).mono HB.out.2.size))).2.2.2
     refine wp_region_gs (C:=C) (E:=byDst fun d=>if d=13 then some (truth true)else if d=21 then some (truth true)else if d=60 then some (truth false)else none) (R:=Later) HNx.out (byDst_later (by intro d s hs u x y hx hl;split at hs;(cases hs;exact truthC_later hx hl);split at hs;(cases hs;exact truthC_later hx hl);split at hs;(cases hs;exact truthC_later hx hl);cases hs)) (byDst_looks _ _) (by kernel_rfl) (by kernel_rfl) H0.out ?_
     iterate 8 (refine gs_plain rfl (fun K hK=>?_);go_simp;refine hK _ ?_;clear hK K)
     refine gs_loadO Tryz.isNd rfl (by first|rfl|kernel_rfl) _ rfl b off rfl y0.A rfl (fun q=>HC0.out _ (HB.out.2.trans ((HQ.out _ q.h).mono HB.out.2.size))) ?_
     refine gs_call (truth true) rfl (by first|rfl|kernel_rfl) (fun wq hB=>?_) (fun uq hu=>?_)
     ·go_simp
      refine⟨rfl,?_⟩
      exact truth_of (fun _ h=>h) (C0.out _ (HB.out.2.trans ((HQ.out _ hB.1).mono HB.out.2.size)))
     obtain rfl:=hu
     iterate 3 (refine gs_plain rfl (fun K hK=>?_);go_simp;refine hK _ ?_;clear hK K)
     iterate 3 (refine gs_plain rfl (fun K hK=>?_);go_simp;refine hK _ ?_;clear hK K)
     refine gs_loadO Tryz.isNd rfl (by first|rfl|kernel_rfl) _ rfl b (off+20) rfl y1.A rfl (fun q=>HC1.out _ (HB.out.2.trans ((HQ.out _ q.h).mono HB.out.2.size))) ?_
     refine gs_call (truth true) rfl (by first|rfl|kernel_rfl) (fun wq hB=>?_) (fun uq hu=>?_)
     ·go_simp
      refine⟨rfl,?_⟩
      exact truth_of (fun _ h=>h) (C1.out _ (HB.out.2.trans ((HQ.out _ hB.1).mono HB.out.2.size)))
     obtain rfl:=hu
     iterate 3 (refine gs_plain rfl (fun K hK=>?_);go_simp;refine hK _ ?_;clear hK K)
     iterate 33 (refine gs_plain rfl (fun K hK=>?_);go_simp;refine hK _ ?_;clear hK K)
     iterate 2 (refine gs_plain rfl (fun K hK=>?_);go_simp;refine hK _ ?_;clear hK K)
     refine gs_skip (by first|rfl|kernel_rfl) ?_
     iterate 3 (refine gs_plain rfl (fun K hK=>?_);go_simp;refine hK _ ?_;clear hK K)
     iterate 5 (refine gs_plain rfl (fun K hK=>?_);go_simp;refine hK _ ?_;clear hK K)
     refine gs_end (fun w2 hz=>?_)
     have HB2:Hid (Below w.heap.size w w2∧StB w2 w.heap.size 33 (prA (.slice (some ⟨b,off,none⟩) 2 uc) (.slice vo ps.length vc) (.slice xo es.length xc))):=⟨HB.out.2.trans ((HQ.out _ hz.1).mono HB.out.2.size),HB.out.1.below (HQ.out _ hz.1)⟩
     clear hz HQ HNx H0 hne m0 m1 m2 n0 n1 n2 n3
     go_wp2
     go_ret
     rw[HX.out]
     exact⟨rfl,HB2.out.1⟩
    case pos=>
     subst hi1
     by_cases hl:l0=l1
     case neg=>
      have hlb:((l0:Int) !=(l1:Int))=true:=by rw[bne_iff_ne];omega
      have HX:Hid (t=false):=by rw[Hid,HE.out];simp[hl]
      clear HE
      obtain⟨C,hCd⟩:∃C,C=fun x=>Below w1.heap.size w1 x:=⟨_,rfl⟩
      have HQ:Hid (∀x,C x→Below w1.heap.size w1 x):=by rw[hCd];exact fun _ h=>h
      have HNx:Hid (∀x y,C x→Later x y→C y):=by rw[hCd];exact fun _ _ h b=>h.trans (b.mono h.size)
      have H0:Hid (C w1.drew):=by rw[hCd];exact(Below.refl _ _).drew
      have hne:Nonempty (Kin C):=⟨⟨_,H0.out⟩⟩
      clear hCd
      have m0:∀q:Kin C,q.x.cell? ⟨w.heap.size,0,none⟩=some (.slice (some ⟨b,off,none⟩) 2 uc):=fun q=>later_cell (HB.out.1.cell 0 rfl) (HQ.out _ q.h)
      have m1:∀q:Kin C,q.x.cell? ⟨w.heap.size,1,none⟩=some (.slice vo ps.length vc):=fun q=>later_cell (HB.out.1.cell 1 rfl) (HQ.out _ q.h)
      have m2:∀q:Kin C,q.x.cell? ⟨w.heap.size,2,none⟩=some (.slice xo es.length xc):=fun q=>later_cell (HB.out.1.cell 2 rfl) (HQ.out _ q.h)
      have n0:∀q:Kin C,q.x.cell? ⟨b,off,none⟩=some (.int .i64 0):=fun q=>(HD.out _ (HB.out.2.trans ((HQ.out _ q.h).mono HB.out.2.size))).1
      have n1:∀q:Kin C,q.x.cell? ⟨b,off+20,none⟩=some (.int .i64 1):=fun q=>(HD.out _ (HB.out.2.trans ((HQ.out _ q.h).mono HB.out.2.size))).2.1
      have n2:∀q:Kin C,q.x.cell? ⟨b,off+3,none⟩=some (.slice bo0 l0 bc0):=fun q=>(HD.out _ (HB.out.2.trans ((HQ.out _ q.h).mono HB.out.2.size))).2.2.1
      have n3:∀q:Kin C,q.x.cell? ⟨b,off+20+3,none⟩=some (.slice bo1 l1 bc1):=fun q=>(HD.out _ (HB.out.2.trans ((HQ.out _ q.h).mono HB.out.2.size))).2.2.2
      refine wp_region_gs (C:=C) (E:=byDst fun d=>if d=13 then some (truth true)else if d=21 then some (truth true)else if d=60 then some (truth false)else none) (R:=Later) HNx.out (byDst_later (by intro d s hs u x y hx hl;split at hs;(cases hs;exact truthC_later hx hl);split at hs;(cases hs;exact truthC_later hx hl);split at hs;(cases hs;exact truthC_later hx hl);cases hs)) (byDst_looks _ _) (by kernel_rfl) (by kernel_rfl) H0.out ?_
      iterate 8 (refine gs_plain rfl (fun K hK=>?_);go_simp;refine hK _ ?_;clear hK K)
      refine gs_loadO Tryz.isNd rfl (by first|rfl|kernel_rfl) _ rfl b off rfl y0.A rfl (fun q=>HC0.out _ (HB.out.2.trans ((HQ.out _ q.h).mono HB.out.2.size))) ?_
      refine gs_call (truth true) rfl (by first|rfl|kernel_rfl) (fun wq hB=>?_) (fun uq hu=>?_)
      ·go_simp
       refine⟨rfl,?_⟩
       exact truth_of (fun _ h=>h) (C0.out _ (HB.out.2.trans ((HQ.out _ hB.1).mono HB.out.2.size)))
      obtain rfl:=hu
      iterate 3 (refine gs_plain rfl (fun K hK=>?_);go_simp;refine hK _ ?_;clear hK K)
      iterate 3 (refine gs_plain rfl (fun K hK=>?_);go_simp;refine hK _ ?_;clear hK K)
      refine gs_loadO Tryz.isNd rfl (by first|rfl|kernel_rfl) _ rfl b (off+20) rfl y1.A rfl (fun q=>HC1.out _ (HB.out.2.trans ((HQ.out _ q.h).mono HB.out.2.size))) ?_
      refine gs_call (truth true) rfl (by first|rfl|kernel_rfl) (fun wq hB=>?_) (fun uq hu=>?_)
      ·go_simp
       refine⟨rfl,?_⟩
       exact truth_of (fun _ h=>h) (C1.out _ (HB.out.2.trans ((HQ.out _ hB.1).mono HB.out.2.size)))
      obtain rfl:=hu
      iterate 3 (refine gs_plain rfl (fun K hK=>?_);go_simp;refine hK _ ?_;clear hK K)
      iterate 33 (refine gs_plain rfl (fun K hK=>?_);go_simp;refine hK _ ?_;clear hK K)
      iterate 2 (refine gs_plain rfl (fun K hK=>?_);go_simp;refine hK _ ?_;clear hK K)
      refine gs_skip (by first|rfl|kernel_rfl) ?_
      iterate 3 (refine gs_plain rfl (fun K hK=>?_);go_simp;refine hK _ ?_;clear hK K)
      iterate 5 (refine gs_plain rfl (fun K hK=>?_);go_simp;refine hK _ ?_;clear hK K)
      refine gs_end (fun w2 hz=>?_)
      have HB2:Hid (Below w.heap.size w w2∧StB w2 w.heap.size 33 (prA (.slice (some ⟨b,off,none⟩) 2 uc) (.slice vo ps.length vc) (.slice xo es.length xc))):=⟨HB.out.2.trans ((HQ.out _ hz.1).mono HB.out.2.size),HB.out.1.below (HQ.out _ hz.1)⟩
      clear hz HQ HNx H0 hne m0 m1 m2 n0 n1 n2 n3
      go_wp2
      go_ret
      rw[HX.out]
      exact⟨rfl,HB2.out.1⟩
     case pos=>
      subst hl
      cases bp with
      |false=>
       have HX:Hid (t=false):=by rw[Hid,HE.out];simp
       clear HE
       obtain⟨C,hCd⟩:∃C,C=fun x=>Below w1.heap.size w1 x:=⟨_,rfl⟩
       have HQ:Hid (∀x,C x→Below w1.heap.size w1 x):=by rw[hCd];exact fun _ h=>h
       have HNx:Hid (∀x y,C x→Later x y→C y):=by rw[hCd];exact fun _ _ h b=>h.trans (b.mono h.size)
       have H0:Hid (C w1.drew):=by rw[hCd];exact(Below.refl _ _).drew
       have hne:Nonempty (Kin C):=⟨⟨_,H0.out⟩⟩
       clear hCd
       have m0:∀q:Kin C,q.x.cell? ⟨w.heap.size,0,none⟩=some (.slice (some ⟨b,off,none⟩) 2 uc):=fun q=>later_cell (HB.out.1.cell 0 rfl) (HQ.out _ q.h)
       have m1:∀q:Kin C,q.x.cell? ⟨w.heap.size,1,none⟩=some (.slice vo ps.length vc):=fun q=>later_cell (HB.out.1.cell 1 rfl) (HQ.out _ q.h)
       have m2:∀q:Kin C,q.x.cell? ⟨w.heap.size,2,none⟩=some (.slice xo es.length xc):=fun q=>later_cell (HB.out.1.cell 2 rfl) (HQ.out _ q.h)
       have n0:∀q:Kin C,q.x.cell? ⟨b,off,none⟩=some (.int .i64 0):=fun q=>(HD.out _ (HB.out.2.trans ((HQ.out _ q.h).mono HB.out.2.size))).1
       have n1:∀q:Kin C,q.x.cell? ⟨b,off+20,none⟩=some (.int .i64 1):=fun q=>(HD.out _ (HB.out.2.trans ((HQ.out _ q.h).mono HB.out.2.size))).2.1
       have n2:∀q:Kin C,q.x.cell? ⟨b,off+3,none⟩=some (.slice bo0 l0 bc0):=fun q=>(HD.out _ (HB.out.2.trans ((HQ.out _ q.h).mono HB.out.2.size))).2.2.1
       have n3:∀q:Kin C,q.x.cell? ⟨b,off+20+3,none⟩=some (.slice bo1 l0 bc1):=fun q=>(HD.out _ (HB.out.2.trans ((HQ.out _ q.h).mono HB.out.2.size))).2.2.2
       refine wp_region_gs (C:=C) (E:=byDst fun d=>if d=13 then some (truth true)else if d=21 then some (truth true)else if d=60 then some (truth false)else none) (R:=Later) HNx.out (byDst_later (by intro d s hs u x y hx hl;split at hs;(cases hs;exact truthC_later hx hl);split at hs;(cases hs;exact truthC_later hx hl);split at hs;(cases hs;exact truthC_later hx hl);cases hs)) (byDst_looks _ _) (by kernel_rfl) (by kernel_rfl) H0.out ?_
       iterate 8 (refine gs_plain rfl (fun K hK=>?_);go_simp;refine hK _ ?_;clear hK K)
       refine gs_loadO Tryz.isNd rfl (by first|rfl|kernel_rfl) _ rfl b off rfl y0.A rfl (fun q=>HC0.out _ (HB.out.2.trans ((HQ.out _ q.h).mono HB.out.2.size))) ?_
       refine gs_call (truth true) rfl (by first|rfl|kernel_rfl) (fun wq hB=>?_) (fun uq hu=>?_)
       ·go_simp
        refine⟨rfl,?_⟩
        exact truth_of (fun _ h=>h) (C0.out _ (HB.out.2.trans ((HQ.out _ hB.1).mono HB.out.2.size)))
       obtain rfl:=hu
       iterate 3 (refine gs_plain rfl (fun K hK=>?_);go_simp;refine hK _ ?_;clear hK K)
       iterate 3 (refine gs_plain rfl (fun K hK=>?_);go_simp;refine hK _ ?_;clear hK K)
       refine gs_loadO Tryz.isNd rfl (by first|rfl|kernel_rfl) _ rfl b (off+20) rfl y1.A rfl (fun q=>HC1.out _ (HB.out.2.trans ((HQ.out _ q.h).mono HB.out.2.size))) ?_
       refine gs_call (truth true) rfl (by first|rfl|kernel_rfl) (fun wq hB=>?_) (fun uq hu=>?_)
       ·go_simp
        refine⟨rfl,?_⟩
        exact truth_of (fun _ h=>h) (C1.out _ (HB.out.2.trans ((HQ.out _ hB.1).mono HB.out.2.size)))
       obtain rfl:=hu
       iterate 3 (refine gs_plain rfl (fun K hK=>?_);go_simp;refine hK _ ?_;clear hK K)
       iterate 33 (refine gs_plain rfl (fun K hK=>?_);go_simp;refine hK _ ?_;clear hK K)
       iterate 2 (refine gs_plain rfl (fun K hK=>?_);go_simp;refine hK _ ?_;clear hK K)
       refine gs_call (truth false) rfl (by first|rfl|kernel_rfl) (fun wq hB=>?_) (fun uq hu=>?_)
       ·go_simp
        refine⟨rfl,?_⟩
        exact truth_of (fun _ h=>h) (CP.out _ (HB.out.2.trans ((HQ.out _ hB.1).mono HB.out.2.size)))
       obtain rfl:=hu
       iterate 3 (refine gs_plain rfl (fun K hK=>?_);go_simp;refine hK _ ?_;clear hK K)
       iterate 5 (refine gs_plain rfl (fun K hK=>?_);go_simp;refine hK _ ?_;clear hK K)
       refine gs_end (fun w2 hz=>?_)
       have HB2:Hid (Below w.heap.size w w2∧StB w2 w.heap.size 33 (prA (.slice (some ⟨b,off,none⟩) 2 uc) (.slice vo ps.length vc) (.slice xo es.length xc))):=⟨HB.out.2.trans ((HQ.out _ hz.1).mono HB.out.2.size),HB.out.1.below (HQ.out _ hz.1)⟩
       clear hz HQ HNx H0 hne m0 m1 m2 n0 n1 n2 n3
       go_wp2
       go_ret
       rw[HX.out]
       exact⟨rfl,HB2.out.1⟩
      |true=>
       by_cases he:es.length≤300
       case neg=>
        have he':¬(es.length:Int)≤300:=by omega
        have he'':(300:Int)<(es.length:Int):=by omega
        have HX:Hid (t=false):=by rw[Hid,HE.out];simp[he]
        clear HE
        obtain⟨C,hCd⟩:∃C,C=fun x=>Below w1.heap.size w1 x:=⟨_,rfl⟩
        have HQ:Hid (∀x,C x→Below w1.heap.size w1 x):=by rw[hCd];exact fun _ h=>h
        have HNx:Hid (∀x y,C x→Later x y→C y):=by rw[hCd];exact fun _ _ h b=>h.trans (b.mono h.size)
        have H0:Hid (C w1.drew):=by rw[hCd];exact(Below.refl _ _).drew
        have hne:Nonempty (Kin C):=⟨⟨_,H0.out⟩⟩
        clear hCd
        have m0:∀q:Kin C,q.x.cell? ⟨w.heap.size,0,none⟩=some (.slice (some ⟨b,off,none⟩) 2 uc):=fun q=>later_cell (HB.out.1.cell 0 rfl) (HQ.out _ q.h)
        have m1:∀q:Kin C,q.x.cell? ⟨w.heap.size,1,none⟩=some (.slice vo ps.length vc):=fun q=>later_cell (HB.out.1.cell 1 rfl) (HQ.out _ q.h)
        have m2:∀q:Kin C,q.x.cell? ⟨w.heap.size,2,none⟩=some (.slice xo es.length xc):=fun q=>later_cell (HB.out.1.cell 2 rfl) (HQ.out _ q.h)
        have n0:∀q:Kin C,q.x.cell? ⟨b,off,none⟩=some (.int .i64 0):=fun q=>(HD.out _ (HB.out.2.trans ((HQ.out _ q.h).mono HB.out.2.size))).1
        have n1:∀q:Kin C,q.x.cell? ⟨b,off+20,none⟩=some (.int .i64 1):=fun q=>(HD.out _ (HB.out.2.trans ((HQ.out _ q.h).mono HB.out.2.size))).2.1
        have n2:∀q:Kin C,q.x.cell? ⟨b,off+3,none⟩=some (.slice bo0 l0 bc0):=fun q=>(HD.out _ (HB.out.2.trans ((HQ.out _ q.h).mono HB.out.2.size))).2.2.1
        have n3:∀q:Kin C,q.x.cell? ⟨b,off+20+3,none⟩=some (.slice bo1 l0 bc1):=fun q=>(HD.out _ (HB.out.2.trans ((HQ.out _ q.h).mono HB.out.2.size))).2.2.2
        refine wp_region_gs (C:=C) (E:=byDst fun d=>if d=13 then some (truth true)else if d=21 then some (truth true)else if d=60 then some (truth true)else none) (R:=Later) HNx.out (byDst_later (by intro d s hs u x y hx hl;split at hs;(cases hs;exact truthC_later hx hl);split at hs;(cases hs;exact truthC_later hx hl);split at hs;(cases hs;exact truthC_later hx hl);cases hs)) (byDst_looks _ _) (by kernel_rfl) (by kernel_rfl) H0.out ?_
        iterate 8 (refine gs_plain rfl (fun K hK=>?_);go_simp;refine hK _ ?_;clear hK K)
        refine gs_loadO Tryz.isNd rfl (by first|rfl|kernel_rfl) _ rfl b off rfl y0.A rfl (fun q=>HC0.out _ (HB.out.2.trans ((HQ.out _ q.h).mono HB.out.2.size))) ?_
        refine gs_call (truth true) rfl (by first|rfl|kernel_rfl) (fun wq hB=>?_) (fun uq hu=>?_)
        ·go_simp
         refine⟨rfl,?_⟩
         exact truth_of (fun _ h=>h) (C0.out _ (HB.out.2.trans ((HQ.out _ hB.1).mono HB.out.2.size)))
        obtain rfl:=hu
        iterate 3 (refine gs_plain rfl (fun K hK=>?_);go_simp;refine hK _ ?_;clear hK K)
        iterate 3 (refine gs_plain rfl (fun K hK=>?_);go_simp;refine hK _ ?_;clear hK K)
        refine gs_loadO Tryz.isNd rfl (by first|rfl|kernel_rfl) _ rfl b (off+20) rfl y1.A rfl (fun q=>HC1.out _ (HB.out.2.trans ((HQ.out _ q.h).mono HB.out.2.size))) ?_
        refine gs_call (truth true) rfl (by first|rfl|kernel_rfl) (fun wq hB=>?_) (fun uq hu=>?_)
        ·go_simp
         refine⟨rfl,?_⟩
         exact truth_of (fun _ h=>h) (C1.out _ (HB.out.2.trans ((HQ.out _ hB.1).mono HB.out.2.size)))
        obtain rfl:=hu
        iterate 3 (refine gs_plain rfl (fun K hK=>?_);go_simp;refine hK _ ?_;clear hK K)
        iterate 33 (refine gs_plain rfl (fun K hK=>?_);go_simp;refine hK _ ?_;clear hK K)
        iterate 2 (refine gs_plain rfl (fun K hK=>?_);go_simp;refine hK _ ?_;clear hK K)
        refine gs_call (truth true) rfl (by first|rfl|kernel_rfl) (fun wq hB=>?_) (fun uq hu=>?_)
        ·go_simp
         refine⟨rfl,?_⟩
         exact truth_of (fun _ h=>h) (CP.out _ (HB.out.2.trans ((HQ.out _ hB.1).mono HB.out.2.size)))
        obtain rfl:=hu
        iterate 3 (refine gs_plain rfl (fun K hK=>?_);go_simp;refine hK _ ?_;clear hK K)
        iterate 5 (refine gs_plain rfl (fun K hK=>?_);go_simp;refine hK _ ?_;clear hK K)
        refine gs_end (fun w2 hz=>?_)
        have HB2:Hid (Below w.heap.size w w2∧StB w2 w.heap.size 33 (prA (.slice (some ⟨b,off,none⟩) 2 uc) (.slice vo ps.length vc) (.slice xo es.length xc))):=⟨HB.out.2.trans ((HQ.out _ hz.1).mono HB.out.2.size),HB.out.1.below (HQ.out _ hz.1)⟩
        clear hz HQ HNx H0 hne m0 m1 m2 n0 n1 n2 n3
        go_wp2
        go_ret
        rw[HX.out]
        exact⟨rfl,HB2.out.1⟩
       case pos=>
        skip
        have he'':¬(300:Int)<(es.length:Int):=by omega
        have HX:Hid (t=es.all Ev.ok):=by rw[Hid,HE.out];simp[he]
        clear HE
        obtain⟨C,hCd⟩:∃C,C=fun x=>Below w1.heap.size w1 x:=⟨_,rfl⟩
        have HQ:Hid (∀x,C x→Below w1.heap.size w1 x):=by rw[hCd];exact fun _ h=>h
        have HNx:Hid (∀x y,C x→Later x y→C y):=by rw[hCd];exact fun _ _ h b=>h.trans (b.mono h.size)
        have H0:Hid (C w1.drew):=by rw[hCd];exact(Below.refl _ _).drew
        have hne:Nonempty (Kin C):=⟨⟨_,H0.out⟩⟩
        clear hCd
        have m0:∀q:Kin C,q.x.cell? ⟨w.heap.size,0,none⟩=some (.slice (some ⟨b,off,none⟩) 2 uc):=fun q=>later_cell (HB.out.1.cell 0 rfl) (HQ.out _ q.h)
        have m1:∀q:Kin C,q.x.cell? ⟨w.heap.size,1,none⟩=some (.slice vo ps.length vc):=fun q=>later_cell (HB.out.1.cell 1 rfl) (HQ.out _ q.h)
        have m2:∀q:Kin C,q.x.cell? ⟨w.heap.size,2,none⟩=some (.slice xo es.length xc):=fun q=>later_cell (HB.out.1.cell 2 rfl) (HQ.out _ q.h)
        have n0:∀q:Kin C,q.x.cell? ⟨b,off,none⟩=some (.int .i64 0):=fun q=>(HD.out _ (HB.out.2.trans ((HQ.out _ q.h).mono HB.out.2.size))).1
        have n1:∀q:Kin C,q.x.cell? ⟨b,off+20,none⟩=some (.int .i64 1):=fun q=>(HD.out _ (HB.out.2.trans ((HQ.out _ q.h).mono HB.out.2.size))).2.1
        have n2:∀q:Kin C,q.x.cell? ⟨b,off+3,none⟩=some (.slice bo0 l0 bc0):=fun q=>(HD.out _ (HB.out.2.trans ((HQ.out _ q.h).mono HB.out.2.size))).2.2.1
        have n3:∀q:Kin C,q.x.cell? ⟨b,off+20+3,none⟩=some (.slice bo1 l0 bc1):=fun q=>(HD.out _ (HB.out.2.trans ((HQ.out _ q.h).mono HB.out.2.size))).2.2.2
        refine wp_region_gs (C:=C) (E:=byDst fun d=>if d=13 then some (truth true)else if d=21 then some (truth true)else if d=60 then some (truth true)else none) (R:=Later) HNx.out (byDst_later (by intro d s hs u x y hx hl;split at hs;(cases hs;exact truthC_later hx hl);split at hs;(cases hs;exact truthC_later hx hl);split at hs;(cases hs;exact truthC_later hx hl);cases hs)) (byDst_looks _ _) (by kernel_rfl) (by kernel_rfl) H0.out ?_
        iterate 8 (refine gs_plain rfl (fun K hK=>?_);go_simp;refine hK _ ?_;clear hK K)
        refine gs_loadO Tryz.isNd rfl (by first|rfl|kernel_rfl) _ rfl b off rfl y0.A rfl (fun q=>HC0.out _ (HB.out.2.trans ((HQ.out _ q.h).mono HB.out.2.size))) ?_
        refine gs_call (truth true) rfl (by first|rfl|kernel_rfl) (fun wq hB=>?_) (fun uq hu=>?_)
        ·go_simp
         refine⟨rfl,?_⟩
         exact truth_of (fun _ h=>h) (C0.out _ (HB.out.2.trans ((HQ.out _ hB.1).mono HB.out.2.size)))
        obtain rfl:=hu
        iterate 3 (refine gs_plain rfl (fun K hK=>?_);go_simp;refine hK _ ?_;clear hK K)
        iterate 3 (refine gs_plain rfl (fun K hK=>?_);go_simp;refine hK _ ?_;clear hK K)
        refine gs_loadO Tryz.isNd rfl (by first|rfl|kernel_rfl) _ rfl b (off+20) rfl y1.A rfl (fun q=>HC1.out _ (HB.out.2.trans ((HQ.out _ q.h).mono HB.out.2.size))) ?_
        refine gs_call (truth true) rfl (by first|rfl|kernel_rfl) (fun wq hB=>?_) (fun uq hu=>?_)
        ·go_simp
         refine⟨rfl,?_⟩
         exact truth_of (fun _ h=>h) (C1.out _ (HB.out.2.trans ((HQ.out _ hB.1).mono HB.out.2.size)))
        obtain rfl:=hu
        iterate 3 (refine gs_plain rfl (fun K hK=>?_);go_simp;refine hK _ ?_;clear hK K)
        iterate 33 (refine gs_plain rfl (fun K hK=>?_);go_simp;refine hK _ ?_;clear hK K)
        iterate 2 (refine gs_plain rfl (fun K hK=>?_);go_simp;refine hK _ ?_;clear hK K)
        refine gs_call (truth true) rfl (by first|rfl|kernel_rfl) (fun wq hB=>?_) (fun uq hu=>?_)
        ·go_simp
         refine⟨rfl,?_⟩
         exact truth_of (fun _ h=>h) (CP.out _ (HB.out.2.trans ((HQ.out _ hB.1).mono HB.out.2.size)))
        obtain rfl:=hu
        iterate 3 (refine gs_plain rfl (fun K hK=>?_);go_simp;refine hK _ ?_;clear hK K)
        iterate 5 (refine gs_plain rfl (fun K hK=>?_);go_simp;refine hK _ ?_;clear hK K)
        refine gs_end (fun w2 hz=>?_)
        have HB2:Hid (Below w.heap.size w w2∧StB w2 w.heap.size 33 (prA (.slice (some ⟨b,off,none⟩) 2 uc) (.slice vo ps.length vc) (.slice xo es.length xc))):=⟨HB.out.2.trans ((HQ.out _ hz.1).mono HB.out.2.size),HB.out.1.below (HQ.out _ hz.1)⟩
        clear hz HQ HNx H0 hne m0 m1 m2 n0 n1 n2 n3
        clear C0 C1 CP HC0 HC1 HD he he'' HB
        obtain⟨n,hn⟩:∃n,n=es.length:=⟨_,rfl⟩
        rw[←hn]at HB2 HRE hnc⊢
        have HN:Hid (n=es.length):=hn
        clear hn
        go_wp2
        go_loopw [3] (fun i wr=>∃j:Nat,j≤n∧i=.int .i64 j∧Hid ((es.take j).all Ev.ok=true∧Below w.heap.size w wr∧StB wr w.heap.size 33 (prA (.slice (some ⟨b,off,none⟩) 2 uc) (.slice vo ps.length vc) (.slice xo n xc)))) (fun i _=>n-(intOf i).toNat)
        case atStart=>exact⟨0,Nat.zero_le _,rfl,by simp,HB2.out.1,HB2.out.2⟩
        case round=>
         obtain⟨j,hj,rfl,HI⟩:=hrel
         have p2:wr.cell? ⟨w.heap.size,2,none⟩=some (.slice xo n xc):=HI.out.2.2.cell 2 rfl
         by_cases hlt:(j:Int)<(n:Int)
         ·obtain⟨be,offe,y,he,rfl,hc⟩:=(HRE.out wr HI.out.2.1).el.2.2.2 j (by omega)
          have C:=sevent_any y wr
          have HC:Hid (∀i,i<6→wr.cell? ⟨be,offe+j*6+i,none⟩=(evA y)[i]?):=hc
          have HY:Hid (es[j]?=some y):=he
          clear hc he
          go_wp2_with (refine wpList_getO Tryz.isEv rfl _ rfl be (offe+j*6) rfl (evA y) rfl HC.out ?_)
          refine C.mono ?_
          rintro e w3 ⟨rfl,b3⟩
          have HB3:Hid (Below w.heap.size w w3∧StB w3 w.heap.size 33 (prA (.slice (some ⟨b,off,none⟩) 2 uc) (.slice vo ps.length vc) (.slice (some ⟨be,offe,none⟩) n xc))):=⟨HI.out.2.1.trans (b3.mono HI.out.2.1.size),HI.out.2.2.below b3⟩
          clear b3 C HC p2
          obtain⟨o,ho⟩:∃o,o=y.ok:=⟨_,rfl⟩
          rw[←ho]
          have HO:Hid (y.ok=o):=ho.symm
          clear ho
          cases o with
          |false=>
           have HZ:Hid (t=false):=by rw[Hid,HX.out];exact not_all_ev es j y HY.out HO.out
           go_wp2
           go_ret
           rw[HZ.out]
           exact⟨rfl,HB3.out.1⟩
          |true=>
           have HZ:Hid ((es.take (j+1)).all Ev.ok=true):=take_all_ev es j y HY.out HI.out.1 HO.out
           go_wp2
           go_roundw
           case rel=>exact⟨j+1,by omega,by go_num,HZ.out,HB3.out.1,HB3.out.2⟩
           case measure=>simp[intOf];omega
         ·have HZ:Hid (t=true):=by
           have h1:=HI.out.1
           rw[List.take_of_length_le (by have:=HN.out;omega)]at h1
           rw[Hid,HX.out,h1]
          go_wp2
          go_ret
          rw[HZ.out]
          exact⟨rfl,HI.out.2.1⟩
end Go.Proofs.YtflbcjgkdokhiaaGreatDoor
