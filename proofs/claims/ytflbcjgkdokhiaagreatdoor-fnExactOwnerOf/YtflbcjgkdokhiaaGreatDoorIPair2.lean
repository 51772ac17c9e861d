/- Pairs by the program: Node.blocks, nodesOk, PairOk, owns, Owners. -/
import Derived.Test.YtflbcjgkdokhiaaGreatDoorM34
set_option maxRecDepth 20000
set_option maxHeartbeats 8000000
namespace Go.Proofs.YtflbcjgkdokhiaaGreatDoor
open Go.ChangeShapes Go.WideShapes Go.ChangeAt Go.RowKit
def numB (n:Nat):GSpec:=⟨fun u=>u=.int .i64 (n:Int),fun _ _=>True⟩
theorem numB_of {P:Program} {f:FuncId} {args:Array Value} {w:World} {n:Nat} (h:Calls P f args w fun e w'=>e=.returned (.int .i64 (n:Int))∧Below w.heap.size w w'):Calls P f args w (fun e w''=>∃u,e=.returned u∧(numB n).V u∧(numB n).F u w''∧Later w w''):=
 h.mono fun _ _ ⟨he,hb⟩=>⟨_,he,rfl,trivial,hb⟩
theorem iblocks_any (y:Nv) (w:World) (hr:y.rd w):
  Calls Tryz.prog 58 #[.agg y.A] w fun e w'=>e=.returned (.int .i64 (y.n.ys.length:Int))∧Below w.heap.size w w':=by
 obtain⟨bo,bc,eb⟩:∃bo bc,y.b=.slice bo y.n.ys.length bc:=reads_form (RdN.rb hr)
 obtain⟨w1,hw1⟩:∃w1,w1=w.alloc (.cells y.A 56):=⟨_,rfl⟩
 have HP:Hid (Below w.heap.size w w1):=by rw[hw1];exact(Below.refl _ _).alloc (Nat.le_refl _) _
 have p3:w1.cell? ⟨w.heap.size,3,none⟩=some (.slice bo y.n.ys.length bc):=by rw[hw1,←eb];exact(StB.new w 56 y.A).cell 3 rfl
 obtain⟨l,hl⟩:∃l,l=y.n.ys.length:=⟨_,rfl⟩
 rw[←hl]at p3⊢
 clear hr eb hl
 unfold Nv.A ndA S at hw1
 unfold Nv.A ndA S
 go_enter Tryz.func58,Tryz.ntmps58
 go_upto_region 1 with fail
 rw[←hw1]
 clear hw1
 go_wp2
 go_ret
 exact⟨rfl,HP.out⟩
def nodeP (l0:Nat) (j:Nat) (n:Nd):Bool:=decide (n.id=(j:Int))&&decide (n.ys.length=l0)&&n.ok
theorem nodesP_two (a b:Nd):nodesP [a,b]=(nodeP a.ys.length 0 a&&nodeP a.ys.length 1 b):=by
 have e:decide (b.ys.length=a.ys.length)=decide (a.ys.length=b.ys.length):=decide_eq_decide.2 eq_comm
 show(a.ok&&b.ok&&decide (a.id=0)&&decide (b.id=1)&&decide (a.ys.length=b.ys.length))=((decide (a.id=0)&&decide (a.ys.length=a.ys.length)&&a.ok)&&(decide (b.id=1)&&decide (b.ys.length=a.ys.length)&&b.ok))
 rw[show decide (a.ys.length=a.ys.length)=true from decide_eq_true rfl,e]
 generalize decide (a.ys.length=b.ys.length)=d
 generalize decide (a.id=0)=p0
 generalize decide (b.id=1)=p1
 generalize a.ok=o0
 generalize b.ok=o1
 cases p0<;>cases p1<;>cases d<;>cases o0<;>cases o1<;>rfl
theorem nodesP_not {y0 y1 y:Nv} {j:Nat} (he:([y0,y1]:List Nv)[j]?=some y) (h:nodeP y0.n.ys.length j y.n=false):nodesP (nsOf [y0,y1])=false:=by
 show nodesP [y0.n,y1.n]=false
 rw[nodesP_two]
 match j,he with
 |0,he=>cases he;rw[h];rfl
 |1,he=>cases he;rw[h];simp
theorem nodesP_yes {y0 y1:Nv} (h:∀j y,j<2→([y0,y1]:List Nv)[j]?=some y→nodeP y0.n.ys.length j y.n=true):nodesP (nsOf [y0,y1])=true:=by
 show nodesP [y0.n,y1.n]=true
 rw[nodesP_two,h 0 y0 (by decide) rfl,h 1 y1 (by decide) rfl]
 rfl
theorem two_ofI {α:Type} {l:List α} (h:l.length=2):∃a b,l=[a,b]:=by
 match l,h with
 |[a,b],_=>exact⟨a,b,rfl⟩
theorem inodesok_any (v:Value) (ns:List Nv) (w:World) (hr:RdNs w v ns) (hs:SmNs ns) (ht:Tab w):
  Calls Tryz.prog 31 #[v] w fun r w'=>r=.returned (.bool (nodesP (nsOf ns)))∧Below w.heap.size w w':=by
 have HR:Hid (∀wx,Below w.heap.size w wx→RdNs wx v ns):=fun wx b=>hr.below b
 have HK:Hid (∀wx,Below w.heap.size w wx→∀y∈ns,Calls Tryz.prog 59 #[.agg y.A] wx fun r w'=>r=.returned (.bool y.n.ok)∧Below wx.heap.size wx w'):=fun wx b y hy=>inodeok_any y.a y.b y.k y.q y.z y.n wx ((HR.out wx b).key y hy) (hs y hy) (ht.below b)
 have HL:Hid (∀wx,Below w.heap.size w wx→∀y∈ns,Calls Tryz.prog 58 #[.agg y.A] wx fun r w'=>r=.returned (.int .i64 (y.n.ys.length:Int))∧Below wx.heap.size wx w'):=fun wx b y hy=>iblocks_any y wx ((HR.out wx b).key y hy)
 obtain⟨uo,uc,rfl⟩:=hr.form
 obtain⟨-,hnc,hcm, -⟩:=hr.el
 unfold maxLen at hcm
 clear hr hs ht
 by_cases h2:ns.length=2
 case neg=>
  rw[nodesP_no2 h2]
  have h2':¬(ns.length:Int)=2:=by omega
  clear HK HL HR
  go_enter Tryz.func31,Tryz.ntmps31
  go_wp2
  go_ret
  exact⟨rfl,Below.refl _ _⟩
 case pos=>
 obtain⟨y0,y1,rfl⟩:=two_ofI h2
 obtain⟨t,ht⟩:∃t,t=nodesP (nsOf [y0,y1]):=⟨_,rfl⟩
 have HE:Hid (t=nodesP (nsOf [y0,y1])):=ht
 rw[←ht]
 clear ht h2
 obtain⟨b,off,rfl⟩:∃b off,uo=some ⟨b,off,none⟩:=by
  obtain⟨b,off,x,_,e,_,_⟩:=(HR.out w (Below.refl _ _)).el.2.2.2 0 (by show 0<2;decide)
  exact⟨b,off,e⟩
 have HC0:Hid (∀wx,Below w.heap.size w wx→∀i,i<20→wx.cell? ⟨b,off+i,none⟩=y0.A[i]?):=fun wx B i hi=>by
  obtain⟨b',off',x',hx',e',_,hc⟩:=(HR.out wx B).el.2.2.2 0 (by show 0<2;decide)
  cases e'
  cases hx'
  simpa using hc i hi
 have CL0:Hid (∀wx,Below w.heap.size w wx→Calls Tryz.prog 58 #[.agg y0.A] wx fun r w'=>r=.returned (.int .i64 (y0.n.ys.length:Int))∧Below wx.heap.size wx w'):=fun wx B=>HL.out wx B y0 (by simp)
 obtain⟨l0,hl0⟩:∃l,l=y0.n.ys.length:=⟨_,rfl⟩
 have HL0:Hid (y0.n.ys.length=l0):=hl0.symm
 rw[←hl0]at CL0
 clear hl0
 have el:([y0,y1]:List Nv).length=2:=rfl
 rw[el]at HR hnc⊢
 clear el
 go_enter Tryz.func31,Tryz.ntmps31
 go_wp2
 go_loopw [10] (fun i wr=>∃j:Nat,j≤2∧i=.int .i64 j∧Hid ((∀k y,k<j→([y0,y1]:List Nv)[k]?=some y→nodeP y0.n.ys.length k y.n=true)∧Below w.heap.size w wr)) (fun i _=>2-(intOf i).toNat)
 case atStart=>exact⟨0,by decide,rfl,fun k y hk=>absurd hk (Nat.not_lt_zero _),Below.refl _ _⟩
 case round=>
  obtain⟨j,hj,rfl,HI⟩:=hrel
  by_cases hlt:(j:Int)<2
  ·obtain⟨b',off',y,he,e',hrk,hc⟩:=(HR.out wr HI.out.2).el.2.2.2 j (by omega)
   cases e'
   have hmem:y∈[y0,y1]:=List.mem_of_getElem? he
   have HC:Hid (∀i,i<20→wr.cell? ⟨b,off+j*20+i,none⟩=y.A[i]?):=hc
   have hone:y.A.all (·.oneCell')=true:=ndA_one y.n (reads_one (RdN.ra hrk)) (reads_one (RdN.rb hrk)) (reads_one (RdN.rk hrk)) (reads_one (RdN.rq hrk)) (reads_one (RdN.rz hrk))
   have CK:Hid (∀wx,Below w.heap.size w wx→Calls Tryz.prog 59 #[.agg y.A] wx fun r w'=>r=.returned (.bool y.n.ok)∧Below wx.heap.size wx w'):=fun wx B=>HK.out wx B y hmem
   have CL:Hid (∀wx,Below w.heap.size w wx→Calls Tryz.prog 58 #[.agg y.A] wx fun r w'=>r=.returned (.int .i64 (y.n.ys.length:Int))∧Below wx.heap.size wx w'):=fun wx B=>HL.out wx B y hmem
   have HY:Hid (([y0,y1]:List Nv)[j]?=some y):=he
   have q5:StB (wr.alloc (.cells zeroNd 56)) wr.heap.size 56 zeroNd:=StB.new wr _ _
   obtain⟨i,hi⟩:∃i,i=y.n.id:=⟨_,rfl⟩
   obtain⟨l,hl⟩:∃l,l=y.n.ys.length:=⟨_,rfl⟩
   obtain⟨ok,hok⟩:∃ok,ok=y.n.ok:=⟨_,rfl⟩
   have HF:Hid (nodeP y0.n.ys.length j y.n=(decide (i=(j:Int))&&decide (l=l0)&&ok)):=by rw[hi,hl,hok,Hid,HL0.out];rfl
   have hc0:y.A[0]?=some (.int .i64 i):=by rw[hi];rfl
   rw[←hl]at CL
   rw[←hok]at CK
   clear hc he hrk hmem hi hl hok
   go_upto_region 6 with(first|(refine wpList_getO Tryz.isNd rfl _ rfl b (off+j*20) rfl y.A rfl HC.out ?_)|(refine wpList_putS Tryz.isNd rfl _ _ rfl wr.heap.size y.A zeroNd rfl rfl rfl rfl hone q5 ?_;intro w2 s2 g2))
   (try simp only[Act.put])
   have HV:Hid (w2.cell? ⟨wr.heap.size,0,none⟩=some (.int .i64 i)∧StB w2 wr.heap.size 56 y.A):=⟨s2.cell 0 hc0,s2⟩
   have HB:Hid (Below w.heap.size w w2):=HI.out.2.trans ((((Below.refl _ _).alloc (Nat.le_refl _) _).grown g2 (by simp) (fun k e=>by cases e;omega)).mono HI.out.2.size)
   clear q5 g2 s2 hone hc0 HC
   by_cases hid:i=(j:Int)
   case neg=>
    have hidb:(i !=(j:Int))=true:=by rw[bne_iff_ne];exact hid
    have HZ:Hid (t=false):=by rw[Hid,HE.out];exact nodesP_not HY.out (by rw[HF.out];simp[hid])
    obtain⟨C,hCd⟩:∃C,C=fun x=>Below w2.heap.size w2 x:=⟨_,rfl⟩
    have HQ:Hid (∀x,C x→Below w2.heap.size w2 x):=by rw[hCd];exact fun _ h=>h
    have HNx:Hid (∀x y,C x→Later x y→C y):=by rw[hCd];exact fun _ _ h b=>h.trans (b.mono h.size)
    have H0:Hid (C w2.drew):=by rw[hCd];exact(Below.refl _ _).drew
    have hne:Nonempty (Kin C):=⟨⟨_,H0.out⟩⟩
    clear hCd
    have m0:∀q:Kin C,q.x.cell? ⟨wr.heap.size,0,none⟩=some (.int .i64 i):=fun q=>later_cell (HV.out.1) (HQ.out _ q.h)
    refine wp_region_gs (C:=C) (E:=byDst fun d=>if d=21 then some (numB l)else if d=25 then some (numB l0)else if d=30 then some (truth false)else none) (R:=Later) HNx.out (byDst_later (by intro d s hs u x y hx hl;split at hs;(cases hs;trivial);split at hs;(cases hs;trivial);split at hs;(cases hs;exact truthC_later hx hl);cases hs)) (byDst_looks _ _) (by kernel_rfl) (by kernel_rfl) H0.out ?_
    iterate 5 (refine gs_plain rfl (fun K hK=>?_);go_simp;refine hK _ ?_;clear hK K)
    iterate 1 (refine gs_plain rfl (fun K hK=>?_);go_simp;refine hK _ ?_;clear hK K)
    refine gs_skip (by first|rfl|kernel_rfl) ?_
    iterate 3 (refine gs_plain rfl (fun K hK=>?_);go_simp;refine hK _ ?_;clear hK K)
    refine gs_skip (by first|rfl|kernel_rfl) ?_
    iterate 3 (refine gs_plain rfl (fun K hK=>?_);go_simp;refine hK _ ?_;clear hK K)
    iterate 1 (refine gs_plain rfl (fun K hK=>?_);go_simp;refine hK _ ?_;clear hK K)
    refine gs_skip (by first|rfl|kernel_rfl) ?_
    iterate 2 (refine gs_plain rfl (fun K hK=>?_);go_simp;refine hK _ ?_;clear hK K)
    refine gs_end (fun w3 hz=>?_)
    have HB3:Hid (Below w.heap.size w w3):=HB.out.trans ((HQ.out _ hz.1).mono HB.out.size)
    clear hz HQ HNx H0 hne m0 HV HB CL CL0 CK
    go_wp2
    go_ret
    rw[HZ.out]
    exact⟨rfl,HB3.out⟩
   case pos=>
   subst hid
   by_cases hll:l=l0
   case neg=>
    have hlb:((l:Int) !=(l0:Int))=true:=by rw[bne_iff_ne];omega
    have HZ:Hid (t=false):=by rw[Hid,HE.out];exact nodesP_not HY.out (by rw[HF.out];simp[hll])
    obtain⟨C,hCd⟩:∃C,C=fun x=>Below w2.heap.size w2 x:=⟨_,rfl⟩
    have HQ:Hid (∀x,C x→Below w2.heap.size w2 x):=by rw[hCd];exact fun _ h=>h
    have HNx:Hid (∀x y,C x→Later x y→C y):=by rw[hCd];exact fun _ _ h b=>h.trans (b.mono h.size)
    have H0:Hid (C w2.drew):=by rw[hCd];exact(Below.refl _ _).drew
    have hne:Nonempty (Kin C):=⟨⟨_,H0.out⟩⟩
    clear hCd
    have m0:∀q:Kin C,q.x.cell? ⟨wr.heap.size,0,none⟩=some (.int .i64 (j:Int)):=fun q=>later_cell (HV.out.1) (HQ.out _ q.h)
    refine wp_region_gs (C:=C) (E:=byDst fun d=>if d=21 then some (numB l)else if d=25 then some (numB l0)else if d=30 then some (truth false)else none) (R:=Later) HNx.out (byDst_later (by intro d s hs u x y hx hl;split at hs;(cases hs;trivial);split at hs;(cases hs;trivial);split at hs;(cases hs;exact truthC_later hx hl);cases hs)) (byDst_looks _ _) (by kernel_rfl) (by kernel_rfl) H0.out ?_
    iterate 5 (refine gs_plain rfl (fun K hK=>?_);go_simp;refine hK _ ?_;clear hK K)
    refine gs_loadS Tryz.isNd rfl (by first|rfl|kernel_rfl) _ rfl wr.heap.size rfl y.A rfl (fun q=>HV.out.2.below (HQ.out _ q.h)) ?_
    refine gs_call (numB l) rfl (by first|rfl|kernel_rfl) (fun wq hB=>?_) (fun uq hu=>?_)
    ·go_simp
     refine⟨rfl,?_⟩
     exact numB_of (CL.out _ (HB.out.trans ((HQ.out _ hB.1).mono HB.out.size)))
    obtain rfl:=hu
    iterate 2 (refine gs_plain rfl (fun K hK=>?_);go_simp;refine hK _ ?_;clear hK K)
    refine gs_loadO Tryz.isNd rfl (by first|rfl|kernel_rfl) _ rfl b off rfl y0.A rfl (fun q=>HC0.out _ (HB.out.trans ((HQ.out _ q.h).mono HB.out.size))) ?_
    refine gs_call (numB l0) rfl (by first|rfl|kernel_rfl) (fun wq hB=>?_) (fun uq hu=>?_)
    ·go_simp
     refine⟨rfl,?_⟩
     exact numB_of (CL0.out _ (HB.out.trans ((HQ.out _ hB.1).mono HB.out.size)))
    obtain rfl:=hu
    iterate 3 (refine gs_plain rfl (fun K hK=>?_);go_simp;refine hK _ ?_;clear hK K)
    iterate 1 (refine gs_plain rfl (fun K hK=>?_);go_simp;refine hK _ ?_;clear hK K)
    refine gs_skip (by first|rfl|kernel_rfl) ?_
    iterate 2 (refine gs_plain rfl (fun K hK=>?_);go_simp;refine hK _ ?_;clear hK K)
    refine gs_end (fun w3 hz=>?_)
    have HB3:Hid (Below w.heap.size w w3):=HB.out.trans ((HQ.out _ hz.1).mono HB.out.size)
    clear hz HQ HNx H0 hne m0 HV HB CL CL0 CK
    go_wp2
    go_ret
    rw[HZ.out]
    exact⟨rfl,HB3.out⟩
   case pos=>
   subst hll
   cases ok with
   |false=>
    have HZ:Hid (t=false):=by rw[Hid,HE.out];exact nodesP_not HY.out (by rw[HF.out];simp)
    obtain⟨C,hCd⟩:∃C,C=fun x=>Below w2.heap.size w2 x:=⟨_,rfl⟩
    have HQ:Hid (∀x,C x→Below w2.heap.size w2 x):=by rw[hCd];exact fun _ h=>h
    have HNx:Hid (∀x y,C x→Later x y→C y):=by rw[hCd];exact fun _ _ h b=>h.trans (b.mono h.size)
    have H0:Hid (C w2.drew):=by rw[hCd];exact(Below.refl _ _).drew
    have hne:Nonempty (Kin C):=⟨⟨_,H0.out⟩⟩
    clear hCd
    have m0:∀q:Kin C,q.x.cell? ⟨wr.heap.size,0,none⟩=some (.int .i64 (j:Int)):=fun q=>later_cell (HV.out.1) (HQ.out _ q.h)
    refine wp_region_gs (C:=C) (E:=byDst fun d=>if d=21 then some (numB l)else if d=25 then some (numB l)else if d=30 then some (truth false)else none) (R:=Later) HNx.out (byDst_later (by intro d s hs u x y hx hl;split at hs;(cases hs;trivial);split at hs;(cases hs;trivial);split at hs;(cases hs;exact truthC_later hx hl);cases hs)) (byDst_looks _ _) (by kernel_rfl) (by kernel_rfl) H0.out ?_
    iterate 5 (refine gs_plain rfl (fun K hK=>?_);go_simp;refine hK _ ?_;clear hK K)
    refine gs_loadS Tryz.isNd rfl (by first|rfl|kernel_rfl) _ rfl wr.heap.size rfl y.A rfl (fun q=>HV.out.2.below (HQ.out _ q.h)) ?_
    refine gs_call (numB l) rfl (by first|rfl|kernel_rfl) (fun wq hB=>?_) (fun uq hu=>?_)
    ·go_simp
     refine⟨rfl,?_⟩
     exact numB_of (CL.out _ (HB.out.trans ((HQ.out _ hB.1).mono HB.out.size)))
    obtain rfl:=hu
    iterate 2 (refine gs_plain rfl (fun K hK=>?_);go_simp;refine hK _ ?_;clear hK K)
    refine gs_loadO Tryz.isNd rfl (by first|rfl|kernel_rfl) _ rfl b off rfl y0.A rfl (fun q=>HC0.out _ (HB.out.trans ((HQ.out _ q.h).mono HB.out.size))) ?_
    refine gs_call (numB l) rfl (by first|rfl|kernel_rfl) (fun wq hB=>?_) (fun uq hu=>?_)
    ·go_simp
     refine⟨rfl,?_⟩
     exact numB_of (CL0.out _ (HB.out.trans ((HQ.out _ hB.1).mono HB.out.size)))
    obtain rfl:=hu
    iterate 3 (refine gs_plain rfl (fun K hK=>?_);go_simp;refine hK _ ?_;clear hK K)
    refine gs_loadS Tryz.isNd rfl (by first|rfl|kernel_rfl) _ rfl wr.heap.size rfl y.A rfl (fun q=>HV.out.2.below (HQ.out _ q.h)) ?_
    refine gs_call (truth false) rfl (by first|rfl|kernel_rfl) (fun wq hB=>?_) (fun uq hu=>?_)
    ·go_simp
     refine⟨rfl,?_⟩
     exact truth_of (fun _ h=>h) (CK.out _ (HB.out.trans ((HQ.out _ hB.1).mono HB.out.size)))
    obtain rfl:=hu
    iterate 2 (refine gs_plain rfl (fun K hK=>?_);go_simp;refine hK _ ?_;clear hK K)
    refine gs_end (fun w3 hz=>?_)
    have HB3:Hid (Below w.heap.size w w3):=HB.out.trans ((HQ.out _ hz.1).mono HB.out.size)
    clear hz HQ HNx H0 hne m0 HV HB CL CL0 CK
    go_wp2
    go_ret
    rw[HZ.out]
    exact⟨rfl,HB3.out⟩
   |true=>
    have HZ:Hid (∀k y,k<j+1→([y0,y1]:List Nv)[k]?=some y→nodeP y0.n.ys.length k y.n=true):=fun k y' hk he=>by
     by_cases hkj:k=j
     ·subst hkj;rw[HY.out]at he;cases he;rw[HF.out];simp
     ·exact HI.out.1 k y' (by omega) he
    obtain⟨C,hCd⟩:∃C,C=fun x=>Below w2.heap.size w2 x:=⟨_,rfl⟩
    have HQ:Hid (∀x,C x→Below w2.heap.size w2 x):=by rw[hCd];exact fun _ h=>h
    have HNx:Hid (∀x y,C x→Later x y→C y):=by rw[hCd];exact fun _ _ h b=>h.trans (b.mono h.size)
    have H0:Hid (C w2.drew):=by rw[hCd];exact(Below.refl _ _).drew
    have hne:Nonempty (Kin C):=⟨⟨_,H0.out⟩⟩
    clear hCd
    have m0:∀q:Kin C,q.x.cell? ⟨wr.heap.size,0,none⟩=some (.int .i64 (j:Int)):=fun q=>later_cell (HV.out.1) (HQ.out _ q.h)
    refine wp_region_gs (C:=C) (E:=byDst fun d=>if d=21 then some (numB l)else if d=25 then some (numB l)else if d=30 then some (truth true)else none) (R:=Later) HNx.out (byDst_later (by intro d s hs u x y hx hl;split at hs;(cases hs;trivial);split at hs;(cases hs;trivial);split at hs;(cases hs;exact truthC_later hx hl);cases hs)) (byDst_looks _ _) (by kernel_rfl) (by kernel_rfl) H0.out ?_
    iterate 5 (refine gs_plain rfl (fun K hK=>?_);go_simp;refine hK _ ?_;clear hK K)
    refine gs_loadS Tryz.isNd rfl (by first|rfl|kernel_rfl) _ rfl wr.heap.size rfl y.A rfl (fun q=>HV.out.2.below (HQ.out _ q.h)) ?_
    refine gs_call (numB l) rfl (by first|rfl|kernel_rfl) (fun wq hB=>?_) (fun uq hu=>?_)
    ·go_simp
     refine⟨rfl,?_⟩
     exact numB_of (CL.out _ (HB.out.trans ((HQ.out _ hB.1).mono HB.out.size)))
    obtain rfl:=hu
    iterate 2 (refine gs_plain rfl (fun K hK=>?_);go_simp;refine hK _ ?_;clear hK K)
    refine gs_loadO Tryz.isNd rfl (by first|rfl|kernel_rfl) _ rfl b off rfl y0.A rfl (fun q=>HC0.out _ (HB.out.trans ((HQ.out _ q.h).mono HB.out.size))) ?_
    refine gs_call (numB l) rfl (by first|rfl|kernel_rfl) (fun wq hB=>?_) (fun uq hu=>?_)
    ·go_simp
     refine⟨rfl,?_⟩
     exact numB_of (CL0.out _ (HB.out.trans ((HQ.out _ hB.1).mono HB.out.size)))
    obtain rfl:=hu
    iterate 3 (refine gs_plain rfl (fun K hK=>?_);go_simp;refine hK _ ?_;clear hK K)
    refine gs_loadS Tryz.isNd rfl (by first|rfl|kernel_rfl) _ rfl wr.heap.size rfl y.A rfl (fun q=>HV.out.2.below (HQ.out _ q.h)) ?_
    refine gs_call (truth true) rfl (by first|rfl|kernel_rfl) (fun wq hB=>?_) (fun uq hu=>?_)
    ·go_simp
     refine⟨rfl,?_⟩
     exact truth_of (fun _ h=>h) (CK.out _ (HB.out.trans ((HQ.out _ hB.1).mono HB.out.size)))
    obtain rfl:=hu
    iterate 2 (refine gs_plain rfl (fun K hK=>?_);go_simp;refine hK _ ?_;clear hK K)
    refine gs_end (fun w3 hz=>?_)
    have HB3:Hid (Below w.heap.size w w3):=HB.out.trans ((HQ.out _ hz.1).mono HB.out.size)
    clear hz HQ HNx H0 hne m0 HV HB CL CL0 CK
    go_wp2
    go_roundw
    case rel=>exact⟨j+1,by omega,by go_num,HZ.out,HB3.out⟩
    case measure=>simp[intOf];omega
  ·have HZ:Hid (t=true):=by
    rw[Hid,HE.out]
    exact nodesP_yes fun k y hk he=>HI.out.1 k y (by omega) he
   go_wp2
   go_ret
   rw[HZ.out]
   exact⟨rfl,HI.out.2⟩
end Go.Proofs.YtflbcjgkdokhiaaGreatDoor
