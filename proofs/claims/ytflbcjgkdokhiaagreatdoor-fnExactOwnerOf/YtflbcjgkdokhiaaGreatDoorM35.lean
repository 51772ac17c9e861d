/- Pairs by the program: PairOk, owns, Owners. -/
import Derived.Test.YtflbcjgkdokhiaaGreatDoorIPair2
import Derived.Test.YtflbcjgkdokhiaaGreatDoorM34
import Derived.Test.YtflbcjgkdokhiaaGreatDoorM28
import Derived.LaidMore
import Derived.Stop.Joined
import Derived.Stop.LaidErr
import Derived.Lib.LaidTab
import Derived.ProofKit
set_option maxRecDepth 20000
set_option maxHeartbeats 2000000
namespace Go.Proofs.YtflbcjgkdokhiaaGreatDoor
open Go.ChangeShapes Go.WideShapes Go.ChangeAt Go.RowKit
theorem ipairok_any (u v x:Value) (ns:List Nv) (ps:List (Value×Mg)) (es:List Ev) (w:World) (hr:RdPr w u v x ns ps es) (hn:SmNs ns) (hp:SmP ps) (ht:Tab w):
  Calls Tryz.prog 17 #[PrV u v x] w fun r w'=>r=.returned (.bool (paOk (nsOf ns) (msOf ps) es))∧Below w.heap.size w w':=by
 have HR:Hid (∀wx,Below w.heap.size w wx→RdPr wx u v x ns ps es):=fun wx b=>hr.below b
 have CN:Hid (∀wx,Below w.heap.size w wx→Calls Tryz.prog 31 #[u] wx fun r w'=>r=.returned (.bool (nodesP (nsOf ns)))∧Below wx.heap.size wx w'):=fun wx b=>inodesok_any u ns wx (HR.out wx b).rn hn (ht.below b)
 have CP:Hid (∀wx,Below w.heap.size w wx→Calls Tryz.prog 32 #[v] wx fun r w'=>r=.returned (.bool (postOk (msOf ps)))∧Below wx.heap.size wx w'):=fun wx b=>ipostok_any v ps wx (HR.out wx b).rp hp
 have CE:Hid (∀wx,Below w.heap.size w wx→Calls Tryz.prog 33 #[x] wx fun r w'=>r=.returned (.bool (evsOk es))∧Below wx.heap.size wx w'):=fun wx b=>ieventsok_any x es wx (HR.out wx b).re
 obtain⟨uo,uc,rfl⟩:=hr.rn.form
 obtain⟨vo,vc,rfl⟩:=hr.rp.form
 obtain⟨xo,xc,rfl⟩:=hr.re.form
 have HE:Hid (paOk (nsOf ns) (msOf ps) es=(nodesP (nsOf ns)&&postOk (msOf ps)&&evsOk es)):=rfl
 obtain⟨t,hte⟩:∃t,t=paOk (nsOf ns) (msOf ps) es:=⟨_,rfl⟩
 rw[←hte]at HE⊢
 obtain⟨b0,hb0⟩:∃b,b=nodesP (nsOf ns):=⟨_,rfl⟩
 obtain⟨b1,hb1⟩:∃b,b=postOk (msOf ps):=⟨_,rfl⟩
 obtain⟨b2,hb2⟩:∃b,b=evsOk es:=⟨_,rfl⟩
 rw[←hb0]at CN HE
 rw[←hb1]at CP HE
 rw[←hb2]at CE HE
 clear hte hb0 hb1 hb2 hr HR hn hp ht
 obtain⟨w1,hw1⟩:∃w1,w1=w.alloc (.cells (prA (.slice uo ns.length uc) (.slice vo ps.length vc) (.slice xo es.length xc)) 33):=⟨_,rfl⟩
 have HB:Hid (StB w1 w.heap.size 33 (prA (.slice uo ns.length uc) (.slice vo ps.length vc) (.slice xo es.length xc))∧Below w.heap.size w w1):=by rw[hw1];exact⟨StB.new _ _ _,(Below.refl _ _).alloc (Nat.le_refl _) _⟩
 unfold prA at hw1
 unfold PrV prA
 go_enter Tryz.func17,Tryz.ntmps17
 go_upto_region 1 with fail
 rw[←hw1]
 clear hw1
 have p0:w1.cell? ⟨w.heap.size,0,none⟩=some (.slice uo ns.length uc):=HB.out.1.cell 0 rfl
 go_wp2_with fail
 refine(CN.out w1 HB.out.2).mono ?_
 rintro e w2 ⟨rfl,b⟩
 replace HB:Hid (StB w2 w.heap.size 33 (prA (.slice uo ns.length uc) (.slice vo ps.length vc) (.slice xo es.length xc))∧Below w.heap.size w w2):=⟨HB.out.1.below b,HB.out.2.trans (b.mono HB.out.2.size)⟩
 clear p0 b CN
 cases b0 with
 |false=>
  have HX:Hid (t=false):=by rw[Hid,HE.out];rfl
  go_wp2
  go_ret
  rw[HX.out]
  exact⟨rfl,HB.out.2⟩
 |true=>
  have p1:w2.cell? ⟨w.heap.size,1,none⟩=some (.slice vo ps.length vc):=HB.out.1.cell 1 rfl
  go_wp2_with fail
  refine(CP.out w2 HB.out.2).mono ?_
  rintro e w3 ⟨rfl,b⟩
  replace HB:Hid (StB w3 w.heap.size 33 (prA (.slice uo ns.length uc) (.slice vo ps.length vc) (.slice xo es.length xc))∧Below w.heap.size w w3):=⟨HB.out.1.below b,HB.out.2.trans (b.mono HB.out.2.size)⟩
  clear p1 b CP
  cases b1 with
  |false=>
   have HX:Hid (t=false):=by rw[Hid,HE.out];rfl
   go_wp2
   go_ret
   rw[HX.out]
   exact⟨rfl,HB.out.2⟩
  |true=>
   have p2:w3.cell? ⟨w.heap.size,2,none⟩=some (.slice xo es.length xc):=HB.out.1.cell 2 rfl
   have HX:Hid (t=b2):=by rw[Hid,HE.out];simp
   clear HE
   go_wp2_with fail
   refine(CE.out w3 HB.out.2).mono ?_
   rintro e w4 ⟨rfl,b⟩
   have HB4:Hid (Below w.heap.size w w4):=HB.out.2.trans (b.mono HB.out.2.size)
   clear p2 b CE HB
   go_wp2
   go_ret
   rw[HX.out]
   exact⟨rfl,HB4.out⟩
theorem iowns_any (y:Nv) (w:World):
  Calls Tryz.prog 18 #[.agg y.A] w fun e w'=>e=.returned (.bool (decide (y.n.r.s=1)))∧Below w.heap.size w w':=by
 obtain⟨w1,hw1⟩:∃w1,w1=w.alloc (.cells y.A 56):=⟨_,rfl⟩
 have HP:Hid (Below w.heap.size w w1):=by rw[hw1];exact(Below.refl _ _).alloc (Nat.le_refl _) _
 have p10:w1.cell? ⟨w.heap.size,10,none⟩=some (.int .i64 y.n.r.s):=by rw[hw1];exact(StB.new w 56 y.A).cell 10 rfl
 unfold Nv.A ndA S at hw1
 unfold Nv.A ndA S
 by_cases h:y.n.r.s=1
 ·have e:decide (y.n.r.s=1)=true:=by simp[h]
  rw[e]
  rw[h]at p10
  clear e h
  go_enter Tryz.func18,Tryz.ntmps18
  go_upto_region 1 with fail
  rw[←hw1]
  clear hw1
  go_wp2
  go_ret
  exact⟨rfl,HP.out⟩
 ·have e:decide (y.n.r.s=1)=false:=by simp[h]
  rw[e]
  obtain⟨s,hs⟩:∃s,s=y.n.r.s:=⟨_,rfl⟩
  have hb:(s==1)=false:=by rw[hs];simp[h]
  rw[←hs]at p10 hw1⊢
  clear e h hs
  go_enter Tryz.func18,Tryz.ntmps18
  go_upto_region 1 with fail
  rw[←hw1]
  clear hw1
  go_wp2
  go_ret
  exact⟨by simp,HP.out⟩
end Go.Proofs.YtflbcjgkdokhiaaGreatDoor
set_option maxRecDepth 20000
set_option maxHeartbeats 4000000
namespace Go.Proofs.YtflbcjgkdokhiaaGreatDoor
open Go.ChangeShapes Go.WideShapes Go.ChangeAt Go.RowKit
theorem paOk_id {ns:List Nv} {ms:List Mg} {es:List Ev} (h:paOk (nsOf ns) ms es=true):∀(j:Nat) (y:Nv),ns[j]?=some y→y.n.id=(j:Int):=by
 obtain⟨y0,y1,rfl⟩:=two_ofI (paOk_two h)
 unfold paOk at h
 have h1:nodesP [y0.n,y1.n]=true:=by
  by_cases hb:nodesP [y0.n,y1.n]=true
  ·exact hb
  ·have:nodesP (nsOf [y0,y1])=false:=by simpa[nsOf]using hb
   rw[this]at h
   simp at h
 rw[nodesP_two]at h1
 unfold nodeP at h1
 simp only[Bool.and_eq_true,decide_eq_true_eq]at h1
 intro j y e
 match j,e with
 |0,e=>cases e;exact h1.1.1.1
 |1,e=>cases e;exact h1.2.1.1
 |j+2,e=>simp at e
theorem iOwnerOf_any (u v x:Value) (ns:List Nv) (ps:List (Value×Mg)) (es:List Ev) (w:World) (hr:RdPr w u v x ns ps es) (hn:SmNs ns) (hp:SmP ps) (ht:Tab w):
  Calls Tryz.prog 7 #[PrV u v x] w fun r w'=>r=.returned (.int .i64 (ownerP (nsOf ns) (msOf ps) es))∧Below w.heap.size w w':=by
 have CK:Hid (∀wx,Below w.heap.size w wx→Calls Tryz.prog 17 #[PrV u v x] wx fun r w'=>r=.returned (.bool (paOk (nsOf ns) (msOf ps) es))∧Below wx.heap.size wx w'):=fun wx b=>ipairok_any u v x ns ps es wx (hr.below b) hn hp (ht.below b)
 have HR:Hid (∀wx,Below w.heap.size w wx→RdNs wx u ns):=fun wx b=>(hr.below b).rn
 obtain⟨uo,uc,rfl⟩:=hr.rn.form
 obtain⟨vo,vc,rfl⟩:=hr.rp.form
 obtain⟨xo,xc,rfl⟩:=hr.re.form
 obtain⟨-,hnc,hcm, -⟩:=hr.rn.el
 unfold maxLen at hcm
 have HE:Hid (ownerP (nsOf ns) (msOf ps) es=if paOk (nsOf ns) (msOf ps) es then ownA (nsOf ns)else-1):=rfl
 have H2:Hid (paOk (nsOf ns) (msOf ps) es=true→ns.length=2):=paOk_two
 have HI2:Hid (paOk (nsOf ns) (msOf ps) es=true→∀(j:Nat) (y:Nv),ns[j]?=some y→y.n.id=(j:Int)):=fun h=>paOk_id h
 obtain⟨t,hte⟩:∃t,t=ownerP (nsOf ns) (msOf ps) es:=⟨_,rfl⟩
 rw[←hte]at HE⊢
 obtain⟨o,ho⟩:∃o,o=paOk (nsOf ns) (msOf ps) es:=⟨_,rfl⟩
 rw[←ho]at HE H2 HI2 CK
 clear hte ho hr hn hp ht
 obtain⟨w1,hw1⟩:∃w1,w1=w.alloc (.cells (prA (.slice uo ns.length uc) (.slice vo ps.length vc) (.slice xo es.length xc)) 33):=⟨_,rfl⟩
 have HB:Hid (StB w1 w.heap.size 33 (prA (.slice uo ns.length uc) (.slice vo ps.length vc) (.slice xo es.length xc))∧Below w.heap.size w w1):=by rw[hw1];exact⟨StB.new _ _ _,(Below.refl _ _).alloc (Nat.le_refl _) _⟩
 unfold prA at hw1
 unfold PrV prA at CK⊢
 go_enter Tryz.func7,Tryz.ntmps7
 go_upto_region 1 with fail
 rw[←hw1]
 clear hw1
 go_wp2_with (refine wpList_getS Tryz.isPr rfl _ rfl w.heap.size rfl (prA (.slice uo ns.length uc) (.slice vo ps.length vc) (.slice xo es.length xc)) rfl HB.out.1 ?_)
 refine(CK.out w1 HB.out.2).mono ?_
 rintro e w2 ⟨rfl,b⟩
 replace HB:Hid (StB w2 w.heap.size 33 (prA (.slice uo ns.length uc) (.slice vo ps.length vc) (.slice xo es.length xc))∧Below w.heap.size w w2):=⟨HB.out.1.below b,HB.out.2.trans (b.mono HB.out.2.size)⟩
 clear b CK
 cases o with
 |false=>
  have HX:Hid (t= -1):=by rw[Hid,HE.out];rfl
  go_wp2
  go_ret
  rw[HX.out]
  exact⟨rfl,HB.out.2⟩
 |true=>
  have HX:Hid (t=ownA (nsOf ns)):=by rw[Hid,HE.out];rfl
  have h2:ns.length=2:=H2.out rfl
  have HD:Hid (∀(j:Nat) (y:Nv),ns[j]?=some y→y.n.id=(j:Int)):=HI2.out rfl
  clear HE H2 HI2
  obtain⟨n,hn⟩:∃n,n=ns.length:=⟨_,rfl⟩
  rw[←hn]at HB HR hnc h2⊢
  have HN:Hid (n=ns.length):=hn
  clear hn
  subst h2
  have p0:w2.cell? ⟨w.heap.size,0,none⟩=some (.slice uo 2 uc):=HB.out.1.cell 0 rfl
  go_wp2
  go_loopw [11] (fun i wr=>∃j:Nat,j≤2∧i=.int .i64 j∧Hid (noA (nsOf (ns.take j))∧Below w.heap.size w wr)) (fun i _=>2-(intOf i).toNat)
  case atStart=>exact⟨0,by decide,rfl,by intro y hy;simp[nsOf]at hy,HB.out.2⟩
  case round=>
   obtain⟨j,hj,rfl,HI⟩:=hrel
   by_cases hlt:(j:Int)<2
   ·obtain⟨be,offe,y,he,rfl,hrk,hc⟩:=(HR.out wr HI.out.2).el.2.2.2 j (by omega)
    have HC:Hid (∀i,i<20→wr.cell? ⟨be,offe+j*20+i,none⟩=y.A[i]?):=hc
    have hone:y.A.all (·.oneCell')=true:=ndA_one y.n (reads_one (RdN.ra hrk)) (reads_one (RdN.rb hrk)) (reads_one (RdN.rk hrk)) (reads_one (RdN.rq hrk)) (reads_one (RdN.rz hrk))
    have CO:Hid (∀wx,Calls Tryz.prog 18 #[.agg y.A] wx fun e w'=>e=.returned (.bool (decide (y.n.r.s=1)))∧Below wx.heap.size wx w'):=fun wx=>iowns_any y wx
    obtain⟨d,hd⟩:∃d,d=decide (y.n.r.s=1):=⟨_,rfl⟩
    rw[←hd]at CO
    have HWt:Hid (d=true→t=(j:Int)):=fun h=>HX.out.trans (ownA_at ns j y he (by rw[h]at hd;simpa using hd.symm) HI.out.1)
    have HWf:Hid (d=false→noA (nsOf (ns.take (j+1)))):=fun h=>noA_snoc ns j y he (by rw[h]at hd;simpa using hd.symm) HI.out.1
    have HY:Hid (y.A[0]?=some (.int .i64 (j:Int))):=by rw[Hid,←HD.out j y he];rfl
    have q5:StB (wr.alloc (.cells zeroNd 56)) wr.heap.size 56 zeroNd:=StB.new wr _ _
    clear hc hrk he hd
    go_upto_region 6 with(first|(refine wpList_getO Tryz.isNd rfl _ rfl be (offe+j*20) rfl y.A rfl HC.out ?_)|(refine wpList_putS Tryz.isNd rfl _ _ rfl wr.heap.size y.A zeroNd rfl rfl rfl rfl hone q5 ?_;intro w3 s3 g3))
    (try simp only[Act.put])
    have HB3:Hid (Below w.heap.size w w3):=HI.out.2.trans ((((Below.refl _ _).alloc (Nat.le_refl _) _).grown g3 (by simp) (fun k e=>by cases e;omega)).mono HI.out.2.size)
    clear q5 g3 hone HC
    go_wp2_with (refine wpList_getS Tryz.isNd rfl _ rfl wr.heap.size rfl y.A rfl s3 ?_)
    refine(CO.out w3).mono ?_
    rintro e w4 ⟨rfl,b4⟩
    have HB4:Hid (Below w.heap.size w w4):=HB3.out.trans (b4.mono HB3.out.size)
    have p0:w4.cell? ⟨wr.heap.size,0,none⟩=some (.int .i64 (j:Int)):=(s3.below b4).cell 0 HY.out
    clear b4 HB3 s3 CO HY
    cases d with
    |false=>
     have HZ:Hid (noA (nsOf (ns.take (j+1)))):=HWf.out rfl
     clear p0
     go_wp2
     go_roundw
     case rel=>exact⟨j+1,by omega,by go_num,HZ.out,HB4.out⟩
     case measure=>simp[intOf];omega
    |true=>
     have HZ:Hid (t=(j:Int)):=HWt.out rfl
     go_wp2
     go_ret
     rw[HZ.out]
     exact⟨rfl,HB4.out⟩
   ·have HZ:Hid (t= -1):=by
     have h1:=HI.out.1
     rw[List.take_of_length_le (by have:=HN.out;omega)]at h1
     exact HX.out.trans (ownA_no h1)
    go_wp2
    go_ret
    rw[HZ.out]
    exact⟨rfl,HI.out.2⟩
end Go.Proofs.YtflbcjgkdokhiaaGreatDoor
namespace Go.Proofs.YtflbcjgkdokhiaaGreatDoor
open Go.ChangeShapes Go.WideShapes Go.ChangeAt Go.RowKit
theorem pow_is:(Rows.laid_internal_strconv_uint64pow10:DataW Unit)=Lib.tabData .u64 Lib.pow10Tab:=by kernel_rfl
theorem tab_third {W:World} {a b:String×DataW Unit} {rest:List (String×DataW Unit)} (h:laidMet Tryz.prog (a::b::("internal/strconv.uint64pow10",Rows.laid_internal_strconv_uint64pow10)::rest) W):Tab W:=by
 have h3:laidMet Tryz.prog (("internal/strconv.uint64pow10",Lib.tabData .u64 Lib.pow10Tab)::rest) W:=by
  have:=h.tail.tail
  rw[pow_is]at this
  exact this
 exact Lib.tabIs_of_head (show Tryz.prog.globalNamed "internal/strconv.uint64pow10"=some 1 by kernel_rfl) (show(Tryz.prog.globals[1]?).map (·.type)=some 198 by kernel_rfl) Tryz.underlying198 Tryz.underlying189 (by kernel_rfl) (by kernel_rfl) h3
theorem tab_fnExactOwnerOf {W:World} (h:laidMetH Tryz.prog Rows.fnExactOwnerOfRow.laid W):Tab W:=by
 rw[MakeChecks.laidMetH_plain _ _ _ (by kernel_rfl)]at h
 exact tab_third h
end Go.Proofs.YtflbcjgkdokhiaaGreatDoor
