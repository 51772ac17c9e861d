/- How the laws size, copy and compare rows of houses, events and pairs. -/
import Derived.Test.YthmnmaemnihkeaaDoorRowN
import Derived.Test.YthmnmaemnihkeaaDoorM23
import Derived.Test.YthmnmaemnihkeaaDoorM24
import Derived.Test.YthmnmaemnihkeaaDoorM26
set_option maxRecDepth 20000
set_option maxHeartbeats 4000000
namespace Go.Proofs.YthmnmaemnihkeaaDoor
open Go.ChangeShapes Go.WideShapes Go.ChangeAt Go.RowKit
def totV (ns:List Nv):Nat:=(ns.map fun x=>x.n.len+x.n.log.length).sum
theorem gs_loadO {t:TypeId} {n:Nat} (hS:IsS t n) {ops:Array Oper} {C:World→Prop} {E:Oper→Act→Option GSpec} {R:World→World→Prop} {Q:Act→Known→Prop} {o:Oper} {rest:List Oper} {a:Act} {G:Known} (hs:E o a=none)
  (hw:Region.wanted o (yielded ops a.tmps)=true) (x:Operand) (ho:o.op=.load t x) (b off:Nat) (hx:a.eval x=.pointer (some ⟨b,off,none⟩)) (cs:Array Value) (hn:cs.size=n) (hr:∀q:Kin C,∀i,i<n→q.x.cell? ⟨b,off+i,none⟩=cs[i]?)
  (k:GivS Tryd.prog ops C E R Q rest (a.put o.dst (.agg cs)) G):GivS Tryd.prog ops C E R Q (o::rest) a G:=by
 refine gs_plain hs (fun K hK=>?_)
 rw[if_pos hw]
 refine⟨.agg cs,fun w hq=>?_,hK _ k⟩
 obtain⟨q,rfl⟩:=hq
 unfold Oper.quietAt execOp
 simp only[ho,hx,Instr.loadAt,Instr.sureAddr,Sem.run_bind,Sem.run_pure,Result.andThen_ok,load_at hS q.x b off cs hn (hr q)]
 simp[Oper.quietUpon]
theorem cells_bel {w w':World} {b off n:Nat} {cs:Array Value} (hn:n≤cs.size) (h:∀i,i<n→w.cell? ⟨b,off+i,none⟩=cs[i]?) (B:Below w.heap.size w w'):∀i,i<n→w'.cell? ⟨b,off+i,none⟩=cs[i]?:=fun i hi=>by
 have e:=h i hi
 rw[Array.getElem?_eq_getElem (by omega)]at e⊢
 exact bel_cell B e
theorem Tryd.isEv:IsS 71 6:=⟨⟨_,Tryd.underlying71⟩,by kernel_rfl⟩
theorem eqNodeS_any (v v2:Value) (ns qs:List Nv) (w:World) (hr:RdNs w v ns) (hr2:RdNs w v2 qs) (he:nsOf ns=nsOf qs) (hs:SmNs ns) (hl:ns.length≤1048576):
  Calls Tryd.prog 11 #[v,v2] w fun e w'=>e=.returned (.bool true)∧Below w.heap.size w w':=by
 have hlen:qs.length=ns.length:=by rw[←nsOf_len,←nsOf_len,he]
 obtain⟨ao,cap,rfl⟩:=hr.form
 obtain⟨ao2,cap2,rfl⟩:=hr2.form
 have HR:Hid (∀wx,Below w.heap.size w wx→RdNs wx (.slice ao ns.length cap) ns):=fun wx b=>hr.below b
 have HR2:Hid (∀wx,Below w.heap.size w wx→RdNs wx (.slice ao2 qs.length cap2) qs):=fun wx b=>hr2.below b
 obtain⟨-,hnc,hcm, -⟩:=hr.el
 obtain⟨-,hnc2,hcm2, -⟩:=hr2.el
 unfold maxLen at hcm hcm2
 rw[hlen]at HR2 hnc2⊢
 clear hr hr2
 obtain⟨n,hn⟩:∃n,n=ns.length:=⟨_,rfl⟩
 rw[←hn]at HR HR2 hnc hnc2 hl⊢
 have HN:Hid (n=ns.length):=hn
 have HSm:Hid (SmNs ns∧nsOf ns=nsOf qs):=⟨hs,he⟩
 clear hn hs he hlen
 go_enter Tryd.func11,Tryd.ntmps11
 go_wp2
 go_loopw [5] (fun i wr=>∃j:Nat,j≤n∧i=.int .i64 j∧Hid (Below w.heap.size w wr)) (fun i _=>n-(intOf i).toNat)
 case atStart=>exact⟨0,Nat.zero_le _,rfl,Below.refl _ _⟩
 case round=>
  obtain⟨j,hj,rfl,HI⟩:=hrel
  by_cases hlt:(j:Int)<(n:Int)
  ·obtain⟨b,off,y,he,rfl,hrk,hc⟩:=(HR.out wr HI.out).el.2.2.2 j (by omega)
   obtain⟨b2,off2,y2,he2,rfl,hrk2,hc2⟩:=(HR2.out wr HI.out).el.2.2.2 j (by omega)
   have hm:y2.n=y.n:=by
    have h1:=nsOf_at he
    have h2:=nsOf_at he2
    rw[HSm.out.2,h2]at h1
    exact Option.some.inj h1
   have C:Hid (∀wx,Below wr.heap.size wr wx→Calls Tryd.prog 27 #[.agg y.A,.agg y2.A] wx fun e w'=>e=.returned (.bool true)∧Below wx.heap.size wx w'):=fun wx bb=>by
    have h2:RdN wx y2.a y2.b y2.k y2.q y2.z y.n:=by rw[←hm];exact RdN.below hrk2 bb
    have hA:y2.A=ndA y2.a y2.b y2.k y2.q y2.z y.n:=by rw[←hm];rfl
    rw[hA]
    exact eqNode_any y.a y.b y.k y.q y.z y2.a y2.b y2.k y2.q y2.z y.n wx (RdN.below hrk bb) h2 (HSm.out.1.at he)
   have c1:Hid (∀wx,Below wr.heap.size wr wx→∀i,i<20→wx.cell? ⟨b,off+j*20+i,none⟩=y.A[i]?):=fun wx bb=>cells_bel (Nat.le_refl 20) hc bb
   have c2:Hid (∀wx,Below wr.heap.size wr wx→∀i,i<20→wx.cell? ⟨b2,off2+j*20+i,none⟩=y2.A[i]?):=fun wx bb=>cells_bel (Nat.le_refl 20) hc2 bb
   have z0:(0:Int)≤(j:Int):=by omega
   clear hc hc2 hrk hrk2 he he2 hm
   go_upto_region 6 with fail
   obtain⟨C',hCd⟩:∃C',C'=fun x=>Below wr.heap.size wr x:=⟨_,rfl⟩
   have HQ:Hid (∀x,C' x→Below wr.heap.size wr x):=by rw[hCd];exact fun _ h=>h
   have HNx:Hid (∀x y,C' x→Later x y→C' y):=by rw[hCd];exact fun _ _ h b=>h.trans (b.mono h.size)
   have H0:Hid (C' wr.drew):=by rw[hCd];exact(Below.refl _ _).drew
   have hne:Nonempty (Kin C'):=⟨⟨_,H0.out⟩⟩
   clear hCd
   refine wp_region_gs (C:=C') (E:=byDst fun d=>if d=25 then some (truth true)else none) (R:=Later) HNx.out (byDst_later (by intro d s hs u x y hx hl;split at hs;(cases hs;exact truthC_later hx hl);cases hs)) (byDst_looks _ _) (by kernel_rfl) (by kernel_rfl) H0.out ?_
   iterate 3 (refine gs_plain rfl (fun K hK=>?_);go_simp;refine hK _ ?_;clear hK K)
   refine gs_loadO Tryd.isNd rfl (by first|rfl|kernel_rfl) _ rfl b (off+j*20) rfl y.A rfl (fun q=>c1.out _ (HQ.out _ q.h)) ?_
   iterate 3 (refine gs_plain rfl (fun K hK=>?_);go_simp;refine hK _ ?_;clear hK K)
   refine gs_loadO Tryd.isNd rfl (by first|rfl|kernel_rfl) _ rfl b2 (off2+j*20) rfl y2.A rfl (fun q=>c2.out _ (HQ.out _ q.h)) ?_
   refine gs_call (truth true) rfl (by first|rfl|kernel_rfl) (fun wq hB=>?_) (fun uq hu=>?_)
   ·go_simp
    refine⟨rfl,?_⟩
    exact truth_of (fun _ h=>h) (C.out _ (HQ.out _ hB.1))
   obtain rfl:=hu
   iterate 1 (refine gs_plain rfl (fun K hK=>?_);go_simp;refine hK _ ?_;clear hK K)
   refine gs_end (fun w5 hz=>?_)
   have HB:Hid (Below w.heap.size w w5):=HI.out.trans ((HQ.out _ hz.1).mono HI.out.size)
   clear hz HQ HNx H0 hne C c1 c2
   go_wp2
   go_roundw
   case rel=>exact⟨j+1,by omega,by go_num,HB.out⟩
   case measure=>simp[intOf];omega
  ·go_wp2
   go_ret
   exact⟨rfl,HI.out⟩
theorem eqEvent_any (x:Ev) (w:World):
  Calls Tryd.prog 29 #[.agg (evA x),.agg (evA x)] w fun e w'=>e=.returned (.bool true)∧Below w.heap.size w w':=by
 have CA:Hid (∀wx,Calls Tryd.prog 47 #[.agg #[.int .i64 x.an.st,.string ⟨x.an.tx.toArray⟩],.agg #[.int .i64 x.an.st,.string ⟨x.an.tx.toArray⟩]] wx fun e w'=>e=.returned (.bool true)∧Below wx.heap.size wx w'):=fun wx=>eqAnswer_self x.an wx
 obtain⟨w1,hw1⟩:∃w1,w1=(w.alloc (.cells (evA x) 71)).alloc (.cells (evA x) 71):=⟨_,rfl⟩
 have b1:Below w.heap.size w w1:=by rw[hw1];exact((Below.refl _ _).alloc (Nat.le_refl _) _).alloc (by simp) _
 have HP:Hid (StB w1 w.heap.size 71 (evA x)∧StB w1 (w.heap.size+1) 71 (evA x)∧Below w.heap.size w w1):=by
  have s2:=StB.new (w.alloc (.cells (evA x) 71)) 71 (evA x)
  rw[World.size_alloc]at s2
  exact⟨by rw[hw1];exact(StB.new w _ _).alloc _,by rw[hw1];exact s2,b1⟩
 clear b1
 unfold evA S at hw1
 unfold evA S
 go_enter Tryd.func29,Tryd.ntmps29
 go_upto_region 1 with fail
 rw[←hw1]
 clear hw1
 have p0:w1.cell? ⟨w.heap.size,0,none⟩=some (.int .i64 x.kd):=HP.out.1.cell 0 rfl
 have r0:w1.cell? ⟨w.heap.size+1,0,none⟩=some (.int .i64 x.kd):=HP.out.2.1.cell 0 rfl
 have p1:w1.cell? ⟨w.heap.size,1,none⟩=some (.int .i64 x.who):=HP.out.1.cell 1 rfl
 have r1:w1.cell? ⟨w.heap.size+1,1,none⟩=some (.int .i64 x.who):=HP.out.2.1.cell 1 rfl
 have p2:w1.cell? ⟨w.heap.size,2,none⟩=some (.string ⟨x.bs.toArray⟩):=HP.out.1.cell 2 rfl
 have r2:w1.cell? ⟨w.heap.size+1,2,none⟩=some (.string ⟨x.bs.toArray⟩):=HP.out.2.1.cell 2 rfl
 have p3:w1.cell? ⟨w.heap.size,3,none⟩=some (.int .i64 x.an.st):=HP.out.1.cell 3 rfl
 have r3:w1.cell? ⟨w.heap.size+1,3,none⟩=some (.int .i64 x.an.st):=HP.out.2.1.cell 3 rfl
 have p4:w1.cell? ⟨w.heap.size,4,none⟩=some (.string ⟨x.an.tx.toArray⟩):=HP.out.1.cell 4 rfl
 have r4:w1.cell? ⟨w.heap.size+1,4,none⟩=some (.string ⟨x.an.tx.toArray⟩):=HP.out.2.1.cell 4 rfl
 go_upto_region 7 with fail
 go_wp2_with fail
 refine(CA.out w1).mono ?_
 rintro e w2 ⟨rfl,b2⟩
 have q5:w2.cell? ⟨w.heap.size,5,none⟩=some (.int .i64 x.set):=(HP.out.1.below b2).cell 5 rfl
 have t5:w2.cell? ⟨w.heap.size+1,5,none⟩=some (.int .i64 x.set):=(HP.out.2.1.below b2).cell 5 rfl
 have HB:Hid (Below w.heap.size w w2):=HP.out.2.2.trans (b2.mono HP.out.2.2.size)
 clear HP b2 CA p0 p1 p2 p3 p4 r0 r1 r2 r3 r4
 go_wp2
 go_ret
 exact⟨rfl,HB.out⟩
theorem eqEventS_any (v v2:Value) (es:List Ev) (w:World) (hr:RdE w v es) (hr2:RdE w v2 es):
  Calls Tryd.prog 13 #[v,v2] w fun e w'=>e=.returned (.bool true)∧Below w.heap.size w w':=by
 obtain⟨ao,cap,rfl⟩:=hr.form
 obtain⟨ao2,cap2,rfl⟩:=hr2.form
 have HR:Hid (∀wx,Below w.heap.size w wx→RdE wx (.slice ao es.length cap) es):=fun wx b=>hr.below b
 have HR2:Hid (∀wx,Below w.heap.size w wx→RdE wx (.slice ao2 es.length cap2) es):=fun wx b=>hr2.below b
 obtain⟨-,hnc,hcm, -⟩:=hr.el
 obtain⟨-,hnc2,hcm2, -⟩:=hr2.el
 unfold maxLen at hcm hcm2
 clear hr hr2
 obtain⟨n,hn⟩:∃n,n=es.length:=⟨_,rfl⟩
 rw[←hn]at HR HR2 hnc hnc2⊢
 have HN:Hid (n=es.length):=hn
 clear hn
 go_enter Tryd.func13,Tryd.ntmps13
 go_wp2
 go_loopw [5] (fun i wr=>∃j:Nat,j≤n∧i=.int .i64 j∧Hid (Below w.heap.size w wr)) (fun i _=>n-(intOf i).toNat)
 case atStart=>exact⟨0,Nat.zero_le _,rfl,Below.refl _ _⟩
 case round=>
  obtain⟨j,hj,rfl,HI⟩:=hrel
  by_cases hlt:(j:Int)<(n:Int)
  ·obtain⟨b,off,y,he,rfl,hc⟩:=(HR.out wr HI.out).el.2.2.2 j (by omega)
   obtain⟨b2,off2,y2,he2,rfl,hc2⟩:=(HR2.out wr HI.out).el.2.2.2 j (by omega)
   have hm:y2=y:=by rw[he2]at he;exact Option.some.inj he
   subst hm
   have C:Hid (∀wx,Below wr.heap.size wr wx→Calls Tryd.prog 29 #[.agg (evA y2),.agg (evA y2)] wx fun e w'=>e=.returned (.bool true)∧Below wx.heap.size wx w'):=fun wx _=>eqEvent_any y2 wx
   have c1:Hid (∀wx,Below wr.heap.size wr wx→∀i,i<6→wx.cell? ⟨b,off+j*6+i,none⟩=(evA y2)[i]?):=fun wx bb=>cells_bel (Nat.le_refl 6) hc bb
   have c2:Hid (∀wx,Below wr.heap.size wr wx→∀i,i<6→wx.cell? ⟨b2,off2+j*6+i,none⟩=(evA y2)[i]?):=fun wx bb=>cells_bel (Nat.le_refl 6) hc2 bb
   have z0:(0:Int)≤(j:Int):=by omega
   clear hc hc2 he he2
   go_upto_region 6 with fail
   obtain⟨C',hCd⟩:∃C',C'=fun x=>Below wr.heap.size wr x:=⟨_,rfl⟩
   have HQ:Hid (∀x,C' x→Below wr.heap.size wr x):=by rw[hCd];exact fun _ h=>h
   have HNx:Hid (∀x y,C' x→Later x y→C' y):=by rw[hCd];exact fun _ _ h b=>h.trans (b.mono h.size)
   have H0:Hid (C' wr.drew):=by rw[hCd];exact(Below.refl _ _).drew
   have hne:Nonempty (Kin C'):=⟨⟨_,H0.out⟩⟩
   clear hCd
   refine wp_region_gs (C:=C') (E:=byDst fun d=>if d=25 then some (truth true)else none) (R:=Later) HNx.out (byDst_later (by intro d s hs u x y hx hl;split at hs;(cases hs;exact truthC_later hx hl);cases hs)) (byDst_looks _ _) (by kernel_rfl) (by kernel_rfl) H0.out ?_
   iterate 3 (refine gs_plain rfl (fun K hK=>?_);go_simp;refine hK _ ?_;clear hK K)
   refine gs_loadO Tryd.isEv rfl (by first|rfl|kernel_rfl) _ rfl b (off+j*6) rfl (evA y2) rfl (fun q=>c1.out _ (HQ.out _ q.h)) ?_
   iterate 3 (refine gs_plain rfl (fun K hK=>?_);go_simp;refine hK _ ?_;clear hK K)
   refine gs_loadO Tryd.isEv rfl (by first|rfl|kernel_rfl) _ rfl b2 (off2+j*6) rfl (evA y2) rfl (fun q=>c2.out _ (HQ.out _ q.h)) ?_
   refine gs_call (truth true) rfl (by first|rfl|kernel_rfl) (fun wq hB=>?_) (fun uq hu=>?_)
   ·go_simp
    refine⟨rfl,?_⟩
    exact truth_of (fun _ h=>h) (C.out _ (HQ.out _ hB.1))
   obtain rfl:=hu
   iterate 1 (refine gs_plain rfl (fun K hK=>?_);go_simp;refine hK _ ?_;clear hK K)
   refine gs_end (fun w5 hz=>?_)
   have HB:Hid (Below w.heap.size w w5):=HI.out.trans ((HQ.out _ hz.1).mono HI.out.size)
   clear hz HQ HNx H0 hne C c1 c2
   go_wp2
   go_roundw
   case rel=>exact⟨j+1,by omega,by go_num,HB.out⟩
   case measure=>simp[intOf];omega
  ·go_wp2
   go_ret
   exact⟨rfl,HI.out⟩
end Go.Proofs.YthmnmaemnihkeaaDoor
