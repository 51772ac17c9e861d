/- A pair as a thing of the state, marked. -/
import Derived.Test.YthmnmaemnihkeaaDoorLMarkE
import Derived.Test.YthmnmaemnihkeaaDoorM27
import Derived.Test.YthmnmaemnihkeaaDoorM24
namespace Go.Proofs.YthmnmaemnihkeaaDoor
open Go.ChangeShapes Go.WideShapes Go.ChangeAt Go.RowKit
theorem totV_len:∀ns:List Nv,(ns.map fun y=>y.n.len).sum≤totV ns
 |[]=>Nat.le_refl _
 |y::r=>by
  have h:=totV_len r
  unfold totV at h⊢
  simp only[List.map_cons,List.sum_cons]
  omega
theorem len_totV:∀(ns:List Nv) (y:Nv),y∈ns→y.n.len≤totV ns
 |[],y,h=>by cases h
 |x::r,y,h=>by
  unfold totV
  simp only[List.map_cons,List.sum_cons]
  rcases List.mem_cons.1 h with rfl|h
  ·omega
  ·have h2:=len_totV r y h
   unfold totV at h2
   omega
theorem BdPr.of {ns:List Nv} {ps:List (Value×Mg)} {es:List Ev} (h:SmPr ns ps es):BdPr ns ps es:=by
 have h1:=totV_len ns
 have h2:=h.tn
 have h3:=h.ln
 have h4:=h.lp
 have h5:=h.tk
 have h6:=h.le
 exact⟨by omega,by omega,by omega,fun y hy=>Nat.le_trans (len_totV ns y hy) h2,h.sp⟩
theorem Sta.markPr {w wx wy:World} {L:List Item} {u v x:Value} {ns:List Nv} {ps:List (Value×Mg)} {es:List Ev} {a b c:Int} (h:Sta w wx L) (n:Nat) (e:L[n]?=some (PrI u v x ns ps es)) (o:OwnPr wy 0 u v x (inkNL a ns) (inkL b ps) (inkEL c es)) (m:Turned wx wy (nvB u ns++(psB v ps++blk x))):Sta w wy (L.set n (PrI u v x (inkNL a ns) (inkL b ps) (inkEL c es))):=
 h.turn n e m (PrI u v x (inkNL a ns) (inkL b ps) (inkEL c es)) (by show nvB u (inkNL a ns)++(psB v (inkL b ps)++blk x)=nvB u ns++(psB v ps++blk x);rw[nvB_ink,psB_ink]) o
end Go.Proofs.YthmnmaemnihkeaaDoor
set_option maxRecDepth 20000
set_option maxHeartbeats 8000000
namespace Go.Proofs.YthmnmaemnihkeaaDoor
open Go.ChangeShapes Go.WideShapes Go.ChangeAt Go.RowKit
def txG (t:Bs):GSpec:=⟨fun u=>u=.string ⟨t.toArray⟩,fun _ _=>True⟩
theorem txG_of {P:Program} {f:FuncId} {args:Array Value} {w:World} {t:Bs} (h:Calls P f args w fun e w'=>e=.returned (S t)∧Below w.heap.size w w'):Calls P f args w (fun e w''=>∃u,e=.returned u∧(txG t).V u∧(txG t).F u w''∧Later w w''):=
 h.mono fun _ _ ⟨he,hb⟩=>⟨_,he,rfl,trivial,hb⟩
theorem inkNL_get:∀(k:Int) (ns:List Nv) (j:Nat) (y:Nv),ns[j]?=some y→(inkNL k ns)[j]?=some {y with n:=y.n.inkS (inkNE k (ns.take j))}
 |k,[],j,y,h=>by simp at h
 |k,x::r,0,y,h=>by
  cases h
  simp[inkNL,inkNE]
 |k,x::r,j+1,y,h=>by
  rw[inkNL,List.getElem?_cons_succ,inkNL_get _ r j y (by simpa using h),List.take_succ_cons,inkNE_cons]
theorem heldNodeS_any (v:Value) (ns:List Nv) (k:Int) (w:World) (hr:RdNs w v (inkNL k ns)) (hb:15*ns.length+(ns.map fun y=>y.n.len).sum≤268435456) (hs:∀y∈ns,y.n.len≤1048576) (h0:1≤k) (h1:k≤268435456):
  Calls Tryd.prog 17 #[v,.int .i64 k] w fun e w'=>e=.returned (.int .i64 (inkNE k ns))∧Below w.heap.size w w':=by
 obtain⟨ao,cap,rfl⟩:=hr.form
 obtain⟨-,hnc,hcm, -⟩:=hr.el
 unfold maxLen at hcm
 rw[inkNL_len]at hr hnc⊢
 obtain⟨n,hn⟩:∃n,n=ns.length:=⟨_,rfl⟩
 rw[←hn]at hnc hr⊢
 have HN:Hid (n=ns.length):=hn
 have HO:Hid (∀wx,Below w.heap.size w wx→RdNs wx (.slice ao n cap) (inkNL k ns)):=fun wx B=>hr.below B
 have HSm:Hid (∀y∈ns,y.n.len≤1048576):=hs
 have HBd:Hid (∀j,inkNE k (ns.take j)≤536870912):=fun j=>by
  have e1:=sum_le_take ns j
  have e2:(ns.take j).length≤ns.length:=List.length_take_le' j ns
  unfold inkNE
  omega
 clear hn hr hs hb
 go_enter Tryd.func17,Tryd.ntmps17
 go_wp2
 go_loopw [1,5] (fun l i wr=>∃j:Nat,∃x:Int,j≤n∧i=.int .i64 j∧l=.int .i64 x∧1≤x∧x≤536870912∧Hid (x=inkNE k (ns.take j)∧Below w.heap.size w wr)) (fun _ i _=>n-(intOf i).toNat)
 case atStart=>exact⟨0,k,Nat.zero_le _,rfl,rfl,h0,by omega,by simp[inkNE],Below.refl _ _⟩
 case round=>
  obtain⟨j,x,hj,rfl,rfl,hx0,hx1,HI⟩:=hrel
  by_cases hlt:(j:Int)<(n:Int)
  ·obtain⟨b,off,y',he,rfl,hrk,hc⟩:=(HO.out wr HI.out.2).el.2.2.2 j (by omega)
   obtain⟨y,hp⟩:∃p,ns[j]?=some p:=⟨_,List.getElem?_eq_getElem (by have:=HN.out;omega)⟩
   have e1:=inkNL_get k ns j y hp
   rw[e1]at he
   cases he
   rw[←HI.out.1]at hc hrk
   have hlk:y.n.len≤1048576:=HSm.out y (List.mem_of_getElem? hp)
   have HX:Hid (x+15+y.n.len=inkNE k (ns.take (j+1))∧x+15+y.n.len≤536870912):=by
    have e1:x+15+y.n.len=inkNE k (ns.take (j+1)):=by
     obtain⟨hjl,he⟩:=List.getElem?_eq_some_iff.1 hp
     rw[List.take_succ_eq_append_getElem hjl,inkNE_snoc,←HI.out.1,he]
    exact⟨e1,by rw[e1];exact HBd.out (j+1)⟩
   have hxb:=HX.out.2
   obtain⟨a,bv,kv,q0,z,m⟩:=y
   dsimp only at HX hxb hlk hc hrk
   have HRK:Hid (∀wx,Below wr.heap.size wr wx→RdN wx a bv kv q0 z (m.inkS x)):=fun wx B=>RdN.below hrk B
   have HCC:Hid (∀wx,Below wr.heap.size wr wx→∀i,i<20→wx.cell? ⟨b,off+j*20+i,none⟩=(ndA a bv kv q0 z (m.inkS x))[i]?):=fun wx B i hi=>by
    obtain⟨b',off',y2,he2,e3,_,hc2⟩:=(HO.out wx (HI.out.2.trans (B.mono HI.out.2.size))).el.2.2.2 j (by omega)
    rw[e1]at he2
    cases he2
    cases e3
    rw[←HI.out.1]at hc2
    exact hc2 i hi
   obtain⟨ao',ac,rfl⟩:∃o c,a=.slice o m.xs.length c:=by obtain⟨p,q,e⟩:=reads_form (RdN.ra hrk);exact⟨p,q,(show a=.slice p (m.inkS x).xs.length q from e).trans (by simp[Nd.inkS,marks])⟩
   obtain⟨bo',bc,rfl⟩:∃o c,bv=.slice o m.ys.length c:=by obtain⟨p,q,e⟩:=reads_form (RdN.rb hrk);exact⟨p,q,(show bv=.slice p (m.inkS x).ys.length q from e).trans (by simp[Nd.inkS,marks])⟩
   obtain⟨ko',kc,rfl⟩:∃o c,kv=.slice o m.h.ks.length c:=by obtain⟨p,q,e⟩:=reads_form (RdN.rk hrk);exact⟨p,q,(show kv=.slice p (m.inkS x).h.ks.length q from e).trans (by simp[Nd.inkS,marks])⟩
   obtain⟨qo',qc,rfl⟩:∃o c,q0=.slice o m.c.ts.length c:=by obtain⟨p,q,e⟩:=reads_form (RdN.rq hrk);exact⟨p,q,(show q0=.slice p (m.inkS x).c.ts.length q from e).trans (by simp[Nd.inkS,marks])⟩
   obtain⟨zo',zc,rfl⟩:∃o c,z=.slice o m.s.ts.length c:=by obtain⟨p,q,e⟩:=reads_form (RdN.rz hrk);exact⟨p,q,(show z=.slice p (m.inkS x).s.ts.length q from e).trans (by simp[Nd.inkS,marks])⟩
   have hle:m.xs.length+m.ys.length+m.h.ks.length+m.c.ts.length+m.s.ts.length=m.len:=rfl
   clear hc hrk e1 hp
   obtain⟨lx,hlx⟩:∃l,l=m.xs.length:=⟨_,rfl⟩
   obtain⟨ly,hly⟩:∃l,l=m.ys.length:=⟨_,rfl⟩
   obtain⟨lk,hlk'⟩:∃l,l=m.h.ks.length:=⟨_,rfl⟩
   obtain⟨lq,hlq⟩:∃l,l=m.c.ts.length:=⟨_,rfl⟩
   obtain⟨lz,hlz⟩:∃l,l=m.s.ts.length:=⟨_,rfl⟩
   obtain⟨le,hle'⟩:∃l,l=m.len:=⟨_,rfl⟩
   rw[←hlx,←hly,←hlk',←hlq,←hlz,←hle']at hle
   rw[←hle']at hxb hlk HX
   obtain⟨z2,hz2⟩:∃z:Int,z=x+1+1+lx:=⟨_,rfl⟩
   obtain⟨z3,hz3⟩:∃z:Int,z=z2+ly:=⟨_,rfl⟩
   obtain⟨z4,hz4⟩:∃z:Int,z=z3+lk:=⟨_,rfl⟩
   obtain⟨z5,hz5⟩:∃z:Int,z=z4+1+1+1+1+1+1+1+1+1+1+1+1+lq:=⟨_,rfl⟩
   obtain⟨z6,hz6⟩:∃z:Int,z=z5+1+lz:=⟨_,rfl⟩
   obtain⟨tx,htx⟩:∃t,t=mtext (z4+1+1+1).toNat:=⟨_,rfl⟩
   obtain⟨up,hup⟩:∃t:Bool,t=((x+1)%3==0):=⟨_,rfl⟩
   obtain⟨op,hop⟩:∃t:Bool,t=((z4+1+1+1+1+1+1+1+1+1)%3==0):=⟨_,rfl⟩
   have HM:Hid (ndA (.slice ao' lx ac) (.slice bo' ly bc) (.slice ko' lk kc) (.slice qo' lq qc) (.slice zo' lz zc) (m.inkS x)=#[.int .i64 x,.bool ((x+1)%3==0),.slice ao' lx ac,.slice bo' ly bc,.slice ko' lk kc,.int .i64 z4,.int .i64 (z4+1),.int .i64 (z4+1+1),.string ⟨tx.toArray⟩,.int .i64 (z4+1+1+1+1),.int .i64 (z4+1+1+1+1+1),.int .i64 (z4+1+1+1+1+1+1),.int .i64 (z4+1+1+1+1+1+1+1),.int .i64 (z4+1+1+1+1+1+1+1+1),.bool ((z4+1+1+1+1+1+1+1+1+1)%3==0),.int .i64 (z4+1+1+1+1+1+1+1+1+1+1),.int .i64 (z4+1+1+1+1+1+1+1+1+1+1+1),.slice qo' lq qc,.int .i64 z5,.slice zo' lz zc]):=by
    rw[Hid,htx,hz5,hz4,hz3,hz2,hlx,hly,hlk',hlq]
    rfl
   have HL:Hid (RdN wr (.slice ao' lx ac) (.slice bo' ly bc) (.slice ko' lk kc) (.slice qo' lq qc) (.slice zo' lz zc) (m.inkS x)∧(m.inkS x).xs=marks (x+1+1) lx∧(m.inkS x).ys=marks z2 ly∧(m.inkS x).h.ks=marks z3 lk∧(m.inkS x).c.ts=marks (z4+1+1+1+1+1+1+1+1+1+1+1+1) lq∧(m.inkS x).s.ts=marks (z5+1) lz):=by
    refine⟨?_,?_,?_,?_,?_,?_⟩
    ·rw[hlx,hly,hlk',hlq,hlz];exact HRK.out wr (Below.refl _ _)
    ·rw[hlx];rfl
    ·rw[hz2,hlx,hly];rfl
    ·rw[hz3,hz2,hlx,hly,hlk'];rfl
    ·rw[hz4,hz3,hz2,hlx,hly,hlk',hlq];rfl
    ·rw[hz5,hz4,hz3,hz2,hlx,hly,hlk',hlq,hlz];rfl
   rw[←hlx,←hly,←hlk',←hlq,←hlz]at HCC HRK
   have HZ:Hid (z2=x+1+1+lx∧z3=z2+ly∧z4=z3+lk∧z5=z4+1+1+1+1+1+1+1+1+1+1+1+1+lq∧z6=z5+1+lz):=⟨hz2,hz3,hz4,hz5,hz6⟩
   have HT:Hid (tx=mtext (z4+1+1+1).toNat):=htx
   have bz:(1≤z2∧z2≤536870912)∧(1≤z3∧z3≤536870912)∧(1≤z4∧z4+12≤536870912)∧(1≤z5∧z5+1≤536870912)∧1≤z6∧z6≤536870912:=by omega
   have bl:lx≤1048576∧ly≤1048576∧lk≤1048576∧lq≤1048576∧lz≤1048576:=by omega
   have HF:Hid (z6=inkNE k (ns.take (j+1))):=by have h1:=HX.out.1;rw[Hid];omega
   have hjn:j+1≤n:=by omega
   clear hlx hly hlk' hlq hlz hle' hle hz2 hz3 hz4 hz5 hz6 htx hxb hlk HX hup hop up op
   obtain⟨⟨bz20,bz21⟩,⟨bz30,bz31⟩,⟨bz40,bz41⟩,⟨bz50,bz51⟩,bz60,bz61⟩:=bz
   obtain⟨bl1,bl2,bl3,bl4,bl5⟩:=bl
   have c0:wr.cell? ⟨b,off+j*20,none⟩=some (.int .i64 x):=by have h:=HCC.out wr (Below.refl _ _) 0 (by decide);rw[HM.out]at h;exact h
   have c1:wr.cell? ⟨b,off+j*20+1,none⟩=some (.bool ((x+1)%3==0)):=by have h:=HCC.out wr (Below.refl _ _) 1 (by decide);rw[HM.out]at h;exact h
   have c2:wr.cell? ⟨b,off+j*20+2,none⟩=some (.slice ao' lx ac):=by have h:=HCC.out wr (Below.refl _ _) 2 (by decide);rw[HM.out]at h;exact h
   have c3:wr.cell? ⟨b,off+j*20+3,none⟩=some (.slice bo' ly bc):=by have h:=HCC.out wr (Below.refl _ _) 3 (by decide);rw[HM.out]at h;exact h
   have c4:wr.cell? ⟨b,off+j*20+4,none⟩=some (.slice ko' lk kc):=by have h:=HCC.out wr (Below.refl _ _) 4 (by decide);rw[HM.out]at h;exact h
   have c5:wr.cell? ⟨b,off+j*20+5,none⟩=some (.int .i64 z4):=by have h:=HCC.out wr (Below.refl _ _) 5 (by decide);rw[HM.out]at h;exact h
   have c6:wr.cell? ⟨b,off+j*20+6,none⟩=some (.int .i64 (z4+1)):=by have h:=HCC.out wr (Below.refl _ _) 6 (by decide);rw[HM.out]at h;exact h
   have c7:wr.cell? ⟨b,off+j*20+7,none⟩=some (.int .i64 (z4+1+1)):=by have h:=HCC.out wr (Below.refl _ _) 7 (by decide);rw[HM.out]at h;exact h
   have c8:wr.cell? ⟨b,off+j*20+8,none⟩=some (.string ⟨tx.toArray⟩):=by have h:=HCC.out wr (Below.refl _ _) 8 (by decide);rw[HM.out]at h;exact h
   have CL:Calls Tryd.prog 32 #[.slice ao' lx ac,.int .i64 (x+1+1)] wr fun e w'=>e=.returned (.int .i64 z2)∧w'=wr:=by
    have h:=(HL.out.1.below (Below.refl _ _)).ra
    rw[HL.out.2.1]at h
    rw[HZ.out.1]
    exact held_marks (.slice ao' lx ac) lx (x+1+1) wr h (by omega) (by omega) (by omega)
   go_wp2_with fail
   refine CL.mono ?_
   rintro e w' ⟨rfl,hw⟩
   subst w'
   clear CL
   have CL:Calls Tryd.prog 32 #[.slice bo' ly bc,.int .i64 (z2)] wr fun e w'=>e=.returned (.int .i64 z3)∧w'=wr:=by
    have h:=(HL.out.1.below (Below.refl _ _)).rb
    rw[HL.out.2.2.1]at h
    rw[HZ.out.2.1]
    exact held_marks (.slice bo' ly bc) ly (z2) wr h (by omega) (by omega) (by omega)
   go_wp2_with fail
   refine CL.mono ?_
   rintro e w' ⟨rfl,hw⟩
   subst w'
   clear CL
   have CL:Calls Tryd.prog 32 #[.slice ko' lk kc,.int .i64 (z3)] wr fun e w'=>e=.returned (.int .i64 z4)∧w'=wr:=by
    have h:=(HL.out.1.below (Below.refl _ _)).rk
    rw[HL.out.2.2.2.1]at h
    rw[HZ.out.2.2.1]
    exact held_marks (.slice ko' lk kc) lk (z3) wr h (by omega) (by omega) (by omega)
   go_wp2_with fail
   refine CL.mono ?_
   rintro e w' ⟨rfl,hw⟩
   subst w'
   clear CL
   go_upto_region 28 with fail
   clear c0 c1 c2 c3 c4 c5 c6 c7
   obtain⟨C,hCd⟩:∃C,C=fun x=>Below wr.heap.size wr x:=⟨_,rfl⟩
   have HQ:Hid (∀x,C x→Below wr.heap.size wr x):=by rw[hCd];exact fun _ h=>h
   have HNx:Hid (∀x y,C x→Later x y→C y):=by rw[hCd];exact fun _ _ h b=>h.trans (b.mono h.size)
   have H0:Hid (C wr.drew):=by rw[hCd];exact(Below.refl _ _).drew
   have hne:Nonempty (Kin C):=⟨⟨_,H0.out⟩⟩
   clear hCd
   have m8:∀q:Kin C,q.x.cell? ⟨b,off+j*20+8,none⟩=some (.string ⟨tx.toArray⟩):=fun q=>by have h:=HCC.out q.x (HQ.out _ q.h) 8 (by decide);rw[HM.out]at h;exact h
   clear c8
   refine wp_region_gs (C:=C) (E:=byDst fun d=>if d=98 then some (txG tx)else none) (R:=Later) HNx.out (byDst_later (by intro d s hs u x y hx hl;split at hs;(cases hs;trivial);cases hs)) (byDst_looks _ _) (by kernel_rfl) (by kernel_rfl) H0.out ?_
   iterate 6 (refine gs_plain rfl (fun K hK=>?_);go_simp;refine hK _ ?_;clear hK K)
   refine gs_call (txG tx) rfl (by first|rfl|kernel_rfl) (fun wq hB=>?_) (fun uq hu=>?_)
   ·go_simp
    refine⟨rfl,?_⟩
    rw[HT.out]
    exact txG_of (mtext_any _ wq (by omega) (by omega))
   obtain rfl:=hu
   iterate 1 (refine gs_plain rfl (fun K hK=>?_);go_simp;refine hK _ ?_;clear hK K)
   refine gs_end (fun w8 hz=>?_)
   have B8:Hid (Below wr.heap.size wr w8):=HQ.out _ hz.1
   clear hz HQ HNx H0 hne m8
   have c9:w8.cell? ⟨b,off+j*20+9,none⟩=some (.int .i64 (z4+1+1+1+1)):=by have h:=HCC.out w8 B8.out 9 (by decide);rw[HM.out]at h;exact h
   have c10:w8.cell? ⟨b,off+j*20+10,none⟩=some (.int .i64 (z4+1+1+1+1+1)):=by have h:=HCC.out w8 B8.out 10 (by decide);rw[HM.out]at h;exact h
   have c11:w8.cell? ⟨b,off+j*20+11,none⟩=some (.int .i64 (z4+1+1+1+1+1+1)):=by have h:=HCC.out w8 B8.out 11 (by decide);rw[HM.out]at h;exact h
   have c12:w8.cell? ⟨b,off+j*20+12,none⟩=some (.int .i64 (z4+1+1+1+1+1+1+1)):=by have h:=HCC.out w8 B8.out 12 (by decide);rw[HM.out]at h;exact h
   have c13:w8.cell? ⟨b,off+j*20+13,none⟩=some (.int .i64 (z4+1+1+1+1+1+1+1+1)):=by have h:=HCC.out w8 B8.out 13 (by decide);rw[HM.out]at h;exact h
   have c14:w8.cell? ⟨b,off+j*20+14,none⟩=some (.bool ((z4+1+1+1+1+1+1+1+1+1)%3==0)):=by have h:=HCC.out w8 B8.out 14 (by decide);rw[HM.out]at h;exact h
   have c15:w8.cell? ⟨b,off+j*20+15,none⟩=some (.int .i64 (z4+1+1+1+1+1+1+1+1+1+1)):=by have h:=HCC.out w8 B8.out 15 (by decide);rw[HM.out]at h;exact h
   have c16:w8.cell? ⟨b,off+j*20+16,none⟩=some (.int .i64 (z4+1+1+1+1+1+1+1+1+1+1+1)):=by have h:=HCC.out w8 B8.out 16 (by decide);rw[HM.out]at h;exact h
   have c17:w8.cell? ⟨b,off+j*20+17,none⟩=some (.slice qo' lq qc):=by have h:=HCC.out w8 B8.out 17 (by decide);rw[HM.out]at h;exact h
   have c18:w8.cell? ⟨b,off+j*20+18,none⟩=some (.int .i64 z5):=by have h:=HCC.out w8 B8.out 18 (by decide);rw[HM.out]at h;exact h
   have c19:w8.cell? ⟨b,off+j*20+19,none⟩=some (.slice zo' lz zc):=by have h:=HCC.out w8 B8.out 19 (by decide);rw[HM.out]at h;exact h
   have CL:Calls Tryd.prog 32 #[.slice qo' lq qc,.int .i64 (z4+1+1+1+1+1+1+1+1+1+1+1+1)] w8 fun e w'=>e=.returned (.int .i64 z5)∧w'=w8:=by
    have h:=(HL.out.1.below B8.out).rq
    rw[HL.out.2.2.2.2.1]at h
    rw[HZ.out.2.2.2.1]
    exact held_marks (.slice qo' lq qc) lq (z4+1+1+1+1+1+1+1+1+1+1+1+1) w8 h (by omega) (by omega) (by omega)
   go_wp2_with fail
   refine CL.mono ?_
   rintro e w' ⟨rfl,hw⟩
   subst w'
   clear CL
   have CL:Calls Tryd.prog 32 #[.slice zo' lz zc,.int .i64 (z5+1)] w8 fun e w'=>e=.returned (.int .i64 z6)∧w'=w8:=by
    have h:=(HL.out.1.below B8.out).rz
    rw[HL.out.2.2.2.2.2]at h
    rw[HZ.out.2.2.2.2]
    exact held_marks (.slice zo' lz zc) lz (z5+1) w8 h (by omega) (by omega) (by omega)
   go_wp2_with fail
   refine CL.mono ?_
   rintro e w' ⟨rfl,hw⟩
   subst w'
   clear CL
   have HG:Hid (Below w.heap.size w w8):=HI.out.2.trans (B8.out.mono HI.out.2.size)
   go_wp2
   go_roundw
   case rel=>exact⟨j+1,z6,hjn,by go_num,rfl,bz60,bz61,HF.out,HG.out⟩
   case measure=>simp[intOf];omega
  ·have HE:Hid (x=inkNE k ns):=by
    have h1:=HI.out.1
    rw[List.take_of_length_le (by have:=HN.out;omega)]at h1
    exact h1
   go_wp2
   go_ret
   exact⟨by rw[HE.out];rfl,HI.out.2⟩
end Go.Proofs.YthmnmaemnihkeaaDoor
