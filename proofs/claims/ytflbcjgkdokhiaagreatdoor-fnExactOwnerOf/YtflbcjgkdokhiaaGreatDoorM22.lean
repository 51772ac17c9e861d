/- Posts by the program: allRight, PostOk, find, gathered. -/
import Derived.Test.YtflbcjgkdokhiaaGreatDoorM21
import Derived.Test.YtflbcjgkdokhiaaGreatDoorM16
import Derived.Test.YtflbcjgkdokhiaaGreatDoorM5
import Derived.Test.YtflbcjgkdokhiaaGreatDoorM18
set_option maxRecDepth 20000
set_option maxHeartbeats 1000000
namespace Go.Proofs.YtflbcjgkdokhiaaGreatDoor
open Go.ChangeShapes Go.WideShapes Go.ChangeAt Go.RowKit
theorem iallright_any (v:Value) (ps:List (Value×Mg)) (w:World) (hr:RdP w v ps) (hs:SmP ps):
  Calls Tryz.prog 60 #[v] w fun e w'=>e=.returned (.bool ((msOf ps).all Mg.ok))∧Below w.heap.size w w':=by
 obtain⟨ao,cap,rfl⟩:=hr.form
 have HR:Hid (∀wx,Below w.heap.size w wx→RdP wx (.slice ao ps.length cap) ps):=fun wx b=>hr.below b
 obtain⟨-,hnc,hcm, -⟩:=hr.el
 unfold maxLen at hcm
 clear hr
 obtain⟨n,hn⟩:∃n,n=ps.length:=⟨_,rfl⟩
 rw[←hn]at HR hnc⊢
 have HN:Hid (n=ps.length):=hn
 have HSm:Hid (SmP ps):=hs
 clear hn hs
 obtain⟨r,hr⟩:∃r,r=(msOf ps).all Mg.ok:=⟨_,rfl⟩
 rw[←hr]
 have HRr:Hid (r=(msOf ps).all Mg.ok):=hr
 clear hr
 go_enter Tryz.func60,Tryz.ntmps60
 go_wp2
 go_loopw [7] (fun i wr=>∃j:Nat,j≤n∧i=.int .i64 j∧Hid (((msOf ps).take j).all Mg.ok=true∧Below w.heap.size w wr)) (fun i _=>n-(intOf i).toNat)
 case atStart=>exact⟨0,Nat.zero_le _,rfl,by simp,Below.refl _ _⟩
 case round=>
  obtain⟨j,hj,rfl,HI⟩:=hrel
  by_cases hlt:(j:Int)<(n:Int)
  ·obtain⟨b,off,u,m,he,rfl,hrk,hc⟩:=(HR.out wr HI.out.2).el.2.2.2 j (by omega)
   obtain⟨w1,hw1⟩:∃w1,w1=wr.alloc (.cells zeroMg 85):=⟨_,rfl⟩
   have s1:StB w1 wr.heap.size 85 zeroMg:=by rw[hw1];exact StB.new _ _ _
   have b1:Below wr.heap.size wr w1:=by rw[hw1];exact(Below.refl _ _).alloc (Nat.le_refl _) _
   have HC:Hid (∀i,i<11→wr.cell? ⟨b,off+j*11+i,none⟩=(mgA u m)[i]?):=hc
   have HE:Hid (ps[j]?=some (u,m)∧Reads wr u m.h.ks∧Below w.heap.size w wr):=⟨he,hrk,HI.out.2⟩
   have hu:u.oneCell'=true:=reads_one hrk
   clear hc hrk he
   unfold zeroMg at hw1
   go_upto_region 4 with(first|(refine wpList_getO Tryz.isMg rfl _ rfl b (off+j*11) rfl (mgA u m) rfl HC.out ?_)|(rw[←hw1];refine wpList_putS Tryz.isMg rfl _ _ rfl wr.heap.size (mgA u m) zeroMg rfl rfl rfl rfl (mgA_one _ hu) s1 ?_;intro w2 s2 g2))
   (try simp only[Act.put])
   have b2:Below wr.heap.size wr w2:=b1.grown g2 b1.size (fun x e=>by cases e;omega)
   have C:=imsg_any u m w2 (HE.out.2.1.below b2 (Nat.le_refl _)) (HSm.out.at HE.out.1)
   obtain⟨x,hx⟩:∃x,x=m.ok:=⟨_,rfl⟩
   rw[←hx]at C
   have HX:Hid (x=m.ok):=hx
   have B2:Hid (Below w.heap.size w w2):=HE.out.2.2.trans (b2.mono HE.out.2.2.size)
   clear hx b1 b2 s1 hw1 g2
   go_wp2_with (refine wpList_getS Tryz.isMg rfl _ rfl wr.heap.size rfl (mgA u m) rfl s2 ?_)
   refine C.mono ?_
   rintro e w3 ⟨rfl,b3⟩
   have HB:Hid (Below w.heap.size w w3):=B2.out.trans (b3.mono B2.out.size)
   clear b3 C HC s2
   cases x with
   |false=>
    have HF:Hid (r=false):=by rw[Hid,HRr.out];rw[all_not_ok _ j m (msOf_at HE.out.1) HX.out.symm]
    clear HX
    go_wp2
    go_ret
    exact⟨ret_bool (by rw[HF.out]),HB.out⟩
   |true=>
    have HT:Hid (((msOf ps).take (j+1)).all Mg.ok=true):=all_take_ok _ j m (msOf_at HE.out.1) HI.out.1 HX.out.symm
    clear HX
    go_wp2
    go_roundw
    case rel=>exact⟨j+1,by omega,by go_num,HT.out,HB.out⟩
    case measure=>simp[intOf];omega
  ·have HT:Hid (r=true):=by
    have h1:=HI.out.1
    rw[List.take_of_length_le (by rw[msOf_len,←HN.out];omega)]at h1
    rw[Hid,HRr.out,h1]
   go_wp2
   go_ret
   exact⟨ret_bool (by rw[HT.out]),HI.out.2⟩
theorem ipostok_any (v:Value) (ps:List (Value×Mg)) (w:World) (hr:RdP w v ps) (hs:SmP ps):
  Calls Tryz.prog 32 #[v] w fun e w'=>e=.returned (.bool (postOk (msOf ps)))∧Below w.heap.size w w':=by
 have C:=iallright_any v ps w hr hs
 obtain⟨ao,cap,rfl⟩:=hr.form
 obtain⟨-,hnc,hcm, -⟩:=hr.el
 unfold maxLen at hcm
 have HE:Hid (postOk (msOf ps)=(decide (ps.length≤40)&&(msOf ps).all Mg.ok)):=by unfold postOk;rw[msOf_len];rfl
 obtain⟨r,hr'⟩:∃r,r=postOk (msOf ps):=⟨_,rfl⟩
 rw[←hr']at HE⊢
 obtain⟨x,hx⟩:∃x,x=(msOf ps).all Mg.ok:=⟨_,rfl⟩
 rw[←hx]at HE C
 obtain⟨n,hn⟩:∃n,n=ps.length:=⟨_,rfl⟩
 rw[←hn]at HE C hnc⊢
 clear hr' hx hn hr hs
 by_cases h40:(n:Int)≤40
 ·replace HE:Hid (r=x):=by rw[Hid,HE.out,show decide (n≤40)=true from decide_eq_true (by omega)];rfl
  go_enter Tryz.func32,Tryz.ntmps32
  go_wp2_with fail
  refine C.mono ?_
  rintro e w1 ⟨rfl,b1⟩
  have HB:Hid (Below w.heap.size w w1):=b1
  clear b1
  go_wp2
  go_ret
  exact⟨ret_bool (by rw[HE.out]),HB.out⟩
 ·replace HE:Hid (r=false):=by rw[Hid,HE.out,show decide (n≤40)=false from decide_eq_false (by omega)];rfl
  clear C
  go_enter Tryz.func32,Tryz.ntmps32
  go_wp2
  go_ret
  exact⟨ret_bool (by rw[HE.out]),Below.refl _ _⟩
end Go.Proofs.YtflbcjgkdokhiaaGreatDoor
namespace Go.Proofs.YtflbcjgkdokhiaaGreatDoor
open Go.ChangeShapes Go.WideShapes Go.ChangeAt Go.RowKit
def Sp (g:Nat) (w1 w':World):Prop:=∀a x,a.block≠g→w1.cell? a=some x→w'.cell? a=some x
theorem Sp.bel {g:Nat} {w1 wx wy:World} (h:Sp g w1 wx) (b:Below wx.heap.size wx wy):Sp g w1 wy:=fun a x h1 h3=>later_cell (h a x h1 h3) b
theorem Sp.al {g:Nat} {w1 wx:World} {o:Obj} (h:Sp g w1 wx):Sp g w1 (wx.alloc o):=h.bel ((Below.refl _ _).alloc (Nat.le_refl _) _)
theorem Sp.put {g:Nat} {w1 wx wy:World} (h:Sp g w1 wx) (e:wx.grownBy wy (some g)):Sp g w1 wy:=fun a x h1 h3=>e.cell (h a x h1 h3) (by simpa using h1)
theorem Sp.set {g:Nat} {w1 wx:World} {j:Nat} {v:Value} (h:Sp g w1 wx):Sp g w1 (wx.setCell ⟨g,j,none⟩ v):=h.put (grownSet wx g j v)
def Sd (g k:Nat) (w1 w':World):Prop:=∀a x,a.block≠g→a.block≠k→w1.cell? a=some x→w'.cell? a=some x
theorem Sd.bel {g k:Nat} {w1 wx wy:World} (h:Sd g k w1 wx) (b:Below wx.heap.size wx wy):Sd g k w1 wy:=fun a x h1 h2 h3=>later_cell (h a x h1 h2 h3) b
theorem Sd.al {g k:Nat} {w1 wx:World} {o:Obj} (h:Sd g k w1 wx):Sd g k w1 (wx.alloc o):=h.bel ((Below.refl _ _).alloc (Nat.le_refl _) _)
end Go.Proofs.YtflbcjgkdokhiaaGreatDoor
namespace Go.Proofs.YtflbcjgkdokhiaaGreatDoor
open Go.ChangeShapes Go.WideShapes Go.ChangeAt Go.RowKit
end Go.Proofs.YtflbcjgkdokhiaaGreatDoor
namespace Go.Proofs.YtflbcjgkdokhiaaGreatDoor
open Go.ChangeShapes Go.WideShapes Go.ChangeAt Go.RowKit
end Go.Proofs.YtflbcjgkdokhiaaGreatDoor
namespace Go.Proofs.YtflbcjgkdokhiaaGreatDoor
open Go.ChangeShapes Go.WideShapes Go.ChangeAt Go.RowKit
end Go.Proofs.YtflbcjgkdokhiaaGreatDoor
namespace Go.Proofs.YtflbcjgkdokhiaaGreatDoor
open Go.ChangeShapes Go.WideShapes Go.ChangeAt Go.RowKit
theorem RdP.part {w:World} {b off n cap:Nat} {ps:List (Value×Mg)} (h:RdP w (.slice (some ⟨b,off,none⟩) n cap) ps) (l m:Nat) (hl:l≤m) (hm:m≤n):RdP w (sliced (some ⟨b,off,none⟩) l m cap 11) ((ps.drop l).take (m-l)):=by
 obtain⟨e,hnc,hcm,hel⟩:=h.el
 have hlen:((ps.drop l).take (m-l)).length=m-l:=by rw[List.length_take,List.length_drop];omega
 refine⟨⟨msC_sz _,?_⟩,fun p hp=>h.key p (List.mem_of_mem_drop (List.mem_of_mem_take hp))⟩
 refine⟨if cap=l then some ⟨b,off,none⟩else some ⟨b,off+l*11,none⟩,cap-l,?_,by rw[msC_len,hlen];omega,⟨by omega,fun e=>by split at e<;>cases e⟩,?_⟩
 ·unfold sliced
  rw[msC_len,hlen]
  simp only[Option.map_some,addr_add]
 ·by_cases hc:cap=l
  ·left
   apply List.eq_nil_of_length_eq_zero
   rw[msC_len,hlen];omega
  ·refine .inr ⟨b,off+l*11,by rw[if_neg hc],fun j i hj hi=>?_⟩
   rw[msC_len,hlen]at hj
   obtain⟨b',off',u,q,he,hb, -,hcell⟩:=hel (l+j) (by omega)
   cases hb
   have e2:((ps.drop l).take (m-l))[j]?=some (u,q):=by rw[List.getElem?_take,if_pos hj,List.getElem?_drop,he]
   have e3:(msC ((ps.drop l).take (m-l))).getD j #[]=mgA u q:=by simp only[msC,List.getD,List.getElem?_map,e2];rfl
   rw[e3,←hcell i hi,show off+l*11+(j*11+i)=off+(l+j)*11+i by rw[Nat.add_mul];omega]
theorem SmP.part {ps:List (Value×Mg)} (h:SmP ps) (l m:Nat):SmP ((ps.drop l).take m):=fun p hp=>h p (List.mem_of_mem_drop (List.mem_of_mem_take hp))
end Go.Proofs.YtflbcjgkdokhiaaGreatDoor
namespace Go.Proofs.YtflbcjgkdokhiaaGreatDoor
open Go.ChangeShapes Go.WideShapes Go.ChangeAt Go.RowKit
end Go.Proofs.YtflbcjgkdokhiaaGreatDoor
set_option maxRecDepth 20000
set_option maxHeartbeats 2000000
namespace Go.Proofs.YtflbcjgkdokhiaaGreatDoor
open Go.ChangeShapes Go.WideShapes Go.ChangeAt Go.RowKit
theorem Tryz.isLM:IsS 71 11:=⟨⟨_,Tryz.underlying71⟩,by kernel_rfl⟩
theorem szMsg_any (v:Value) (m:Mg) (k:Int) (w:World) (hr:Reads w v m.h.ks) (h0:0≤k) (h1:k≤1048576):
  Calls Tryz.prog 23 #[MgV v m,.int .i64 k] w fun e w'=>e=.returned (.int .i64 (szI k m.h.ks.length))∧Below w.heap.size w w':=by
 obtain⟨w1,hw1⟩:∃w1,w1=w.alloc (.cells (mgA v m) 71):=⟨_,rfl⟩
 have B1:Below w.heap.size w w1:=by rw[hw1];exact(Below.refl _ _).alloc (Nat.le_refl _) _
 have S1:StB w1 w.heap.size 71 (mgA v m):=by rw[hw1];exact StB.new _ _ _
 have c1:=szHolding_any v m.h k w1 (hr.below B1 (Nat.le_refl _)) h0 h1
 have hs:szI k m.h.ks.length= -1∨0≤szI k m.h.ks.length:=by unfold szI;split<;>omega
 obtain⟨x,hx⟩:∃x,x=szI k m.h.ks.length:=⟨_,rfl⟩
 rw[←hx]at c1 hs⊢
 have HB:Hid (Below w.heap.size w w1):=B1
 clear hx hr B1
 unfold HV at c1
 unfold MgV
 go_enter Tryz.func23,Tryz.ntmps23
 go_upto_region 1 with fail
 rw[←hw1]
 clear hw1
 go_wp2_with (refine wpList_getO Tryz.isLH rfl _ rfl w.heap.size 7 rfl (hdA v m.h) rfl (mg_hold S1) ?_)
 refine c1.mono ?_
 rintro e w2 ⟨rfl,b2⟩
 replace HB:Hid (Below w.heap.size w w2):=HB.out.trans (b2.mono HB.out.size)
 clear b2 S1 c1
 rcases hs with hs|hs
 ·subst hs
  go_wp2
  go_ret
  exact⟨rfl,HB.out⟩
 ·go_wp2
  go_ret
  exact⟨rfl,HB.out⟩
theorem toMsg_any (v:Value) (m:Mg) (w:World) (hr:Reads w v m.h.ks) (hl:m.h.ks.length≤1048576):
  Calls Tryz.prog 29 #[MgV v m] w fun e w'=>∃u,e=.returned (MgV u m)∧Own w' w.heap.size u m.h.ks∧Below w.heap.size w w':=by
 obtain⟨w1,hw1⟩:∃w1,w1=((w.alloc (.cells (mgA v m) 71)).alloc (.cells zeroMg 85)).alloc (.cells (mgA (.slice none 0 0) {m with h:=Hd.zero}) 85):=⟨_,rfl⟩
 have p0:StB w1 w.heap.size 71 (mgA v m):=by rw[hw1];exact((StB.new w _ _).alloc _).alloc _
 have q0:StB w1 (w.heap.size+1) 85 zeroMg:=by
  rw[hw1]
  have:=(StB.new (w.alloc (.cells (mgA v m) 71)) 85 zeroMg).alloc (.cells (mgA (.slice none 0 0) {m with h:=Hd.zero}) 85)
  rwa[World.size_alloc]at this
 have r0:StB w1 (w.heap.size+1+1) 85 (mgA (.slice none 0 0) {m with h:=Hd.zero}):=by
  rw[hw1]
  have:=StB.new ((w.alloc (.cells (mgA v m) 71)).alloc (.cells zeroMg 85)) 85 (mgA (.slice none 0 0) {m with h:=Hd.zero})
  rwa[World.size_alloc,World.size_alloc]at this
 have b1:Below w.heap.size w w1:=by rw[hw1];exact(((Below.refl _ _).alloc (Nat.le_refl _) _).alloc (by simp) _).alloc (by simp;omega) _
 have c1:=toHolding_any v m.h w1 (hr.below b1 (Nat.le_refl _)) (by omega)
 have hz:w.heap.size+2<w1.heap.size:=r0.lt
 have HB:Hid (Below w.heap.size w w1):=b1
 clear b1 hr hl
 unfold HV at c1
 unfold MgV
 go_enter Tryz.func29,Tryz.ntmps29
 have e0:w1=((w.alloc (.cells #[.int .i64 m.dst,.int .i64 m.kd,.int .i64 m.tr,.int .i64 m.pl,.int .i64 m.tn,.int .i64 m.va,.int .i64 m.ep,v,.int .i64 m.h.kd,.int .i64 m.h.ho,.int .i64 m.h.tu] 71)).alloc (.cells #[.int .i64 0,.int .i64 0,.int .i64 0,.int .i64 0,.int .i64 0,.int .i64 0,.int .i64 0,.slice none 0 0,.int .i64 0,.int .i64 0,.int .i64 0] 85)).alloc (.cells #[.int .i64 m.dst,.int .i64 m.kd,.int .i64 m.tr,.int .i64 m.pl,.int .i64 m.tn,.int .i64 m.va,.int .i64 m.ep,.slice none 0 0,.int .i64 0,.int .i64 0,.int .i64 0] 85):=hw1
 conv in (mgA v m)=>unfold mgA
 go_upto_region 9 with fail
 rw[←e0]
 clear hw1 e0
 go_wp2_with (refine wpList_getO Tryz.isLH rfl _ rfl w.heap.size 7 rfl (hdA v m.h) rfl (mg_hold p0) ?_)
 refine c1.mono ?_
 rintro e w2 ⟨u,rfl,o2,b2⟩
 have hu:u.oneCell'=true:=reads_one o2.reads
 replace r0:=r0.below b2
 replace q0:=q0.below b2
 have HO:Hid (Own w2 w1.heap.size u m.h.ks∧Below w.heap.size w w2):=⟨o2,HB.out.trans (b2.mono HB.out.size)⟩
 clear c1 b2 o2 p0 HB
 go_wp2_with (first
  |(refine wpList_putPart Tryz.isH rfl _ _ rfl (w.heap.size+1+1) 7 85 (mgA (.slice none 0 0) {m with h:=Hd.zero}) (hdA u m.h) (mgA u m) rfl rfl rfl r0 (Nat.le_refl 11) (hdA_one _ hu) rfl ?_;intro w3 s3 g3)
  |(refine wpList_getS Tryz.isMg rfl _ rfl (w.heap.size+1+1) rfl (mgA u m) rfl s3 ?_)
  |(refine wpList_putS Tryz.isMg rfl _ _ rfl (w.heap.size+1) (mgA u m) zeroMg rfl rfl rfl rfl (mgA_one _ hu) (q0.kept g3 (by intro e;have:=Option.some.inj e;omega)) ?_;intro we se ge))
 refine bodyPost_ret (results_S Tryz.isMg rfl _ _ (w.heap.size+1) _ rfl rfl se) rfl ?_
 exact⟨_,rfl,((HO.out.1.keptLt g3 (by omega)).keptLt ge (by omega)).mono (by omega),(HO.out.2.grown g3 HO.out.2.size (fun x e=>by cases e;omega)).grown ge (Nat.le_trans HO.out.2.size g3.size) (fun x e=>by cases e;omega)⟩
theorem eqMsg_any (u v:Value) (m:Mg) (w:World) (hu:Reads w u m.h.ks) (hv:Reads w v m.h.ks) (hl:m.h.ks.length≤1048576):
  Calls Tryz.prog 35 #[MgV u m,MgV v m] w fun e w'=>e=.returned (.bool true)∧Below w.heap.size w w':=by
 obtain⟨w1,hw1⟩:∃w1,w1=(w.alloc (.cells (mgA u m) 85)).alloc (.cells (mgA v m) 85):=⟨_,rfl⟩
 have p0:StB w1 w.heap.size 85 (mgA u m):=by rw[hw1];exact(StB.new w _ _).alloc _
 have p1:StB w1 (w.heap.size+1) 85 (mgA v m):=by
  rw[hw1]
  have:=StB.new (w.alloc (.cells (mgA u m) 85)) 85 (mgA v m)
  rwa[World.size_alloc]at this
 have b1:Below w.heap.size w w1:=by rw[hw1];exact((Below.refl _ _).alloc (Nat.le_refl _) _).alloc (by simp) _
 have c1:=eqHolding_any u v m.h w1 (hu.below b1 (Nat.le_refl _)) (hv.below b1 (Nat.le_refl _)) (by omega)
 have HB:Hid (Below w.heap.size w w1):=b1
 clear hu hv hl b1
 unfold HV at c1
 unfold MgV
 have k0:w1.cell? ⟨w.heap.size,0,none⟩=some (.int .i64 m.dst):=p0.cell 0 rfl
 have k1:w1.cell? ⟨w.heap.size,1,none⟩=some (.int .i64 m.kd):=p0.cell 1 rfl
 have k2:w1.cell? ⟨w.heap.size,2,none⟩=some (.int .i64 m.tr):=p0.cell 2 rfl
 have k3:w1.cell? ⟨w.heap.size,3,none⟩=some (.int .i64 m.pl):=p0.cell 3 rfl
 have k4:w1.cell? ⟨w.heap.size,4,none⟩=some (.int .i64 m.tn):=p0.cell 4 rfl
 have k5:w1.cell? ⟨w.heap.size,5,none⟩=some (.int .i64 m.va):=p0.cell 5 rfl
 have k6:w1.cell? ⟨w.heap.size,6,none⟩=some (.int .i64 m.ep):=p0.cell 6 rfl
 have l0:w1.cell? ⟨w.heap.size+1,0,none⟩=some (.int .i64 m.dst):=p1.cell 0 rfl
 have l1:w1.cell? ⟨w.heap.size+1,1,none⟩=some (.int .i64 m.kd):=p1.cell 1 rfl
 have l2:w1.cell? ⟨w.heap.size+1,2,none⟩=some (.int .i64 m.tr):=p1.cell 2 rfl
 have l3:w1.cell? ⟨w.heap.size+1,3,none⟩=some (.int .i64 m.pl):=p1.cell 3 rfl
 have l4:w1.cell? ⟨w.heap.size+1,4,none⟩=some (.int .i64 m.tn):=p1.cell 4 rfl
 have l5:w1.cell? ⟨w.heap.size+1,5,none⟩=some (.int .i64 m.va):=p1.cell 5 rfl
 have l6:w1.cell? ⟨w.heap.size+1,6,none⟩=some (.int .i64 m.ep):=p1.cell 6 rfl
 go_enter Tryz.func35,Tryz.ntmps35
 go_upto_region 1 with fail
 rw[←hw1]
 clear hw1
 go_upto_region 15 with fail
 clear k0 k1 k2 k3 k4 k5 k6 l0 l1 l2 l3 l4 l5 l6
 go_wp2_with (first|(refine wpList_getO Tryz.isH rfl _ rfl w.heap.size 7 rfl (hdA u m.h) rfl (mg_hold p0) ?_)|(refine wpList_getO Tryz.isH rfl _ rfl (w.heap.size+1) 7 rfl (hdA v m.h) rfl (mg_hold p1) ?_))
 refine c1.mono ?_
 rintro e w2 ⟨rfl,b2⟩
 replace HB:Hid (Below w.heap.size w w2):=HB.out.trans (b2.mono HB.out.size)
 clear b2 c1 p0 p1
 go_wp2
 go_ret
 exact⟨rfl,HB.out⟩
end Go.Proofs.YtflbcjgkdokhiaaGreatDoor
