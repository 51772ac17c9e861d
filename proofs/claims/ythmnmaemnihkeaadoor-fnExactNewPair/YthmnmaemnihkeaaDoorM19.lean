/- What a region keeps that stores into one block alone: every cell of the others. -/
import Derived.Test.YthmnmaemnihkeaaDoorM14
import Derived.Test.YthmnmaemnihkeaaDoorM4
import Derived.Test.YthmnmaemnihkeaaDoorM18
import Derived.Test.YthmnmaemnihkeaaDoorM17
namespace Go.Proofs.YthmnmaemnihkeaaDoor
open Go.ChangeShapes Go.WideShapes Go.ChangeAt Go.RowKit
theorem bl_size {w wx:World} (h:Below w.heap.size w wx):w.heap.size≤wx.heap.size:=h.size
def Sp (g:Nat) (w1 w':World):Prop:=∀a x,a.block≠g→w1.cell? a=some x→w'.cell? a=some x
theorem Sp.refl (g:Nat) (w1:World):Sp g w1 w1:=fun _ _ _ h=>h
theorem Sp.dr {g:Nat} {w1 wx:World} (h:Sp g w1 wx):Sp g w1 wx.drew:=h
theorem Sp.bel {g:Nat} {w1 wx wy:World} (h:Sp g w1 wx) (b:Below wx.heap.size wx wy):Sp g w1 wy:=fun a x h1 h3=>later_cell (h a x h1 h3) b
theorem Sp.al {g:Nat} {w1 wx:World} {o:Obj} (h:Sp g w1 wx):Sp g w1 (wx.alloc o):=h.bel ((Below.refl _ _).alloc (Nat.le_refl _) _)
theorem Sp.put {g:Nat} {w1 wx wy:World} (h:Sp g w1 wx) (e:wx.grownBy wy (some g)):Sp g w1 wy:=fun a x h1 h3=>e.cell (h a x h1 h3) (by simpa using h1)
theorem Sp.set {g:Nat} {w1 wx:World} {j:Nat} {v:Value} (h:Sp g w1 wx):Sp g w1 (wx.setCell ⟨g,j,none⟩ v):=h.put (grownSet wx g j v)
def Sd (g k:Nat) (w1 w':World):Prop:=∀a x,a.block≠g→a.block≠k→w1.cell? a=some x→w'.cell? a=some x
theorem Sd.bel {g k:Nat} {w1 wx wy:World} (h:Sd g k w1 wx) (b:Below wx.heap.size wx wy):Sd g k w1 wy:=fun a x h1 h2 h3=>later_cell (h a x h1 h2 h3) b
theorem Sd.al {g k:Nat} {w1 wx:World} {o:Obj} (h:Sd g k w1 wx):Sd g k w1 (wx.alloc o):=h.bel ((Below.refl _ _).alloc (Nat.le_refl _) _)
theorem Sd.put1 {g k:Nat} {w1 wx wy:World} (h:Sd g k w1 wx) (e:wx.grownBy wy (some g)):Sd g k w1 wy:=fun a x h1 h2 h3=>e.cell (h a x h1 h2 h3) (by simpa using h1)
theorem Sd.set1 {g k:Nat} {w1 wx:World} {j:Nat} {v:Value} (h:Sd g k w1 wx):Sd g k w1 (wx.setCell ⟨g,j,none⟩ v):=h.put1 (grownSet wx g j v)
end Go.Proofs.YthmnmaemnihkeaaDoor
namespace Go.Proofs.YthmnmaemnihkeaaDoor
open Go.ChangeShapes Go.WideShapes Go.ChangeAt Go.RowKit
end Go.Proofs.YthmnmaemnihkeaaDoor
namespace Go.Proofs.YthmnmaemnihkeaaDoor
open Go.ChangeShapes Go.WideShapes Go.ChangeAt Go.RowKit
end Go.Proofs.YthmnmaemnihkeaaDoor
namespace Go.Proofs.YthmnmaemnihkeaaDoor
open Go.ChangeShapes Go.WideShapes Go.ChangeAt Go.RowKit
end Go.Proofs.YthmnmaemnihkeaaDoor
namespace Go.Proofs.YthmnmaemnihkeaaDoor
open Go.ChangeShapes Go.WideShapes Go.ChangeAt Go.RowKit
theorem RdP.part {w:World} {b off n cap:Nat} {ps:List (Value×Mg)} (h:RdP w (.slice (some ⟨b,off,none⟩) n cap) ps) (l m:Nat) (hl:l≤m) (hm:m≤n):RdP w (sliced (some ⟨b,off,none⟩) l m cap 11) ((ps.drop l).take (m-l)):=by
 obtain⟨e,hnc,hcm,hel⟩:=h.el
 have hlen:((ps.drop l).take (m-l)).length=m-l:=by rw[List.length_take,List.length_drop];omega
 refine⟨⟨msC_sz _,?_⟩,fun p hp=>h.key p (List.mem_of_mem_drop (List.mem_of_mem_take hp))⟩
 refine⟨if cap=l then some ⟨b,off,none⟩else some ⟨b,off+l*11,none⟩,cap-l,?_,by rw[msC_len,hlen];omega,⟨by omega,fun e=>by split at e<;>cases e⟩,?_⟩
 ·unfold sliced
  rw[msC_len,hlen]
  simp only[Option.map_some,addr_add]
 ·by_cases hc:cap=l
  ·left
   apply List.eq_nil_of_length_eq_zero
   rw[msC_len,hlen];omega
  ·refine .inr ⟨b,off+l*11,by rw[if_neg hc],fun j i hj hi=>?_⟩
   rw[msC_len,hlen]at hj
   obtain⟨b',off',u,q,he,hb, -,hcell⟩:=hel (l+j) (by omega)
   cases hb
   have e2:((ps.drop l).take (m-l))[j]?=some (u,q):=by rw[List.getElem?_take,if_pos hj,List.getElem?_drop,he]
   have e3:(msC ((ps.drop l).take (m-l))).getD j #[]=mgA u q:=by simp only[msC,List.getD,List.getElem?_map,e2];rfl
   rw[e3,←hcell i hi,show off+l*11+(j*11+i)=off+(l+j)*11+i by rw[Nat.add_mul];omega]
theorem SmP.part {ps:List (Value×Mg)} (h:SmP ps) (l m:Nat):SmP ((ps.drop l).take m):=fun p hp=>h p (List.mem_of_mem_drop (List.mem_of_mem_take hp))
end Go.Proofs.YthmnmaemnihkeaaDoor
namespace Go.Proofs.YthmnmaemnihkeaaDoor
open Go.ChangeShapes Go.WideShapes Go.ChangeAt Go.RowKit
end Go.Proofs.YthmnmaemnihkeaaDoor
set_option maxRecDepth 20000
set_option maxHeartbeats 2000000
namespace Go.Proofs.YthmnmaemnihkeaaDoor
open Go.ChangeShapes Go.WideShapes Go.ChangeAt Go.RowKit
theorem eqMsg_any (u v:Value) (m:Mg) (w:World) (hu:Reads w u m.h.ks) (hv:Reads w v m.h.ks) (hl:m.h.ks.length≤1048576):
  Calls Tryd.prog 28 #[MgV u m,MgV v m] w fun e w'=>e=.returned (.bool true)∧Below w.heap.size w w':=by
 obtain⟨w1,hw1⟩:∃w1,w1=(w.alloc (.cells (mgA u m) 66)).alloc (.cells (mgA v m) 66):=⟨_,rfl⟩
 have p0:StB w1 w.heap.size 66 (mgA u m):=by rw[hw1];exact(StB.new w _ _).alloc _
 have p1:StB w1 (w.heap.size+1) 66 (mgA v m):=by
  rw[hw1]
  have:=StB.new (w.alloc (.cells (mgA u m) 66)) 66 (mgA v m)
  rwa[World.size_alloc]at this
 have b1:Below w.heap.size w w1:=by rw[hw1];exact((Below.refl _ _).alloc (Nat.le_refl _) _).alloc (by simp) _
 have c1:=eqHolding_any u v m.h w1 (hu.below b1 (Nat.le_refl _)) (hv.below b1 (Nat.le_refl _)) (by omega)
 have HB:Hid (Below w.heap.size w w1):=b1
 clear hu hv hl b1
 unfold HV at c1
 unfold MgV
 have k0:w1.cell? ⟨w.heap.size,0,none⟩=some (.int .i64 m.dst):=p0.cell 0 rfl
 have k1:w1.cell? ⟨w.heap.size,1,none⟩=some (.int .i64 m.kd):=p0.cell 1 rfl
 have k2:w1.cell? ⟨w.heap.size,2,none⟩=some (.int .i64 m.tr):=p0.cell 2 rfl
 have k3:w1.cell? ⟨w.heap.size,3,none⟩=some (.int .i64 m.pl):=p0.cell 3 rfl
 have k4:w1.cell? ⟨w.heap.size,4,none⟩=some (.int .i64 m.tn):=p0.cell 4 rfl
 have k5:w1.cell? ⟨w.heap.size,5,none⟩=some (.int .i64 m.va):=p0.cell 5 rfl
 have k6:w1.cell? ⟨w.heap.size,6,none⟩=some (.int .i64 m.ep):=p0.cell 6 rfl
 have l0:w1.cell? ⟨w.heap.size+1,0,none⟩=some (.int .i64 m.dst):=p1.cell 0 rfl
 have l1:w1.cell? ⟨w.heap.size+1,1,none⟩=some (.int .i64 m.kd):=p1.cell 1 rfl
 have l2:w1.cell? ⟨w.heap.size+1,2,none⟩=some (.int .i64 m.tr):=p1.cell 2 rfl
 have l3:w1.cell? ⟨w.heap.size+1,3,none⟩=some (.int .i64 m.pl):=p1.cell 3 rfl
 have l4:w1.cell? ⟨w.heap.size+1,4,none⟩=some (.int .i64 m.tn):=p1.cell 4 rfl
 have l5:w1.cell? ⟨w.heap.size+1,5,none⟩=some (.int .i64 m.va):=p1.cell 5 rfl
 have l6:w1.cell? ⟨w.heap.size+1,6,none⟩=some (.int .i64 m.ep):=p1.cell 6 rfl
 go_enter Tryd.func28,Tryd.ntmps28
 go_upto_region 1 with fail
 rw[←hw1]
 clear hw1
 go_upto_region 15 with fail
 clear k0 k1 k2 k3 k4 k5 k6 l0 l1 l2 l3 l4 l5 l6
 go_wp2_with (first|(refine wpList_getO Tryd.isH rfl _ rfl w.heap.size 7 rfl (hdA u m.h) rfl (mg_hold p0) ?_)|(refine wpList_getO Tryd.isH rfl _ rfl (w.heap.size+1) 7 rfl (hdA v m.h) rfl (mg_hold p1) ?_))
 refine c1.mono ?_
 rintro e w2 ⟨rfl,b2⟩
 replace HB:Hid (Below w.heap.size w w2):=HB.out.trans (b2.mono HB.out.size)
 clear b2 c1 p0 p1
 go_wp2
 go_ret
 exact⟨rfl,HB.out⟩
end Go.Proofs.YthmnmaemnihkeaaDoor
set_option maxRecDepth 20000
set_option maxHeartbeats 4000000
namespace Go.Proofs.YthmnmaemnihkeaaDoor
open Go.ChangeShapes Go.WideShapes Go.ChangeAt Go.RowKit
def totK (ps:List (Value×Mg)):Nat:=(ps.map fun p=>p.2.h.ks.length).sum
theorem take_snocP (ps:List (Value×Mg)) (j:Nat) (p:Value×Mg) (e:ps[j]?=some p):ps.take (j+1)=ps.take j++[p]:=by
 obtain⟨hj,rfl⟩:=List.getElem?_eq_some_iff.1 e
 exact List.take_succ_eq_append_getElem hj
def nilM:Value×Mg:=(.slice none 0 0,Mg.zero)
theorem made_flat (n:Nat):(madeCells zeroMg (n*11)).toList=flatC (msC (List.replicate n nilM)):=by
 have hz:zeroMg.size=11:=rfl
 apply List.ext_getElem?
 intro i
 by_cases hi:i<n*11
 ·have e:i=i/11*11+i%11:=by omega
  have h2:=flatC_at (msC (List.replicate n nilM)) (msC_sz _) (i/11) (i%11) (by rw[msC_len,List.length_replicate];omega) (by omega)
  rw[←e]at h2
  have h3:(msC (List.replicate n nilM)).getD (i/11) #[]=zeroMg:=by
   have:i/11<n:=by omega
   simp[msC,List.getD,this]
   rfl
  rw[h2,h3]
  have hlt:i%11<zeroMg.size:=by rw[hz];omega
  have h4:(madeCells zeroMg (n*11)).toList[i]?=some zeroMg[i%11]!:=by simp[madeCells,hi,hz]
  rw[h4,getElem!_pos zeroMg (i%11) hlt,Array.getElem?_eq_getElem hlt]
 ·rw[List.getElem?_eq_none (by rw[Array.length_toList,size_madeCells];omega),List.getElem?_eq_none (by rw[flatC_len _ (msC_sz _),msC_len,List.length_replicate];omega)]
theorem OwnP.made {w w1:World} {n:Nat} {g:Nat} (h:w1.ownsRow w.heap.size 66 11 (.slice (some ⟨g,0,none⟩) n n) n (madeCells zeroMg (n*11)).toList):OwnP w1 w.heap.size (.slice (some ⟨g,0,none⟩) n n) (List.replicate n nilM):=by
 refine⟨⟨msC_sz _,?_⟩,fun p hp=>?_,?_⟩
 ·rw[←made_flat,msC_len,List.length_replicate]
  exact h
 ·rw[List.eq_of_mem_replicate hp]
  exact mine_nil _ _
 ·refine List.pairwise_replicate.2 (.inr ?_)
  intro x hx
  rw[show mineOf nilM.1 nilM.2.h.ks=[]from mineOf_nil _]at hx
  simp at hx
theorem bel_cell {w w':World} {a:Addr} {v:Value} (b:Below w.heap.size w w') (h:w.cell? a=some v):w'.cell? a=some v:=by
 rw[b.cell (p:=a) (World.block_lt_of_cell? w _ h)]
 exact h
theorem eqMsgS_any (v v2:Value) (ps qs:List (Value×Mg)) (w:World) (hr:RdP w v ps) (hr2:RdP w v2 qs) (he:msOf ps=msOf qs) (hs:SmP ps) (hl:ps.length≤1048576):
  Calls Tryd.prog 12 #[v,v2] w fun e w'=>e=.returned (.bool true)∧Below w.heap.size w w':=by
 have hlen:qs.length=ps.length:=by rw[←msOf_len,←msOf_len,he]
 obtain⟨ao,cap,rfl⟩:=hr.form
 obtain⟨ao2,cap2,rfl⟩:=hr2.form
 have HR:Hid (∀wx,Below w.heap.size w wx→RdP wx (.slice ao ps.length cap) ps):=fun wx b=>hr.below b
 have HR2:Hid (∀wx,Below w.heap.size w wx→RdP wx (.slice ao2 qs.length cap2) qs):=fun wx b=>hr2.below b
 obtain⟨-,hnc,hcm, -⟩:=hr.el
 obtain⟨-,hnc2,hcm2, -⟩:=hr2.el
 unfold maxLen at hcm hcm2
 rw[hlen]at HR2 hnc2⊢
 clear hr hr2
 obtain⟨n,hn⟩:∃n,n=ps.length:=⟨_,rfl⟩
 rw[←hn]at HR HR2 hnc hnc2 hl⊢
 have HN:Hid (n=ps.length):=hn
 have HSm:Hid (SmP ps∧msOf ps=msOf qs):=⟨hs,he⟩
 clear hn hs he hlen
 go_enter Tryd.func12,Tryd.ntmps12
 go_wp2
 go_loopw [5] (fun i wr=>∃j:Nat,j≤n∧i=.int .i64 j∧Hid (Below w.heap.size w wr)) (fun i _=>n-(intOf i).toNat)
 case atStart=>exact⟨0,Nat.zero_le _,rfl,Below.refl _ _⟩
 case round=>
  obtain⟨j,hj,rfl,HI⟩:=hrel
  by_cases hlt:(j:Int)<(n:Int)
  ·obtain⟨b,off,u,m,he,rfl,hrk,hc⟩:=(HR.out wr HI.out).el.2.2.2 j (by omega)
   obtain⟨b2,off2,u2,m2,he2,rfl,hrk2,hc2⟩:=(HR2.out wr HI.out).el.2.2.2 j (by omega)
   have hm:m=m2:=by
    have h1:=msOf_at he
    have h2:=msOf_at he2
    rw[HSm.out.2,h2]at h1
    exact(Option.some.inj h1).symm
   subst hm
   have C:Hid (∀wx,Below wr.heap.size wr wx→Calls Tryd.prog 28 #[MgV u m,MgV u2 m] wx fun e w'=>e=.returned (.bool true)∧Below wx.heap.size wx w'):=fun wx bb=>eqMsg_any u u2 m wx (hrk.below bb (Nat.le_refl _)) (hrk2.below bb (Nat.le_refl _)) (HSm.out.1.at he)
   have q0:∀w',Below wr.heap.size wr w'→w'.cell? ⟨b,off+j*11,none⟩=some (.int .i64 m.dst):=fun w' bb=>bel_cell bb (hc 0 (by decide))
   have q1:∀w',Below wr.heap.size wr w'→w'.cell? ⟨b,off+j*11+1,none⟩=some (.int .i64 m.kd):=fun w' bb=>bel_cell bb (hc 1 (by decide))
   have q2:∀w',Below wr.heap.size wr w'→w'.cell? ⟨b,off+j*11+2,none⟩=some (.int .i64 m.tr):=fun w' bb=>bel_cell bb (hc 2 (by decide))
   have q3:∀w',Below wr.heap.size wr w'→w'.cell? ⟨b,off+j*11+3,none⟩=some (.int .i64 m.pl):=fun w' bb=>bel_cell bb (hc 3 (by decide))
   have q4:∀w',Below wr.heap.size wr w'→w'.cell? ⟨b,off+j*11+4,none⟩=some (.int .i64 m.tn):=fun w' bb=>bel_cell bb (hc 4 (by decide))
   have q5:∀w',Below wr.heap.size wr w'→w'.cell? ⟨b,off+j*11+5,none⟩=some (.int .i64 m.va):=fun w' bb=>bel_cell bb (hc 5 (by decide))
   have q6:∀w',Below wr.heap.size wr w'→w'.cell? ⟨b,off+j*11+6,none⟩=some (.int .i64 m.ep):=fun w' bb=>bel_cell bb (hc 6 (by decide))
   have q7:∀w',Below wr.heap.size wr w'→w'.cell? ⟨b,off+j*11+7,none⟩=some (u):=fun w' bb=>bel_cell bb (hc 7 (by decide))
   have q8:∀w',Below wr.heap.size wr w'→w'.cell? ⟨b,off+j*11+8,none⟩=some (.int .i64 m.h.kd):=fun w' bb=>bel_cell bb (hc 8 (by decide))
   have q9:∀w',Below wr.heap.size wr w'→w'.cell? ⟨b,off+j*11+9,none⟩=some (.int .i64 m.h.ho):=fun w' bb=>bel_cell bb (hc 9 (by decide))
   have q10:∀w',Below wr.heap.size wr w'→w'.cell? ⟨b,off+j*11+10,none⟩=some (.int .i64 m.h.tu):=fun w' bb=>bel_cell bb (hc 10 (by decide))
   have r0:∀w',Below wr.heap.size wr w'→w'.cell? ⟨b2,off2+j*11,none⟩=some (.int .i64 m.dst):=fun w' bb=>bel_cell bb (hc2 0 (by decide))
   have r1:∀w',Below wr.heap.size wr w'→w'.cell? ⟨b2,off2+j*11+1,none⟩=some (.int .i64 m.kd):=fun w' bb=>bel_cell bb (hc2 1 (by decide))
   have r2:∀w',Below wr.heap.size wr w'→w'.cell? ⟨b2,off2+j*11+2,none⟩=some (.int .i64 m.tr):=fun w' bb=>bel_cell bb (hc2 2 (by decide))
   have r3:∀w',Below wr.heap.size wr w'→w'.cell? ⟨b2,off2+j*11+3,none⟩=some (.int .i64 m.pl):=fun w' bb=>bel_cell bb (hc2 3 (by decide))
   have r4:∀w',Below wr.heap.size wr w'→w'.cell? ⟨b2,off2+j*11+4,none⟩=some (.int .i64 m.tn):=fun w' bb=>bel_cell bb (hc2 4 (by decide))
   have r5:∀w',Below wr.heap.size wr w'→w'.cell? ⟨b2,off2+j*11+5,none⟩=some (.int .i64 m.va):=fun w' bb=>bel_cell bb (hc2 5 (by decide))
   have r6:∀w',Below wr.heap.size wr w'→w'.cell? ⟨b2,off2+j*11+6,none⟩=some (.int .i64 m.ep):=fun w' bb=>bel_cell bb (hc2 6 (by decide))
   have r7:∀w',Below wr.heap.size wr w'→w'.cell? ⟨b2,off2+j*11+7,none⟩=some (u2):=fun w' bb=>bel_cell bb (hc2 7 (by decide))
   have r8:∀w',Below wr.heap.size wr w'→w'.cell? ⟨b2,off2+j*11+8,none⟩=some (.int .i64 m.h.kd):=fun w' bb=>bel_cell bb (hc2 8 (by decide))
   have r9:∀w',Below wr.heap.size wr w'→w'.cell? ⟨b2,off2+j*11+9,none⟩=some (.int .i64 m.h.ho):=fun w' bb=>bel_cell bb (hc2 9 (by decide))
   have r10:∀w',Below wr.heap.size wr w'→w'.cell? ⟨b2,off2+j*11+10,none⟩=some (.int .i64 m.h.tu):=fun w' bb=>bel_cell bb (hc2 10 (by decide))
   have z0:(0:Int)≤(j:Int):=by omega
   clear hc hc2 hrk hrk2 he he2
   unfold MgV mgA at C
   go_upto_region 6 with fail
   go_region_held3 (fun w'=>Below wr.heap.size wr w') (repeat'(first|with_reducible assumption|with_reducible exact Below.refl _ _|with_reducible refine bel_alloc ?_|with_reducible refine bel_drew ?_|with_reducible refine bel_trans ?_ (by with_reducible assumption)))
    (first|(go_at_call 28;refine(C.out _ bels).mono ?_;rintro e w3 ⟨rfl,b3⟩;have B3:Hid (Below wr.heap.size wr w3):=(show Below wr.heap.size wr w3 from by repeat'(first|with_reducible assumption|with_reducible exact Below.refl _ _|with_reducible refine bel_alloc ?_|with_reducible refine bel_drew ?_|with_reducible refine bel_trans ?_ (by with_reducible assumption)))))
   all_goals
    have HB:Hid (Below w.heap.size w _):=HI.out.trans (B3.out.mono HI.out.size)
    go_wp2
    go_roundw
    case rel=>exact⟨j+1,by omega,by go_num,HB.out⟩
    case measure=>simp[intOf];omega
  ·go_wp2
   go_ret
   exact⟨rfl,HI.out⟩
end Go.Proofs.YthmnmaemnihkeaaDoor
