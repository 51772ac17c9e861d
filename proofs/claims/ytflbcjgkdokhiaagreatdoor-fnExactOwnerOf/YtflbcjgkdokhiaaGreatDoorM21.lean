/- The program's store: two lists held against each other (slices.Equal), a holding anew, StoreOk. -/
import Derived.Test.YtflbcjgkdokhiaaGreatDoorM18
import Derived.Test.YtflbcjgkdokhiaaGreatDoorM19
import Derived.Test.YtflbcjgkdokhiaaGreatDoorM20
import Derived.Test.YtflbcjgkdokhiaaGreatDoorM2
import Derived.Test.YtflbcjgkdokhiaaGreatDoorM16
import Derived.ArgAppend
import Derived.Test.YtflbcjgkdokhiaaGreatDoorM4
import Derived.Test.YtflbcjgkdokhiaaGreatDoorM9
set_option maxRecDepth 20000
set_option maxHeartbeats 1000000
namespace Go.Proofs.YtflbcjgkdokhiaaGreatDoor
open Go.ChangeShapes Go.WideShapes Go.ChangeAt Go.RowKit
theorem iequal_any (va vb:Value) (xs ys:List Int) (w:World) (ha:Reads w va xs) (hb:Reads w vb ys) (hbig:xs.length≤1099511627776):
  Calls Tryz.prog 123 #[va,vb] w fun e w'=>e=.returned (.bool (decide (xs=ys)))∧∃n,w'=w.drewN n:=by
 obtain⟨ao,ca,rfl,hla,⟨hma, -⟩,hca⟩:=ha
 obtain⟨bo,cb,rfl,hlb,⟨hmb, -⟩,hcb⟩:=hb
 by_cases hlen:xs.length=ys.length
 ·obtain⟨n,hn⟩:∃n,n=xs.length:=⟨_,rfl⟩
  rw[←hlen]at hlb hcb⊢
  rw[←hn]at hla hlb hca hcb hbig⊢
  have HN:Hid (n=xs.length∧n=ys.length):=⟨hn,hn.trans hlen⟩
  clear hn hlen hma hmb
  have hcell:∀j,j<n→∃b off b' off',ao=some ⟨b,off,none⟩∧bo=some ⟨b',off',none⟩∧w.cell? ⟨b,off+j,none⟩=some (.int .i64 (xs.getD j 0))∧w.cell? ⟨b',off'+j,none⟩=some (.int .i64 (ys.getD j 0)):=by
   intro j hj
   rcases hca with e|⟨b,off,e,h4⟩
   ·have:=HN.out.1;rw[e]at this;simp at this;omega
   ·rcases hcb with e'|⟨b',off',e',h4'⟩
    ·have:=HN.out.2;rw[e']at this;simp at this;omega
    ·exact⟨b,off,b',off',e,e',h4 j hj,h4' j hj⟩
  clear hca hcb
  go_enter Tryz.func123,Tryz.ntmps123
  go_wp2
  go_loopw [13] (fun i wr=>∃j q:Nat,j≤n∧i=.int .i64 j∧Hid (xs.take j=ys.take j)∧wr=w.drewN q) (fun i _=>n-(intOf i).toNat)
  case atStart=>exact⟨0,0,Nat.zero_le _,rfl,by simp[Hid],rfl⟩
  case round=>
   obtain⟨j,q,hj,rfl,ht,rfl⟩:=hrel
   by_cases hlt:(j:Int)<(n:Int)
   ·obtain⟨b,off,b',off',rfl,rfl,hc1,hc2⟩:=hcell j (by omega)
    clear hcell
    obtain⟨x,hx⟩:∃x,x=xs.getD j 0:=⟨_,rfl⟩
    obtain⟨y,hy⟩:∃y,y=ys.getD j 0:=⟨_,rfl⟩
    rw[←hx]at hc1
    rw[←hy]at hc2
    have HX:Hid (x=xs.getD j 0∧y=ys.getD j 0):=⟨hx,hy⟩
    clear hx hy
    by_cases hxy:(x !=y)=true
    ·go_wp2
     go_quiet (fail)
     go_wp2
     go_ret
     exact⟨ret_bool (by
      have h1:x≠y:=by simpa using hxy
      have h2:xs≠ys:=ne_of_getD (j:=j) (by rw[←HX.out.1,←HX.out.2];exact h1)
      simp[h2]),⟨_,World.drewN_drewN ..⟩⟩
    ·go_wp2
     go_quiet (fail)
     go_wp2
     go_roundw
     case rel=>
      have h1:x=y:=by simpa using hxy
      exact⟨j+1,_,by omega,by go_num,take_step ht (by have:=HN.out.1;omega) (by have:=HN.out.2;omega) (by rw[←HX.out.1,←HX.out.2];exact h1),rfl⟩
     case measure=>simp[intOf];omega
   ·go_wp2
    go_ret
    exact⟨ret_bool (by
     have h1:xs=ys:=by
      have h2:=ht.out
      rw[List.take_of_length_le (by have:=HN.out.1;omega),List.take_of_length_le (by have:=HN.out.2;omega)]at h2
      exact h2
     simp[h1]),⟨_,rfl⟩⟩
 ·have hne:((xs.length:Int) !=(ys.length:Int))=true:=by simp;omega
  have he:decide (xs=ys)=false:=by
   have:xs≠ys:=fun h=>hlen (by rw[h])
   simp[this]
  rw[he]
  clear he hlen hca hcb
  go_enter Tryz.func123,Tryz.ntmps123
  go_wp2
  go_ret
  exact⟨rfl,0,rfl⟩
theorem istoreok_any (u v q:Value) (xs ys:List Int) (h:Hd) (w:World) (hu:Reads w u xs) (hv:Reads w v ys) (hq:Reads w q h.ks) (gx:xs.length≤1099511627776) (gy:ys.length≤1099511627776) (gk:h.ks.length≤1099511627776):
  Calls Tryz.prog 84 #[SRV u v q h] w fun e w'=>e=.returned (.bool (Sr.ok ⟨xs,ys,h⟩))∧Below w.heap.size w w':=by
 have B1:Hid (Below w.heap.size w (w.alloc (.cells (srA u v q h) 133))):=(Below.refl _ _).alloc (Nat.le_refl _) _
 have P1:Hid (StB (w.alloc (.cells (srA u v q h) 133)) w.heap.size 133 (srA u v q h)):=StB.new _ _ _
 have c1:=diskOk_any u v xs ys _ (hu.below B1.out (Nat.le_refl _)) (hv.below B1.out (Nat.le_refl _)) gx gy
 have c2:Hid (∀wx,Below w.heap.size w wx→Calls Tryz.prog 98 #[HV q h] wx fun e w'=>e=.returned (.bool h.ok)∧Below wx.heap.size wx w'):=fun wx b=>iholdok_any q h wx (hq.below b (Nat.le_refl _)) gk
 have HE:Hid (Sr.ok ⟨xs,ys,h⟩=(bothOk xs ys&&h.ok)):=rfl
 obtain⟨r,hr⟩:∃r,r=Sr.ok ⟨xs,ys,h⟩:=⟨_,rfl⟩
 rw[←hr]at HE⊢
 obtain⟨b,hb⟩:∃b,b=bothOk xs ys:=⟨_,rfl⟩
 obtain⟨o,ho⟩:∃o,o=h.ok:=⟨_,rfl⟩
 rw[←hb,←ho]at HE
 rw[←hb]at c1
 rw[←ho]at c2
 obtain⟨uo,uc,rfl⟩:=reads_form hu
 obtain⟨vo,vc,rfl⟩:=reads_form hv
 obtain⟨qo,qc,rfl⟩:=reads_form hq
 clear hu hv hq gx gy gk hr hb ho
 unfold SRV srA at*
 unfold HV hdA at c2
 go_enter Tryz.func84,Tryz.ntmps84
 go_wp2_with fail
 refine c1.mono ?_
 rintro e w2 ⟨rfl,b2⟩
 have B2:Hid (Below w.heap.size w w2):=B1.out.trans (b2.mono B1.out.size)
 have P2:=P1.out.below b2
 have k2:=P2.cell 2 rfl
 have k3:=P2.cell 3 rfl
 have k4:=P2.cell 4 rfl
 have k5:=P2.cell 5 rfl
 clear b2 c1 B1 P1 P2
 cases b with
 |false=>
  go_wp2
  go_ret
  exact⟨ret_bool (by rw[HE.out];rfl),B2.out⟩
 |true=>
  go_wp2_with fail
  refine(c2.out _ B2.out).mono ?_
  rintro e w3 ⟨rfl,b3⟩
  have B3:Hid (Below w.heap.size w w3):=B2.out.trans (b3.mono B2.out.size)
  clear b3 k2 k3 k4 k5 c2
  go_wp2
  go_ret
  exact⟨ret_bool (by rw[HE.out];simp),B3.out⟩
end Go.Proofs.YtflbcjgkdokhiaaGreatDoor
set_option maxRecDepth 20000
set_option maxHeartbeats 2000000
namespace Go.Proofs.YtflbcjgkdokhiaaGreatDoor
open Go.ChangeShapes Go.WideShapes Go.ChangeAt Go.RowKit
theorem iholdsAlike_any (q k:Value) (h j:Hd) (w:World) (hq:Reads w q h.ks) (hk:Reads w k j.ks) (gk:h.ks.length≤1099511627776):
  Calls Tryz.prog 108 #[HV q h,HV k j] w fun e w'=>e=.returned (.bool (h.eqB j))∧Below w.heap.size w w':=by
 obtain⟨w1,hw1⟩:∃w1,w1=(w.alloc (.cells (hdA q h) 48)).alloc (.cells (hdA k j) 48):=⟨_,rfl⟩
 have b1:Below w.heap.size w w1:=by rw[hw1];exact((Below.refl _ _).alloc (Nat.le_refl _) _).alloc (by simp) _
 have S1:Hid (StB w1 w.heap.size 48 (hdA q h)∧StB w1 (w.heap.size+1) 48 (hdA k j)∧Below w.heap.size w w1):=by
  have a2:=StB.new (w.alloc (.cells (hdA q h) 48)) 48 (hdA k j)
  simp only[World.size_alloc]at a2
  exact⟨by rw[hw1];exact(StB.new w _ _).alloc _,by rw[hw1];exact a2,b1⟩
 have C3:Hid (∀wx,Below w.heap.size w wx→Calls Tryz.prog 123 #[q,k] wx fun e w'=>e=.returned (.bool (decide (h.ks=j.ks)))∧∃n,w'=wx.drewN n):=fun wx e=>iequal_any q k h.ks j.ks wx (hq.below e (Nat.le_refl _)) (hk.below e (Nat.le_refl _)) gk
 have HE:Hid (h.eqB j=(decide (h.ks=j.ks)&&decide (h.kd=j.kd)&&decide (h.ho=j.ho)&&decide (h.tu=j.tu))):=rfl
 obtain⟨r,hr⟩:∃r,r=h.eqB j:=⟨_,rfl⟩
 rw[←hr]at HE⊢
 obtain⟨e3,he3⟩:∃e3,e3=decide (h.ks=j.ks):=⟨_,rfl⟩
 rw[←he3]at HE C3
 obtain⟨qo,qc,rfl⟩:=reads_form hq
 obtain⟨ko,kc,rfl⟩:=reads_form hk
 clear hq hk gk hr he3 b1
 unfold HV hdA at*
 go_enter Tryz.func108,Tryz.ntmps108
 go_upto_region 1 with fail
 rw[←hw1]
 clear hw1
 have k2:w1.cell? ⟨w.heap.size,0,none⟩=some (.slice qo h.ks.length qc):=S1.out.1.cell 0 rfl
 have l2:w1.cell? ⟨w.heap.size+1,0,none⟩=some (.slice ko j.ks.length kc):=S1.out.2.1.cell 0 rfl
 go_wp2_with fail
 refine(C3.out _ S1.out.2.2).mono ?_
 rintro e w4 ⟨rfl,hw4⟩
 have S4:Hid (StB w4 w.heap.size 48 #[.slice qo h.ks.length qc,.int .i64 h.kd,.int .i64 h.ho,.int .i64 h.tu]∧StB w4 (w.heap.size+1) 48 #[.slice ko j.ks.length kc,.int .i64 j.kd,.int .i64 j.ho,.int .i64 j.tu]∧Below w.heap.size w w4):=by
  obtain⟨n,rfl⟩:=hw4
  exact⟨S1.out.1,S1.out.2.1,below_drewN S1.out.2.2 n⟩
 have B4:Hid (Below w.heap.size w w4):=S4.out.2.2
 clear S1 hw4 k2 l2 C3
 have k3:w4.cell? ⟨w.heap.size,1,none⟩=some (.int .i64 h.kd):=S4.out.1.cell 1 rfl
 have k4:w4.cell? ⟨w.heap.size,2,none⟩=some (.int .i64 h.ho):=S4.out.1.cell 2 rfl
 have k5:w4.cell? ⟨w.heap.size,3,none⟩=some (.int .i64 h.tu):=S4.out.1.cell 3 rfl
 have l3:w4.cell? ⟨w.heap.size+1,1,none⟩=some (.int .i64 j.kd):=S4.out.2.1.cell 1 rfl
 have l4:w4.cell? ⟨w.heap.size+1,2,none⟩=some (.int .i64 j.ho):=S4.out.2.1.cell 2 rfl
 have l5:w4.cell? ⟨w.heap.size+1,3,none⟩=some (.int .i64 j.tu):=S4.out.2.1.cell 3 rfl
 clear S4
 cases e3 with
 |false=>
  have HR:Hid (r=false):=by rw[Hid,HE.out];rfl
  clear HE
  go_wp2
  go_ret
  exact⟨ret_bool (by rw[HR.out]),B4.out⟩
 |true=>
  replace HE:Hid (r=(decide (h.kd=j.kd)&&decide (h.ho=j.ho)&&decide (h.tu=j.tu))):=by rw[Hid,HE.out];simp
  obtain⟨n3,hn3⟩:∃n3,n3=h.kd:=⟨_,rfl⟩
  obtain⟨n4,hn4⟩:∃n4,n4=h.ho:=⟨_,rfl⟩
  obtain⟨n5,hn5⟩:∃n5,n5=h.tu:=⟨_,rfl⟩
  obtain⟨m3,hm3⟩:∃m3,m3=j.kd:=⟨_,rfl⟩
  obtain⟨m4,hm4⟩:∃m4,m4=j.ho:=⟨_,rfl⟩
  obtain⟨m5,hm5⟩:∃m5,m5=j.tu:=⟨_,rfl⟩
  rw[←hn3,←hn4,←hn5,←hm3,←hm4,←hm5]at HE
  rw[←hn3]at k3
  rw[←hn4]at k4
  rw[←hn5]at k5
  rw[←hm3]at l3
  rw[←hm4]at l4
  rw[←hm5]at l5
  clear hn3 hn4 hn5 hm3 hm4 hm5
  by_cases h3:n3=m3
  ·by_cases h4:n4=m4
   ·have HR:Hid (r=decide (n5=m5)):=by rw[Hid,HE.out];simp[h3,h4]
    clear HE
    go_wp2
    go_ret
    exact⟨ret_bool (by rw[HR.out];by_cases e:n5=m5<;>simp[e]),B4.out⟩
   ·have HR:Hid (r=false):=by rw[Hid,HE.out];simp[h4]
    clear HE
    go_wp2
    go_ret
    exact⟨ret_bool (by rw[HR.out]),B4.out⟩
  ·have HR:Hid (r=false):=by rw[Hid,HE.out];simp[h3]
   clear HE
   go_wp2
   go_ret
   exact⟨ret_bool (by rw[HR.out]),B4.out⟩
end Go.Proofs.YtflbcjgkdokhiaaGreatDoor
namespace Go.Proofs.YtflbcjgkdokhiaaGreatDoor
open Go.ChangeShapes Go.WideShapes Go.ChangeAt Go.RowKit
end Go.Proofs.YtflbcjgkdokhiaaGreatDoor
set_option maxRecDepth 20000
set_option maxHeartbeats 400000
namespace Go.Proofs.YtflbcjgkdokhiaaGreatDoor
open Go.ChangeShapes Go.WideShapes Go.ChangeAt Go.RowKit
theorem iidok_any (x:Int) (w:World):
  Calls Tryz.prog 83 #[.int .i64 x] w fun e w'=>e=.returned (.bool (inI x 0 1))∧w'=w:=by
 by_cases h0:0≤x
 ·by_cases h1:x≤1
  ·rw[show inI x 0 1=true by simp[inI,h0,h1]]
   go_enter Tryz.func83,Tryz.ntmps83
   go_wp2
   go_ret
   exact⟨ret_bool (by simp<;>omega),rfl⟩
  ·rw[show inI x 0 1=false by simp[inI];omega]
   go_enter Tryz.func83,Tryz.ntmps83
   go_wp2
   go_ret
   exact⟨ret_bool (by simp<;>omega),rfl⟩
 ·rw[show inI x 0 1=false by simp[inI];omega]
  go_enter Tryz.func83,Tryz.ntmps83
  go_wp2
  go_ret
  exact⟨ret_bool (by simp<;>omega),rfl⟩
end Go.Proofs.YtflbcjgkdokhiaaGreatDoor
set_option maxRecDepth 20000
set_option maxHeartbeats 4000000
namespace Go.Proofs.YtflbcjgkdokhiaaGreatDoor
open Go.ChangeShapes Go.WideShapes Go.ChangeAt Go.RowKit
theorem iindexM_any (x:Int) (w:World):
  Calls Tryz.prog 105 #[.int .i64 x] w fun e w'=>e=.returned (.bool (itemOk x))∧w'=w:=by
 by_cases h0:x≥0
 ·by_cases h1:x<8
  ·rw[show itemOk x=true by simp[itemOk];omega]
   go_enter Tryz.func105,Tryz.ntmps105
   go_wp2
   go_ret
   exact⟨ret_bool (by simp<;>omega),rfl⟩
  ·rw[show itemOk x=false by simp[itemOk];omega]
   go_enter Tryz.func105,Tryz.ntmps105
   go_wp2
   go_ret
   exact⟨ret_bool (by simp<;>omega),rfl⟩
 ·rw[show itemOk x=false by simp[itemOk];omega]
  go_enter Tryz.func105,Tryz.ntmps105
  go_wp2
  go_ret
  exact⟨ret_bool (by simp<;>omega),rfl⟩
theorem Hd.eqB_zero (h:Hd):h.eqB Hd.zero=h.none:=by
 unfold Hd.eqB Hd.none Hd.zero
 cases hk:h.ks<;>simp
theorem imsg_any (v:Value) (m:Mg) (w:World) (hr:Reads w v m.h.ks) (hl:m.h.ks.length≤1048576):
  Calls Tryz.prog 89 #[MgV v m] w fun e w'=>e=.returned (.bool m.ok)∧Below w.heap.size w w':=by
 have HE:Hid (m.ok=(inI m.dst 0 1&&inI m.kd 1 8&&epI m.tr&&itemOk m.pl&&inI m.tn 0 1000000000&&valOk m.va&&epI m.ep&&(m.h.ok||m.h.none))):=rfl
 obtain⟨w1,hw1⟩:∃w1,w1=w.alloc (.cells (mgA v m) 85):=⟨_,rfl⟩
 have b1:Below w.heap.size w w1:=by rw[hw1];exact(Below.refl _ _).alloc (Nat.le_refl _) _
 have S1:Hid (StB w1 w.heap.size 85 (mgA v m)):=by rw[hw1];exact StB.new _ _ _
 have HB:Hid (Below w.heap.size w w1):=b1
 have HCH:Hid (∀wx,Below w.heap.size w wx→Calls Tryz.prog 98 #[.agg (hdA v m.h)] wx fun e w'=>e=.returned (.bool m.h.ok)∧Below wx.heap.size wx w'):=fun wx b=>iholdok_any v m.h wx (hr.below b (Nat.le_refl _)) (by omega)
 have HCA:Hid (∀wx,Below w.heap.size w wx→Calls Tryz.prog 108 #[.agg (hdA v m.h),.agg #[.slice none 0 0,.int .i64 0,.int .i64 0,.int .i64 0]] wx fun e w'=>e=.returned (.bool m.h.none)∧Below wx.heap.size wx w'):=fun wx b=>by
  have:=iholdsAlike_any v (.slice none 0 0) m.h Hd.zero wx (hr.below b (Nat.le_refl _)) (Own.nil wx 0).reads (by omega)
  rw[Hd.eqB_zero]at this
  exact this
 obtain⟨bh,hbh⟩:∃bh,bh=m.h.ok:=⟨_,rfl⟩
 obtain⟨bn,hbn⟩:∃bn,bn=m.h.none:=⟨_,rfl⟩
 rw[←hbh,←hbn]at HE
 simp only[←hbh]at HCH
 simp only[←hbn]at HCA
 obtain⟨x,hx⟩:∃x,x=m.ok:=⟨_,rfl⟩
 rw[←hx]at HE⊢
 clear hx hbh hbn hl hr b1
 have k0:w1.cell? ⟨w.heap.size,0,none⟩=some (.int .i64 m.dst):=S1.out.cell 0 rfl
 have k1:w1.cell? ⟨w.heap.size,1,none⟩=some (.int .i64 m.kd):=S1.out.cell 1 rfl
 have k2:w1.cell? ⟨w.heap.size,2,none⟩=some (.int .i64 m.tr):=S1.out.cell 2 rfl
 have k3:w1.cell? ⟨w.heap.size,3,none⟩=some (.int .i64 m.pl):=S1.out.cell 3 rfl
 have k4:w1.cell? ⟨w.heap.size,4,none⟩=some (.int .i64 m.tn):=S1.out.cell 4 rfl
 have k5:w1.cell? ⟨w.heap.size,5,none⟩=some (.int .i64 m.va):=S1.out.cell 5 rfl
 have k6:w1.cell? ⟨w.heap.size,6,none⟩=some (.int .i64 m.ep):=S1.out.cell 6 rfl
 have c0:=fun wx=>iidok_any m.dst wx
 obtain⟨v0,hv0⟩:∃v0,v0=inI m.dst 0 1:=⟨_,rfl⟩
 rw[←hv0]at HE
 simp only[←hv0]at c0
 clear hv0
 have c2:=fun wx=>iepoch_any m.tr wx
 obtain⟨v2,hv2⟩:∃v2,v2=epI m.tr:=⟨_,rfl⟩
 rw[←hv2]at HE
 simp only[←hv2]at c2
 clear hv2
 have c3:=fun wx=>iindexM_any m.pl wx
 obtain⟨v3,hv3⟩:∃v3,v3=itemOk m.pl:=⟨_,rfl⟩
 rw[←hv3]at HE
 simp only[←hv3]at c3
 clear hv3
 have c4:=fun wx=>iturnok_any m.tn wx
 obtain⟨v4,hv4⟩:∃v4,v4=inI m.tn 0 1000000000:=⟨_,rfl⟩
 rw[←hv4]at HE
 simp only[←hv4]at c4
 clear hv4
 have c5:=fun wx=>val_any m.va wx
 obtain⟨v5,hv5⟩:∃v5,v5=valOk m.va:=⟨_,rfl⟩
 rw[←hv5]at HE
 simp only[←hv5]at c5
 clear hv5
 have c6:=fun wx=>iepoch_any m.ep wx
 obtain⟨v6,hv6⟩:∃v6,v6=epI m.ep:=⟨_,rfl⟩
 rw[←hv6]at HE
 simp only[←hv6]at c6
 clear hv6
 unfold MgV
 go_enter Tryz.func89,Tryz.ntmps89
 go_upto_region 1 with fail
 rw[←hw1]
 clear hw1
 go_wp2_with fail
 refine(c0 _).mono ?_
 rintro e w' ⟨rfl,hw⟩;subst w'
 clear c0
 cases v0 with
 |false=>
   have HX:Hid (x=false):=by rw[Hid,HE.out];simp
   clear HE HCH HCA
   go_wp2
   go_ret
   exact⟨ret_bool (by rw[HX.out]),HB.out⟩
 |true=>
  by_cases q0:m.kd≥1
  case neg=>
    have HX:Hid (x=false):=by rw[Hid,HE.out];rw[show inI m.kd 1 8=false by unfold inI;simp;omega];simp
    clear HE HCH HCA
    go_wp2
    go_ret
    exact⟨ret_bool (by rw[HX.out]),HB.out⟩
  case pos=>
   by_cases q1:m.kd≤8
   case neg=>
     have HX:Hid (x=false):=by rw[Hid,HE.out];rw[show inI m.kd 1 8=false by unfold inI;simp;omega];simp
     clear HE HCH HCA
     go_wp2
     go_ret
     exact⟨ret_bool (by rw[HX.out]),HB.out⟩
   case pos=>
    replace HE:Hid (x=(v2&&v3&&v4&&v5&&v6&&(bh||bn))):=by rw[Hid,HE.out];rw[show inI m.kd 1 8=true by unfold inI;simp;omega];simp
    go_wp2_with fail
    refine(c2 _).mono ?_
    rintro e w' ⟨rfl,hw⟩;subst w'
    clear c2
    cases v2 with
    |false=>
      have HX:Hid (x=false):=by rw[Hid,HE.out];simp
      clear HE HCH HCA
      go_wp2
      go_ret
      exact⟨ret_bool (by rw[HX.out]),HB.out⟩
    |true=>
     go_wp2_with fail
     refine(c3 _).mono ?_
     rintro e w' ⟨rfl,hw⟩;subst w'
     clear c3
     cases v3 with
     |false=>
       have HX:Hid (x=false):=by rw[Hid,HE.out];simp
       clear HE HCH HCA
       go_wp2
       go_ret
       exact⟨ret_bool (by rw[HX.out]),HB.out⟩
     |true=>
      go_wp2_with fail
      refine(c4 _).mono ?_
      rintro e w' ⟨rfl,hw⟩;subst w'
      clear c4
      cases v4 with
      |false=>
        have HX:Hid (x=false):=by rw[Hid,HE.out];simp
        clear HE HCH HCA
        go_wp2
        go_ret
        exact⟨ret_bool (by rw[HX.out]),HB.out⟩
      |true=>
       go_wp2_with fail
       refine(c5 _).mono ?_
       rintro e w' ⟨rfl,hw⟩;subst w'
       clear c5
       cases v5 with
       |false=>
         have HX:Hid (x=false):=by rw[Hid,HE.out];simp
         clear HE HCH HCA
         go_wp2
         go_ret
         exact⟨ret_bool (by rw[HX.out]),HB.out⟩
       |true=>
        go_wp2_with fail
        refine(c6 _).mono ?_
        rintro e w' ⟨rfl,hw⟩;subst w'
        clear c6
        cases v6 with
        |false=>
          have HX:Hid (x=false):=by rw[Hid,HE.out];simp
          clear HE HCH HCA
          go_wp2
          go_ret
          exact⟨ret_bool (by rw[HX.out]),HB.out⟩
        |true=>
         replace HE:Hid (x=(bh||bn)):=by rw[Hid,HE.out];simp
         clear k0 k1 k2 k3 k4 k5 k6
         go_wp2_with (refine wpList_getO Tryz.isH rfl _ rfl w.heap.size 7 rfl (hdA v m.h) rfl (mg_hold S1.out) ?_)
         refine(HCH.out w1 HB.out).mono ?_
         rintro e w2 ⟨rfl,b2⟩
         replace S1:Hid (StB w2 w.heap.size 85 (mgA v m)):=S1.out.below b2
         replace HB:Hid (Below w.heap.size w w2):=HB.out.trans (b2.mono HB.out.size)
         clear b2 HCH
         cases bh with
         |true=>
          clear HCA
          go_wp2
          go_ret
          exact⟨ret_bool (by rw[HE.out];rfl),HB.out⟩
         |false=>
          go_wp2_with (refine wpList_getO Tryz.isH rfl _ rfl w.heap.size 7 rfl (hdA v m.h) rfl (mg_hold S1.out) ?_)
          refine(HCA.out w2 HB.out).mono ?_
          rintro e w3 ⟨rfl,b3⟩
          replace HB:Hid (Below w.heap.size w w3):=HB.out.trans (b3.mono HB.out.size)
          clear b3 HCA
          go_wp2
          go_ret
          exact⟨ret_bool (by rw[HE.out];rfl),HB.out⟩
end Go.Proofs.YtflbcjgkdokhiaaGreatDoor
