/- Regions that draw their order, with calls that make memory, new variables and stores into them, whatever the order: what is needed at each step is found by the world's own shape. -/
import Derived.Test.YtflbcjgkdokhiaaGreatDoorM6
import Derived.Deep.RegionHeld3
import Derived.Test.YtflbcjgkdokhiaaGreatDoorM12
import Derived.Test.YtflbcjgkdokhiaaGreatDoorM5
import Derived.Test.YtflbcjgkdokhiaaGreatDoorM2
import Derived.Deep.DeepCutAuto
namespace Go.Proofs.YtflbcjgkdokhiaaGreatDoor
open Go.ChangeShapes Go.WideShapes Go.ChangeAt Go.RowKit
theorem bel_alloc {w wx:World} {o:Obj} (h:Below w.heap.size w wx):Below w.heap.size w (wx.alloc o):=h.alloc h.size _
theorem bel_drew {w wx:World} (h:Below w.heap.size w wx):Below w.heap.size w wx.drew:=h.drew
theorem bel_trans {w wx wy:World} (h:Below w.heap.size w wx) (b:Below wx.heap.size wx wy):Below w.heap.size w wy:=h.trans (b.mono h.size)
theorem bels {P:Prop} (h:P:=by repeat'(first|with_reducible assumption|with_reducible exact Below.refl _ _|with_reducible refine bel_alloc ?_|with_reducible refine bel_drew ?_|with_reducible refine bel_trans ?_ (by with_reducible assumption))):P:=h
theorem later_cell {w wx:World} {a:Addr} {v:Value} (h:w.cell? a=some v) (b:Below w.heap.size w wx):wx.cell? a=some v:=by
 rw[b.cell (World.block_lt_of_cell? w _ h)];exact h
theorem StB.al {w:World} {g:Nat} {t:TypeId} {cs:Array Value} {o:Obj} (h:StB w g t cs):StB (w.alloc o) g t cs:=h.alloc o
theorem StB.bel {w w':World} {g:Nat} {t:TypeId} {cs:Array Value} (h:StB w g t cs) (b:Below w.heap.size w w'):StB w' g t cs:=h.below b
theorem Own.ne {w:World} {base g:Nat} {v:Value} {xs:List Int} {t:TypeId} {cs:Array Value} (h:Own w base v xs) (h':StB w g t cs) (hne:t≠2):v.ownBlock≠some g:=by
 intro e
 rcases h.2 with⟨rfl, -⟩|⟨k,cap,cur,rfl, -,hg, -⟩
 ·cases e
 ·simp only[Value.ownBlock,Option.some.injEq]at e
  subst e
  unfold StB at h'
  rw[hg]at h'
  simp at h'
  exact hne h'.2.symm
theorem Own.putBy {w w':World} {base g:Nat} {v:Value} {xs:List Int} {t:TypeId} {cs:Array Value} (h:Own w base v xs) (h':StB w g t cs) (hne:t≠2) (b:w.grownBy w' (some g)):Own w' base v xs:=
 h.kept b (.inr (h.ne h' hne))
end Go.Proofs.YtflbcjgkdokhiaaGreatDoor
namespace Go.Proofs.YtflbcjgkdokhiaaGreatDoor
open Go.ChangeShapes Go.WideShapes Go.ChangeAt Go.RowKit
def Mine (w:World) (base:Nat) (v:Value) (xs:List Int):Prop:=Own w base v xs∨(xs=[]∧∃ao cap,v=.slice ao 0 cap∧cap≤maxLen∧(ao=none→cap=0))
theorem Mine.reads {w:World} {base:Nat} {v:Value} {xs:List Int} (h:Mine w base v xs):Reads w v xs:=by
 rcases h with h|⟨rfl,ao,cap,rfl,h1,h2⟩
 ·exact h.reads
 ·exact⟨ao,cap,rfl,Nat.zero_le _,⟨h1,h2⟩,.inl rfl⟩
theorem Reads.mine {w:World} {base:Nat} {v:Value} (h:Reads w v []):Mine w base v []:=by
 obtain⟨ao,cap,rfl, -,⟨h1,h2⟩, -⟩:=h
 exact .inr ⟨rfl,ao,cap,rfl,h1,h2⟩
theorem Mine.mono {w:World} {base base':Nat} {v:Value} {xs:List Int} (h:Mine w base v xs) (hb:base'≤base):Mine w base' v xs:=h.imp (fun h=>h.mono hb) id
theorem Mine.below {w w':World} {base:Nat} {v:Value} {xs:List Int} (h:Mine w base v xs) (b:Below w.heap.size w w'):Mine w' base v xs:=h.imp (fun h=>h.below b) id
theorem Mine.keptLt {w w':World} {base g:Nat} {v:Value} {xs:List Int} (h:Mine w base v xs) (hg:w.grownBy w' (some g)) (hb:g<base):Mine w' base v xs:=h.imp (fun h=>h.keptLt hg hb) id
theorem Mine.setLt {w:World} {base g:Nat} {v:Value} {xs:List Int} (h:Mine w base v xs) (hb:g<base) (j:Nat) (x:Value):Mine (w.setCell ⟨g,j,none⟩ x) base v xs:=h.imp (fun h=>h.setLt hb j x) id
theorem Mine.putBy {w w':World} {base g:Nat} {v:Value} {xs:List Int} {t:TypeId} {cs:Array Value} (h:Mine w base v xs) (h':StB w g t cs) (hne:t≠2) (b:w.grownBy w' (some g)):Mine w' base v xs:=h.imp (fun h=>h.putBy h' hne b) id
theorem Mine.set {w:World} {base g j:Nat} {v:Value} {xs:List Int} {t:TypeId} {cs:Array Value} (h:Mine w base v xs) (h':StB w g t cs) (hne:t≠2) (x:Value):Mine (w.setCell ⟨g,j,none⟩ x) base v xs:=h.putBy h' hne (grownSet w g j x)
theorem Mine.drew {w w':World} {base n:Nat} {v:Value} {xs:List Int} (h:Mine w base v xs) (e:w'=w.drewN n):Mine w' base v xs:=h.imp (fun h=>h.drew_eq e) id
theorem Mine.own {w:World} {base:Nat} {v:Value} {xs:List Int} (h:Mine w base v xs) (hx:xs≠[]):Own w base v xs:=h.resolve_right (fun h=>hx h.1)
theorem Reads.later {w w':World} {v:Value} (h:Reads w v []):Reads w' v []:=by
 obtain⟨ao,cap,rfl,h0,h1, -⟩:=h
 exact⟨ao,cap,rfl,h0,h1,.inl rfl⟩
def mineOf (v:Value) (xs:List Int):List Nat:=if xs.length=0 then[]else v.ownBlock.toList
theorem Mine.frame {w w':World} {base:Nat} {v:Value} {xs:List Int} (h:Mine w base v xs) (e:∀b∈mineOf v xs,w'.heap[b]?=w.heap[b]?):Mine w' base v xs:=by
 rcases h with h|h
 ·by_cases hx:xs.length=0
  ·have e0:xs=[]:=List.eq_nil_of_length_eq_zero hx
   subst e0
   exact Reads.mine (h.reads.later)
  ·unfold mineOf at e
   rw[if_neg hx]at e
   exact .inl (Own.frame h e)
 ·exact .inr h
end Go.Proofs.YtflbcjgkdokhiaaGreatDoor
namespace Go.Proofs.YtflbcjgkdokhiaaGreatDoor
open Go.ChangeShapes Go.WideShapes Go.ChangeAt Go.RowKit
end Go.Proofs.YtflbcjgkdokhiaaGreatDoor
namespace Go.Proofs.YtflbcjgkdokhiaaGreatDoor
open Go.ChangeShapes Go.WideShapes Go.ChangeAt Go.RowKit
end Go.Proofs.YtflbcjgkdokhiaaGreatDoor
set_option maxRecDepth 20000
set_option maxHeartbeats 2000000
namespace Go.Proofs.YtflbcjgkdokhiaaGreatDoor
open Go.ChangeShapes Go.WideShapes Go.ChangeAt Go.RowKit
theorem Tryz.isLH:IsS 63 4:=⟨⟨_,Tryz.underlying63⟩,by kernel_rfl⟩
theorem hdA_one {v:Value} (h:Hd) (hv:v.oneCell'=true):(hdA v h).all (·.oneCell')=true:=by
 unfold hdA
 simp[hv,show∀k n,(Value.int k n).oneCell'=true from fun _ _=>rfl]
theorem szHolding_any (v:Value) (h:Hd) (k:Int) (w:World) (hr:Reads w v h.ks) (h0:0≤k) (h1:k≤1048576):
  Calls Tryz.prog 38 #[HV v h,.int .i64 k] w fun e w'=>e=.returned (.int .i64 (szI k h.ks.length))∧Below w.heap.size w w':=by
 have B1:Below w.heap.size w (w.alloc (.cells (hdA v h) 63)):=(Below.refl _ _).alloc (Nat.le_refl _) _
 have c1:=sz_any v h.ks k _ (hr.below B1 (Nat.le_refl _)) h0 h1
 have hs:szI k h.ks.length= -1∨0≤szI k h.ks.length:=by unfold szI;split<;>omega
 obtain⟨x,hx⟩:∃x,x=szI k h.ks.length:=⟨_,rfl⟩
 rw[←hx]at c1 hs⊢
 obtain⟨ao,cap,rfl⟩:=reads_form hr
 clear hx hr
 unfold HV hdA at*
 rcases hs with hs|hs
 ·subst hs
  go_enter Tryz.func38,Tryz.ntmps38
  go_wp2_with fail
  refine c1.mono ?_
  rintro e w' ⟨rfl,hw⟩;subst w'
  go_wp2
  go_ret
  exact⟨rfl,B1⟩
 ·go_enter Tryz.func38,Tryz.ntmps38
  go_wp2_with fail
  refine c1.mono ?_
  rintro e w' ⟨rfl,hw⟩;subst w'
  go_wp2
  go_ret
  exact⟨rfl,B1⟩
theorem toHolding_any (v:Value) (h:Hd) (w:World) (hr:Reads w v h.ks) (hl:h.ks.length≤1099511627776):
  Calls Tryz.prog 53 #[HV v h] w fun e w'=>∃u,e=.returned (HV u h)∧Own w' w.heap.size u h.ks∧Below w.heap.size w w':=by
 obtain⟨w1,hw1⟩:∃w1,w1=((w.alloc (.cells (hdA v h) 63)).alloc (.cells #[.slice none 0 0,.int .i64 0,.int .i64 0,.int .i64 0] 48)).alloc (.cells #[.slice none 0 0,.int .i64 0,.int .i64 0,.int .i64 0] 48):=⟨_,rfl⟩
 have hsz:w1.heap.size=w.heap.size+3:=by rw[hw1];simp
 have p0:StB w1 w.heap.size 63 (hdA v h):=by rw[hw1];exact((StB.new w _ _).alloc _).alloc _
 have q0:StB w1 (w.heap.size+1) 48 #[.slice none 0 0,.int .i64 0,.int .i64 0,.int .i64 0]:=by
  rw[hw1]
  have:=(StB.new (w.alloc (.cells (hdA v h) 63)) 48 #[.slice none 0 0,.int .i64 0,.int .i64 0,.int .i64 0]).alloc (.cells #[.slice none 0 0,.int .i64 0,.int .i64 0,.int .i64 0] 48)
  rwa[World.size_alloc]at this
 have r0:StB w1 (w.heap.size+1+1) 48 #[.slice none 0 0,.int .i64 0,.int .i64 0,.int .i64 0]:=by
  rw[hw1]
  have:=StB.new ((w.alloc (.cells (hdA v h) 63)).alloc (.cells #[.slice none 0 0,.int .i64 0,.int .i64 0,.int .i64 0] 48)) 48 #[.slice none 0 0,.int .i64 0,.int .i64 0,.int .i64 0]
  rwa[World.size_alloc,World.size_alloc]at this
 have b1:Below w.heap.size w w1:=by rw[hw1];exact(((Below.refl _ _).alloc (Nat.le_refl _) _).alloc (by simp) _).alloc (by simp;omega) _
 have c1:=to_any v h.ks w1 (hr.below b1 (Nat.le_refl _)) hl
 obtain⟨ao,cap,rfl⟩:=reads_form hr
 have HW:Hid (w1=((w.alloc (.cells #[.slice ao h.ks.length cap,.int .i64 h.kd,.int .i64 h.ho,.int .i64 h.tu] 63)).alloc (.cells #[.slice none 0 0,.int .i64 0,.int .i64 0,.int .i64 0] 48)).alloc (.cells #[.slice none 0 0,.int .i64 0,.int .i64 0,.int .i64 0] 48)):=hw1
 have hs1:w.heap.size+1+1<w1.heap.size:=by omega
 clear hw1 hr hl hsz
 unfold HV
 unfold hdA at p0
 conv in hdA=>unfold hdA
 go_enter Tryz.func53,Tryz.ntmps53
 go_wp2_with fail
 rw[←HW.out]
 clear HW
 refine c1.mono ?_
 rintro e w3 ⟨u,rfl,o3,b3⟩
 replace p0:=p0.below b3
 replace q0:=q0.below b3
 replace r0:=r0.below b3
 have hs3:=b3.size
 have B3:=b1.trans (b3.mono b1.size)
 obtain⟨ab,cb,rfl⟩:=reads_form o3.reads
 have k1:w3.cell? ⟨w.heap.size,1,none⟩=some (.int .i64 h.kd):=p0.cell 1 rfl
 have k2:w3.cell? ⟨w.heap.size,2,none⟩=some (.int .i64 h.ho):=p0.cell 2 rfl
 have k3:w3.cell? ⟨w.heap.size,3,none⟩=some (.int .i64 h.tu):=p0.cell 3 rfl
 have m0:w3.cell? ⟨w.heap.size+1+1,0,none⟩=some (.slice none 0 0):=r0.cell 0 rfl
 have m1:w3.cell? ⟨w.heap.size+1+1,1,none⟩=some (.int .i64 0):=r0.cell 1 rfl
 have m2:w3.cell? ⟨w.heap.size+1+1,2,none⟩=some (.int .i64 0):=r0.cell 2 rfl
 have m3:w3.cell? ⟨w.heap.size+1+1,3,none⟩=some (.int .i64 0):=r0.cell 3 rfl
 have f0:=r0.frozen 0
 have f1:=r0.frozen 1
 have f2:=r0.frozen 2
 have f3:=r0.frozen 3
 have HP:Hid (StB w3 (w.heap.size+1) 48 #[.slice none 0 0,.int .i64 0,.int .i64 0,.int .i64 0]∧StB w3 (w.heap.size+1+1) 48 #[.slice none 0 0,.int .i64 0,.int .i64 0,.int .i64 0]∧Own w3 w1.heap.size (.slice ab h.ks.length cb) h.ks∧Below w.heap.size w w3):=⟨q0,r0,o3,B3⟩
 clear p0 q0 r0 o3 b3 b1 c1 B3
 have hn1:w.heap.size≠w.heap.size+1:=by omega
 have hn2:w.heap.size≠w.heap.size+1+1:=by omega
 have hn3:w.heap.size+1≠w.heap.size+1+1:=by omega
 have hg0:w.heap.size≤w.heap.size+1∧w.heap.size≤w.heap.size+1+1∧w.heap.size+1<w1.heap.size∧w.heap.size≤w1.heap.size:=by omega
 have hlt2:w.heap.size+1+1<w3.heap.size:=HP.out.2.1.lt
 have hlt0:w.heap.size<w3.heap.size:=by omega
 obtain⟨g2,hg2⟩:∃g2,g2=w.heap.size+1+1:=⟨_,rfl⟩
 rw[←hg2]at hn2 hn3 hg0 m0 m1 m2 m3 f0 f1 f2 f3 HP hs1 hlt2⊢
 clear hg2
 obtain⟨g1,hg1⟩:∃g1,g1=w.heap.size+1:=⟨_,rfl⟩
 rw[←hg1]at hn1 hn3 hg0 HP⊢
 clear hg1
 have Q4:StB ((((w3.setCell ⟨g2,0,none⟩ (.slice ab h.ks.length cb)).setCell ⟨g2,1,none⟩ (.int .i64 h.kd)).setCell ⟨g2,2,none⟩ (.int .i64 h.ho)).setCell ⟨g2,3,none⟩ (.int .i64 h.tu)) g2 48 (hdA (.slice ab h.ks.length cb) h):=(((HP.out.2.1.put 0 _ rfl).put 1 _ rfl).put 2 _ rfl).put 3 _ rfl
 have R4:StB ((((w3.setCell ⟨g2,0,none⟩ (.slice ab h.ks.length cb)).setCell ⟨g2,1,none⟩ (.int .i64 h.kd)).setCell ⟨g2,2,none⟩ (.int .i64 h.ho)).setCell ⟨g2,3,none⟩ (.int .i64 h.tu)) g1 48 #[.slice none 0 0,.int .i64 0,.int .i64 0,.int .i64 0]:=(((HP.out.1.other _ _ hn3).other _ _ hn3).other _ _ hn3).other _ _ hn3
 have O4:Hid (Own ((((w3.setCell ⟨g2,0,none⟩ (.slice ab h.ks.length cb)).setCell ⟨g2,1,none⟩ (.int .i64 h.kd)).setCell ⟨g2,2,none⟩ (.int .i64 h.ho)).setCell ⟨g2,3,none⟩ (.int .i64 h.tu)) w1.heap.size (.slice ab h.ks.length cb) h.ks∧Below w.heap.size w ((((w3.setCell ⟨g2,0,none⟩ (.slice ab h.ks.length cb)).setCell ⟨g2,1,none⟩ (.int .i64 h.kd)).setCell ⟨g2,2,none⟩ (.int .i64 h.ho)).setCell ⟨g2,3,none⟩ (.int .i64 h.tu))):=⟨(((HP.out.2.2.1.setLt hs1 0 _).setLt hs1 1 _).setLt hs1 2 _).setLt hs1 3 _,(((HP.out.2.2.2.setCell (show w.heap.size≤g2 from hg0.2.1) _).setCell (show w.heap.size≤g2 from hg0.2.1) _).setCell (show w.heap.size≤g2 from hg0.2.1) _).setCell (show w.heap.size≤g2 from hg0.2.1) _⟩
 clear HP
 go_upto_region 6 with fail
 obtain⟨w4,hw4⟩:∃w4,w4=((((w3.setCell ⟨g2,0,none⟩ (.slice ab h.ks.length cb)).setCell ⟨g2,1,none⟩ (.int .i64 h.kd)).setCell ⟨g2,2,none⟩ (.int .i64 h.ho)).setCell ⟨g2,3,none⟩ (.int .i64 h.tu)):=⟨_,rfl⟩
 rw[←hw4]at Q4 R4 O4⊢
 clear hw4 k1 k2 k3 m0 m1 m2 m3 f0 f1 f2 f3
 go_wp2_with (first|(refine wpList_getS Tryz.isH rfl _ rfl g2 rfl (hdA (.slice ab h.ks.length cb) h) rfl Q4 ?_)|(refine wpList_putS Tryz.isH rfl _ _ rfl g1 (hdA (.slice ab h.ks.length cb) h) #[.slice none 0 0,.int .i64 0,.int .i64 0,.int .i64 0] rfl rfl rfl rfl (hdA_one h rfl) R4 ?_;intro w8 s8 g8))
 refine bodyPost_ret (results_S Tryz.isH rfl _ _ g1 _ rfl rfl s8) rfl ?_
 exact⟨_,rfl,(O4.out.1.keptLt g8 (by omega)).mono (by omega),O4.out.2.grown g8 O4.out.2.size (fun k e=>by cases e;omega)⟩
theorem eqHolding_any (u v:Value) (h:Hd) (w:World) (hu:Reads w u h.ks) (hv:Reads w v h.ks) (hl:h.ks.length≤1099511627776):
  Calls Tryz.prog 63 #[HV u h,HV v h] w fun e w'=>e=.returned (.bool true)∧Below w.heap.size w w':=by
 obtain⟨w1,hw1⟩:∃w1,w1=(w.alloc (.cells (hdA u h) 48)).alloc (.cells (hdA v h) 48):=⟨_,rfl⟩
 have p0:StB w1 w.heap.size 48 (hdA u h):=by rw[hw1];exact(StB.new w _ _).alloc _
 have p1:StB w1 (w.heap.size+1) 48 (hdA v h):=by
  rw[hw1]
  have:=StB.new (w.alloc (.cells (hdA u h) 48)) 48 (hdA v h)
  rwa[World.size_alloc]at this
 have b1:Below w.heap.size w w1:=by rw[hw1];exact((Below.refl _ _).alloc (Nat.le_refl _) _).alloc (by simp) _
 have c1:=eq_any u v h.ks h.ks w1 (hu.below b1 (Nat.le_refl _)) (hv.below b1 (Nat.le_refl _)) hl
 rw[show decide (h.ks=h.ks)=true by simp]at c1
 obtain⟨ao,ca,rfl⟩:=reads_form hu
 obtain⟨bo,cb,rfl⟩:=reads_form hv
 have HW:Hid (w1=(w.alloc (.cells #[.slice ao h.ks.length ca,.int .i64 h.kd,.int .i64 h.ho,.int .i64 h.tu] 48)).alloc (.cells #[.slice bo h.ks.length cb,.int .i64 h.kd,.int .i64 h.ho,.int .i64 h.tu] 48)):=hw1
 clear hw1 hu hv hl
 unfold HV hdA
 go_enter Tryz.func63,Tryz.ntmps63
 go_wp2_with fail
 rw[←HW.out]
 clear HW
 refine c1.mono ?_
 rintro e w3 ⟨rfl,n3,hw3⟩
 replace p0:StB w3 w.heap.size 48 (hdA (.slice ao h.ks.length ca) h):=by rw[hw3];exact p0
 replace p1:StB w3 (w.heap.size+1) 48 (hdA (.slice bo h.ks.length cb) h):=by rw[hw3];exact p1
 have B3:Below w.heap.size w w3:=by rw[hw3];exact below_drewN b1 n3
 clear hw3 c1 b1
 have k1:w3.cell? ⟨w.heap.size,1,none⟩=some (.int .i64 h.kd):=p0.cell 1 rfl
 have k2:w3.cell? ⟨w.heap.size,2,none⟩=some (.int .i64 h.ho):=p0.cell 2 rfl
 have k3:w3.cell? ⟨w.heap.size,3,none⟩=some (.int .i64 h.tu):=p0.cell 3 rfl
 have m1:w3.cell? ⟨w.heap.size+1,1,none⟩=some (.int .i64 h.kd):=p1.cell 1 rfl
 have m2:w3.cell? ⟨w.heap.size+1,2,none⟩=some (.int .i64 h.ho):=p1.cell 2 rfl
 have m3:w3.cell? ⟨w.heap.size+1,3,none⟩=some (.int .i64 h.tu):=p1.cell 3 rfl
 clear p0 p1
 go_wp2
 go_ret
 exact⟨rfl,B3⟩
end Go.Proofs.YtflbcjgkdokhiaaGreatDoor
