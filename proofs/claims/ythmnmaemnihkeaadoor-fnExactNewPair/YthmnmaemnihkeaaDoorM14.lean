/- Regions that draw their order, with calls that make memory, new variables and stores into them, whatever the order: what is needed at each step is found by the world's own shape. -/
import Derived.Test.YthmnmaemnihkeaaDoorM5
import Derived.Deep.RegionHeld3
import Derived.Test.YthmnmaemnihkeaaDoorSta
import Derived.Test.YthmnmaemnihkeaaDoorM4
import Derived.Test.YthmnmaemnihkeaaDoorM13
import Derived.Test.YthmnmaemnihkeaaDoorM6
import Derived.Test.YthmnmaemnihkeaaDoorM2
import Derived.Deep.DeepCutAuto
namespace Go.Proofs.YthmnmaemnihkeaaDoor
open Go.ChangeShapes Go.WideShapes Go.ChangeAt Go.RowKit
theorem bel_alloc {w wx:World} {o:Obj} (h:Below w.heap.size w wx):Below w.heap.size w (wx.alloc o):=h.alloc h.size _
theorem bel_drew {w wx:World} (h:Below w.heap.size w wx):Below w.heap.size w wx.drew:=h.drew
theorem bel_trans {w wx wy:World} (h:Below w.heap.size w wx) (b:Below wx.heap.size wx wy):Below w.heap.size w wy:=h.trans (b.mono h.size)
theorem bels {P:Prop} (h:P:=by repeat'(first|with_reducible assumption|with_reducible exact Below.refl _ _|with_reducible refine bel_alloc ?_|with_reducible refine bel_drew ?_|with_reducible refine bel_trans ?_ (by with_reducible assumption))):P:=h
theorem later_cell {w wx:World} {a:Addr} {v:Value} (h:w.cell? a=some v) (b:Below w.heap.size w wx):wx.cell? a=some v:=by
 rw[b.cell (World.block_lt_of_cell? w _ h)];exact h
theorem StB.al {w:World} {g:Nat} {t:TypeId} {cs:Array Value} {o:Obj} (h:StB w g t cs):StB (w.alloc o) g t cs:=h.alloc o
theorem StB.bel {w w':World} {g:Nat} {t:TypeId} {cs:Array Value} (h:StB w g t cs) (b:Below w.heap.size w w'):StB w' g t cs:=h.below b
theorem Own.ne {w:World} {base g:Nat} {v:Value} {xs:List Int} {t:TypeId} {cs:Array Value} (h:Own w base v xs) (h':StB w g t cs) (hne:t≠2):v.ownBlock≠some g:=by
 intro e
 rcases h.2 with⟨rfl, -⟩|⟨k,cap,cur,rfl, -,hg, -⟩
 ·cases e
 ·simp only[Value.ownBlock,Option.some.injEq]at e
  subst e
  unfold StB at h'
  rw[hg]at h'
  simp at h'
  exact hne h'.2.symm
theorem Own.putBy {w w':World} {base g:Nat} {v:Value} {xs:List Int} {t:TypeId} {cs:Array Value} (h:Own w base v xs) (h':StB w g t cs) (hne:t≠2) (b:w.grownBy w' (some g)):Own w' base v xs:=
 h.kept b (.inr (h.ne h' hne))
theorem step_putS {t:TypeId} {n:Nat} (hS:IsS t n) {ops:Array Oper} {o:Oper} {a:Act} {w:World} {K:Act→World→Prop} {Q:Exit→Act→World→Prop} {E:Prop} (hgd:o.guard=none) (x y:Operand) (ho:o.op=.store t x y)
  (g:Nat) (cs ds:Array Value) (hx:a.eval x=.pointer (some ⟨g,0,none⟩)) (hy:a.eval y=.agg cs) (hn:cs.size=n) (hd:ds.size=n) (h1:cs.all (·.oneCell')=true) (hr:StB w g t ds)
  (h:∀w',StB w' g t cs→w.grownBy w' (some g)→K (a.put o.dst undef) w'):if Region.wanted o (yielded ops a.tmps)=true then Oper.wp Tryd.prog o a w K Q else E:=by
 have hw:Region.wanted o (yielded ops a.tmps)=true:=by simp[Region.wanted,hgd]
 rw[if_pos hw]
 exact wp_store_row t x y ho g cs hx hy _ _ hr (by rw[hS.2,hn]) (by rw[hd,hn]) h1 (h _ (setRow_heap w g _ _ _ _ hr) (grownRowS w g _))
end Go.Proofs.YthmnmaemnihkeaaDoor
namespace Go.Proofs.YthmnmaemnihkeaaDoor
open Go.ChangeShapes Go.WideShapes Go.ChangeAt Go.RowKit
def Mine (w:World) (base:Nat) (v:Value) (xs:List Int):Prop:=Own w base v xs∨(xs=[]∧∃ao cap,v=.slice ao 0 cap∧cap≤maxLen∧(ao=none→cap=0))
theorem Own.mine {w:World} {base:Nat} {v:Value} {xs:List Int} (h:Own w base v xs):Mine w base v xs:=.inl h
theorem Mine.reads {w:World} {base:Nat} {v:Value} {xs:List Int} (h:Mine w base v xs):Reads w v xs:=by
 rcases h with h|⟨rfl,ao,cap,rfl,h1,h2⟩
 ·exact h.reads
 ·exact⟨ao,cap,rfl,Nat.zero_le _,⟨h1,h2⟩,.inl rfl⟩
theorem Reads.mine {w:World} {base:Nat} {v:Value} (h:Reads w v []):Mine w base v []:=by
 obtain⟨ao,cap,rfl, -,⟨h1,h2⟩, -⟩:=h
 exact .inr ⟨rfl,ao,cap,rfl,h1,h2⟩
theorem Mine.mono {w:World} {base base':Nat} {v:Value} {xs:List Int} (h:Mine w base v xs) (hb:base'≤base):Mine w base' v xs:=h.imp (fun h=>h.mono hb) id
theorem Mine.below {w w':World} {base:Nat} {v:Value} {xs:List Int} (h:Mine w base v xs) (b:Below w.heap.size w w'):Mine w' base v xs:=h.imp (fun h=>h.below b) id
theorem Mine.putBy {w w':World} {base g:Nat} {v:Value} {xs:List Int} {t:TypeId} {cs:Array Value} (h:Mine w base v xs) (h':StB w g t cs) (hne:t≠2) (b:w.grownBy w' (some g)):Mine w' base v xs:=h.imp (fun h=>h.putBy h' hne b) id
theorem Mine.set {w:World} {base g j:Nat} {v:Value} {xs:List Int} {t:TypeId} {cs:Array Value} (h:Mine w base v xs) (h':StB w g t cs) (hne:t≠2) (x:Value):Mine (w.setCell ⟨g,j,none⟩ x) base v xs:=h.putBy h' hne (grownSet w g j x)
theorem Mine.drew {w w':World} {base n:Nat} {v:Value} {xs:List Int} (h:Mine w base v xs) (e:w'=w.drewN n):Mine w' base v xs:=h.imp (fun h=>h.drew_eq e) id
theorem Mine.own {w:World} {base:Nat} {v:Value} {xs:List Int} (h:Mine w base v xs) (hx:xs≠[]):Own w base v xs:=h.resolve_right (fun h=>hx h.1)
theorem Reads.later {w w':World} {v:Value} (h:Reads w v []):Reads w' v []:=by
 obtain⟨ao,cap,rfl,h0,h1, -⟩:=h
 exact⟨ao,cap,rfl,h0,h1,.inl rfl⟩
def mineOf (v:Value) (xs:List Int):List Nat:=if xs.length=0 then[]else v.ownBlock.toList
theorem Mine.frame {w w':World} {base:Nat} {v:Value} {xs:List Int} (h:Mine w base v xs) (e:∀b∈mineOf v xs,w'.heap[b]?=w.heap[b]?):Mine w' base v xs:=by
 rcases h with h|h
 ·by_cases hx:xs.length=0
  ·have e0:xs=[]:=List.eq_nil_of_length_eq_zero hx
   subst e0
   exact Reads.mine (h.reads.later)
  ·unfold mineOf at e
   rw[if_neg hx]at e
   exact .inl (Own.frame h e)
 ·exact .inr h
end Go.Proofs.YthmnmaemnihkeaaDoor
namespace Go.Proofs.YthmnmaemnihkeaaDoor
open Go.ChangeShapes Go.WideShapes Go.ChangeAt Go.RowKit
end Go.Proofs.YthmnmaemnihkeaaDoor
namespace Go.Proofs.YthmnmaemnihkeaaDoor
open Go.ChangeShapes Go.WideShapes Go.ChangeAt Go.RowKit
end Go.Proofs.YthmnmaemnihkeaaDoor
set_option maxRecDepth 20000
set_option maxHeartbeats 1000000
namespace Go.Proofs.YthmnmaemnihkeaaDoor
open Go.ChangeShapes Go.WideShapes Go.ChangeAt Go.RowKit
theorem hdA_one {v:Value} (h:Hd) (hv:v.oneCell'=true):(hdA v h).all (·.oneCell')=true:=by
 unfold hdA
 simp[hv,show∀k n,(Value.int k n).oneCell'=true from fun _ _=>rfl]
theorem eqHolding_any (u v:Value) (h:Hd) (w:World) (hu:Reads w u h.ks) (hv:Reads w v h.ks) (hl:h.ks.length≤1099511627776):
  Calls Tryd.prog 43 #[HV u h,HV v h] w fun e w'=>e=.returned (.bool true)∧Below w.heap.size w w':=by
 obtain⟨w1,hw1⟩:∃w1,w1=(w.alloc (.cells (hdA u h) 36)).alloc (.cells (hdA v h) 36):=⟨_,rfl⟩
 have p0:StB w1 w.heap.size 36 (hdA u h):=by rw[hw1];exact(StB.new w _ _).alloc _
 have p1:StB w1 (w.heap.size+1) 36 (hdA v h):=by
  rw[hw1]
  have:=StB.new (w.alloc (.cells (hdA u h) 36)) 36 (hdA v h)
  rwa[World.size_alloc]at this
 have b1:Below w.heap.size w w1:=by rw[hw1];exact((Below.refl _ _).alloc (Nat.le_refl _) _).alloc (by simp) _
 have c1:=eq_any u v h.ks h.ks w1 (hu.below b1 (Nat.le_refl _)) (hv.below b1 (Nat.le_refl _)) hl
 rw[show decide (h.ks=h.ks)=true by simp]at c1
 obtain⟨ao,ca,rfl⟩:=reads_form hu
 obtain⟨bo,cb,rfl⟩:=reads_form hv
 have HW:Hid (w1=(w.alloc (.cells #[.slice ao h.ks.length ca,.int .i64 h.kd,.int .i64 h.ho,.int .i64 h.tu] 36)).alloc (.cells #[.slice bo h.ks.length cb,.int .i64 h.kd,.int .i64 h.ho,.int .i64 h.tu] 36)):=hw1
 clear hw1 hu hv hl
 unfold HV hdA
 go_enter Tryd.func43,Tryd.ntmps43
 go_wp2_with fail
 rw[←HW.out]
 clear HW
 refine c1.mono ?_
 rintro e w3 ⟨rfl,n3,hw3⟩
 replace p0:StB w3 w.heap.size 36 (hdA (.slice ao h.ks.length ca) h):=by rw[hw3];exact p0
 replace p1:StB w3 (w.heap.size+1) 36 (hdA (.slice bo h.ks.length cb) h):=by rw[hw3];exact p1
 have B3:Below w.heap.size w w3:=by rw[hw3];exact below_drewN b1 n3
 clear hw3 c1 b1
 have k1:w3.cell? ⟨w.heap.size,1,none⟩=some (.int .i64 h.kd):=p0.cell 1 rfl
 have k2:w3.cell? ⟨w.heap.size,2,none⟩=some (.int .i64 h.ho):=p0.cell 2 rfl
 have k3:w3.cell? ⟨w.heap.size,3,none⟩=some (.int .i64 h.tu):=p0.cell 3 rfl
 have m1:w3.cell? ⟨w.heap.size+1,1,none⟩=some (.int .i64 h.kd):=p1.cell 1 rfl
 have m2:w3.cell? ⟨w.heap.size+1,2,none⟩=some (.int .i64 h.ho):=p1.cell 2 rfl
 have m3:w3.cell? ⟨w.heap.size+1,3,none⟩=some (.int .i64 h.tu):=p1.cell 3 rfl
 clear p0 p1
 go_wp2
 go_ret
 exact⟨rfl,B3⟩
theorem snewH_any (w:World):
  Calls Tryd.prog 22 #[] w fun e w'=>∃u,e=.returned (HV u Hd.new)∧Own w' w.heap.size u Hd.new.ks∧Below w.heap.size w w':=by
 obtain⟨i0,hi,hz0,hz1,hz2⟩:=info_parts Tryd.infoI
 obtain⟨w1,hw1⟩:∃w1,w1=w.alloc (.cells #[.slice none 0 0,.int .i64 0,.int .i64 0,.int .i64 0] 36):=⟨_,rfl⟩
 have p0:StB w1 w.heap.size 36 #[.slice none 0 0,.int .i64 0,.int .i64 0,.int .i64 0]:=by rw[hw1];exact StB.new w _ _
 have b1:Below w.heap.size w w1:=by rw[hw1];exact(Below.refl _ _).alloc (Nat.le_refl _) _
 have hs1:w.heap.size<w1.heap.size:=p0.lt
 go_enter Tryd.func22,Tryd.ntmps22
 go_upto_region 1 with fail
 rw[←hw1]
 clear hw1
 go_wp2_with (first
  |(refine wpList_make_full _ rfl _ _ 32 rfl w1.heap.size 2 i0 (.int .i64 0) 1 Tryd.underlying32 hi hz0 hz1 _ _ _ _ 4 rfl rfl rfl rfl (by rw[hz2];omega) (by unfold maxLen;omega) (Nat.le_refl _) ?_;intro w2 hown hgr)
  |(refine wpList_putS Tryd.isH rfl _ _ rfl w.heap.size (hdA (.slice (some ⟨w1.heap.size,0,none⟩) 4 4) Hd.new) #[.slice none 0 0,.int .i64 0,.int .i64 0,.int .i64 0] rfl rfl rfl rfl (hdA_one _ rfl) (p0.kept hgr (by simp)) ?_;intro w3 s3 g3))
 refine bodyPost_ret (results_S Tryd.isH rfl _ _ w.heap.size _ rfl rfl s3) rfl ?_
 have e4:(madeCells (Value.int .i64 0).cells (4*1)).toList=([0,0,0,0]:List Int).map (Value.int .i64):=zeros_eq 4
 rw[e4]at hown
 have o2:Own w2 w1.heap.size (.slice (some ⟨w1.heap.size,0,none⟩) 4 4) [0,0,0,0]:=hown
 have b2:Below w.heap.size w w2:=b1.grown hgr b1.size (fun k e=>by cases e)
 exact⟨_,rfl,(o2.keptLt g3 hs1).mono b1.size,b2.grown g3 b2.size (fun k e=>by cases e;exact Nat.le_refl _)⟩
end Go.Proofs.YthmnmaemnihkeaaDoor
