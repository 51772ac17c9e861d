/- What stands while a house's box is worked on. -/
import Derived.Test.YthmnmaemnihkeaaDoorM15
import Derived.Test.YthmnmaemnihkeaaDoorM18
import Derived.Test.YthmnmaemnihkeaaDoorM17
import Derived.Test.YthmnmaemnihkeaaDoorM19
import Derived.Test.YthmnmaemnihkeaaDoorM7
import Derived.Deep.OwnRows
namespace Go.Proofs.YthmnmaemnihkeaaDoor
open Go.ChangeShapes Go.WideShapes Go.ChangeAt Go.RowKit
structure FS (w wx:World) (cs:Array Value):Prop where
 p:StB wx w.heap.size 44 cs
 r:StB wx (w.heap.size+1) 44 zeroNd
 b:Below w.heap.size w wx
theorem FS.below {w wx wy:World} {cs:Array Value} (h:FS w wx cs) (B:Below wx.heap.size wx wy):FS w wy cs:=⟨h.p.below B,h.r.below B,h.b.trans (B.mono h.b.size)⟩
theorem FS.put {w wx:World} {cs ds:Array Value} (h:FS w wx cs) (j:Nat) (x:Value) (e:cs.setIfInBounds j x=ds):FS w (wx.setCell ⟨w.heap.size,j,none⟩ x) ds:=
 ⟨h.p.put j x e,h.r.other _ _ (by show w.heap.size+1≠w.heap.size;omega),h.b.setCell (Nat.le_refl _) _⟩
theorem FS.lt {w wx:World} {cs:Array Value} (h:FS w wx cs):w.heap.size+1<wx.heap.size:=h.r.lt
end Go.Proofs.YthmnmaemnihkeaaDoor
namespace Go.Proofs.YthmnmaemnihkeaaDoor
open Go.ChangeShapes Go.WideShapes Go.ChangeAt Go.RowKit
end Go.Proofs.YthmnmaemnihkeaaDoor
namespace Go.Proofs.YthmnmaemnihkeaaDoor
open Go.ChangeShapes Go.WideShapes Go.ChangeAt Go.RowKit
theorem Pair.drew {w:World} {g:Nat} {t:TypeId} {u v:Value} (h:Pair w g t u v):Pair w.drew g t u v:=h
theorem OwnD.drew {w:World} {base:Nat} {u v:Value} {xs ys:List Int} (h:OwnD w base u v xs ys):OwnD w.drew base u v xs ys:=h
theorem OwnD.below {w w':World} {base:Nat} {u v:Value} {xs ys:List Int} (h:OwnD w base u v xs ys) (b:Below w.heap.size w w'):OwnD w' base u v xs ys:=⟨h.1.below b,h.2.1.below b,h.2.2⟩
def Mid (w wx:World) (u v:Value) (h base:Nat) (a b:Value) (xs ys:List Int):Prop:=Boxes w wx u v∧Pair wx h 34 a b∧OwnD wx base a b xs ys
theorem Mid.below {w wx wy:World} {u v a b:Value} {h base:Nat} {xs ys:List Int} (m:Mid w wx u v h base a b xs ys) (k:Below wx.heap.size wx wy):Mid w wy u v h base a b xs ys:=
 ⟨m.1.below k,m.2.1.below k,m.2.2.below k⟩
theorem Mid.drew {w wx:World} {u v a b:Value} {h base:Nat} {xs ys:List Int} (m:Mid w wx u v h base a b xs ys):Mid w wx.drew u v h base a b xs ys:=⟨m.1.drew,m.2.1,m.2.2⟩
end Go.Proofs.YthmnmaemnihkeaaDoor
namespace Go.Proofs.YthmnmaemnihkeaaDoor
open Go.ChangeShapes Go.WideShapes Go.ChangeAt Go.RowKit
theorem heA_S {w:World} {g:Nat} {f:Nat→Int} {kd ho tu:Int} {w':World} {B:Nat} (h:Hid (StB w g 91 (heA f kd ho tu))) (hb:Below B w w') (e:B=w.heap.size):Hid (StB w' g 91 (heA f kd ho tu)):=by subst e;exact h.out.below hb
theorem HB_next {w w3 w4:World} (h:Hid (Below w.heap.size w w3)) (b:Below w3.heap.size w3 w4):Hid (Below w.heap.size w w4):=h.out.trans (b.mono h.out.size)
end Go.Proofs.YthmnmaemnihkeaaDoor
set_option maxRecDepth 20000
set_option maxHeartbeats 1000000
namespace Go.Proofs.YthmnmaemnihkeaaDoor
open Go.ChangeShapes Go.WideShapes Go.ChangeAt Go.RowKit
theorem ilistK4_any (f:Nat→Int) (w:World):
  Calls Tryd.prog 64 #[.agg (kA f)] w fun e w'=>∃ao cap,e=.returned (.slice ao 4 cap)∧Own w' w.heap.size (.slice ao 4 cap) (listK f)∧Below w.heap.size w w':=by
 refine(ilistK_any f w).mono ?_
 rintro e w' ⟨u,rfl,o,b⟩
 obtain⟨ao,cap,rfl⟩:=reads_form o.reads
 exact⟨ao,cap,rfl,o,b⟩
theorem cell_put4 {w:World} {g k:Nat} (hne:g≠k) {j:Nat} {a b c d x:Value} (h:w.cell? ⟨g,j,none⟩=some x):
  ((((w.setCell ⟨k,0,none⟩ a).setCell ⟨k,1,none⟩ b).setCell ⟨k,2,none⟩ c).setCell ⟨k,3,none⟩ d).cell? ⟨g,j,none⟩=some x:=by
 rw[World.cell?_setCell_far _ _ _ _ (Ne.symm hne),World.cell?_setCell_far _ _ _ _ (Ne.symm hne),World.cell?_setCell_far _ _ _ _ (Ne.symm hne),World.cell?_setCell_far _ _ _ _ (Ne.symm hne),h]
theorem iholding_any (f:Nat→Int) (kd ho tu:Int) (w:World):
  Calls Tryd.prog 54 #[.agg (heA f kd ho tu)] w fun e w'=>∃u,e=.returned (HV u ⟨listK f,kd,ho,tu⟩)∧Own w' w.heap.size u (listK f)∧Below w.heap.size w w':=by
 obtain⟨w1,hw1⟩:∃w1,w1=(w.alloc (.cells (heA f kd ho tu) 91)).alloc (.cells #[.slice none 0 0,.int .i64 0,.int .i64 0,.int .i64 0] 36):=⟨_,rfl⟩
 have HB:Hid (Below w.heap.size w w1.drew):=by rw[hw1];exact(((Below.refl _ _).alloc (Nat.le_refl _) _).alloc (by simp) _).drew
 have H1:Hid (StB w1 w.heap.size 91 (heA f kd ho tu)):=by rw[hw1];exact(StB.new _ _ _).alloc _
 have HH1:Hid (StB w1.drew w.heap.size 91 (heA f kd ho tu)):=H1.out
 have R1:Hid (StB w1.drew (w.heap.size+1) 36 #[.slice none 0 0,.int .i64 0,.int .i64 0,.int .i64 0]):=by
  rw[hw1]
  have:=StB.new (w.alloc (.cells (heA f kd ho tu) 91)) 36 #[.slice none 0 0,.int .i64 0,.int .i64 0,.int .i64 0]
  rw[World.size_alloc]at this
  exact this
 obtain⟨m0,m1,m2,m3,m4,m5,m6⟩:=heA_cells H1.out
 have c1:=fun wx=>ilistK4_any f wx
 have hs:w.heap.size+1<w1.drew.heap.size:=R1.out.lt
 clear H1
 unfold heA at hw1⊢
 unfold kA at c1
 go_enter Tryd.func54,Tryd.ntmps54
 go_upto_region 1 with fail
 rw[←hw1]
 obtain⟨k,hk⟩:∃k,k=w.heap.size+1:=⟨_,rfl⟩
 rw[←hk]at R1 hs⊢
 have hne:w.heap.size≠k:=by omega
 have HK:Hid (k=w.heap.size+1):=hk
 obtain⟨g,hg⟩:∃g,g=w.heap.size:=⟨_,rfl⟩
 rw[←hg]at m0 m1 m2 m3 m4 m5 m6 HH1 hne⊢
 have HG:Hid (g=w.heap.size):=hg
 have HS:Hid (k<w1.drew.heap.size):=hs
 obtain⟨d0,d1,d2,d3,d4,d5,d6⟩:=heA_cells HH1.out
 clear hw1 hk hg hs
 go_region_held3 (fun w'=>w'.cell? ⟨g,0,none⟩=some (.int .i64 (f 0))∧w'.cell? ⟨g,1,none⟩=some (.int .i64 (f 1))∧w'.cell? ⟨g,2,none⟩=some (.int .i64 (f 2))∧w'.cell? ⟨g,3,none⟩=some (.int .i64 (f 3))∧w'.cell? ⟨g,4,none⟩=some (.int .i64 kd)∧w'.cell? ⟨g,5,none⟩=some (.int .i64 ho)∧w'.cell? ⟨g,6,none⟩=some (.int .i64 tu)) (refine⟨?_,?_,?_,?_,?_,?_,?_⟩<;>first|with_reducible assumption|(with_reducible refine cell_put4 hne ?_;with_reducible assumption))
  (first
   |(go_at_call 64;refine(c1 _).mono ?_;rintro e w2 ⟨ao,cap,rfl,o2,b2⟩;have HB2:=HB_next HB b2;have H2:=heA_S HH1 b2 rfl;have R2:Hid (StB w2 k 36 #[.slice none 0 0,.int .i64 0,.int .i64 0,.int .i64 0]):=R1.out.below b2;have O2:Hid (Own w2 w1.drew.heap.size (.slice ao 4 cap) (listK f)):=o2;obtain⟨n0,n1,n2,n3,n4,n5,n6⟩:=heA_cells H2.out;clear b2 o2;have q0:w2.cell? ⟨k,0,none⟩=some (.slice none 0 0):=R2.out.cell 0 rfl;have q1:w2.cell? ⟨k,1,none⟩=some (.int .i64 0):=R2.out.cell 1 rfl;have q2:w2.cell? ⟨k,2,none⟩=some (.int .i64 0):=R2.out.cell 2 rfl;have q3:w2.cell? ⟨k,3,none⟩=some (.int .i64 0):=R2.out.cell 3 rfl;have f0:=R2.out.frozen 0;have f1:=R2.out.frozen 1;have f2:=R2.out.frozen 2;have f3:=R2.out.frozen 3))
 have SE:=(((R2.out.put 0 (.slice ao 4 cap) rfl).put 1 (.int .i64 kd) rfl).put 2 (.int .i64 ho) rfl).put 3 (.int .i64 tu) (ds:=hdA (.slice ao 4 cap) ⟨listK f,kd,ho,tu⟩) rfl
 have GE:=(((grownSet w2 k 0 (.slice ao 4 cap)).trans (grownSet _ k 1 (.int .i64 kd))).trans (grownSet _ k 2 (.int .i64 ho))).trans (grownSet _ k 3 (.int .i64 tu))
 have HF:Hid (_∧_):=⟨SE,GE⟩
 clear SE GE H2 R2 n0 n1 n2 n3 n4 n5 n6 q0 q1 q2 q3 f0 f1 f2 f3 d0 d1 d2 d3 d4 d5 d6 m0 m1 m2 m3 m4 m5 m6
 go_wp2
 refine bodyPost_ret (results_S Tryd.isH rfl _ _ k _ rfl rfl HF.out.1) rfl ?_
 have h1:=HB.out.size
 have h2:=HK.out
 exact⟨_,rfl,(O2.out.keptLt HF.out.2 HS.out).mono h1,HB2.out.grown HF.out.2 HB2.out.size (fun x e=>by cases e;omega)⟩
theorem inewH_any (w:World):
  Calls Tryd.prog 37 #[] w fun e w'=>∃u,e=.returned (HV u Hd.new)∧Own w' w.heap.size u Hd.new.ks∧Below w.heap.size w w':=by
 obtain⟨w1,hw1⟩:∃w1,w1=w.alloc (.cells #[.slice none 0 0,.int .i64 0,.int .i64 0,.int .i64 0] 36):=⟨_,rfl⟩
 have p0:Hid (StB w1 w.heap.size 36 #[.slice none 0 0,.int .i64 0,.int .i64 0,.int .i64 0]):=by rw[hw1];exact StB.new w _ _
 have b1:Hid (Below w.heap.size w w1):=by rw[hw1];exact(Below.refl _ _).alloc (Nat.le_refl _) _
 have c1:=iholding_any (fun _=>0) 0 (-1) 0 w1
 unfold heA at c1
 go_enter Tryd.func37,Tryd.ntmps37
 go_wp2_with fail
 rw[←hw1]
 refine c1.mono ?_
 rintro e w2 ⟨u,rfl,o2,b2⟩
 obtain⟨ao,cap,rfl⟩:=reads_form o2.reads
 have P2:Hid (StB w2 w.heap.size 36 #[.slice none 0 0,.int .i64 0,.int .i64 0,.int .i64 0]):=p0.out.below b2
 have B2:=HB_next b1 b2
 have O2:Hid (Own w2 w1.heap.size (.slice ao 4 cap) (listK fun _=>0)):=o2
 have HS:Hid (w.heap.size<w1.heap.size):=p0.out.lt
 clear hw1 c1 o2 b2 p0
 go_wp2_with (first|(refine wpList_putS Tryd.isH rfl _ _ rfl w.heap.size (hdA (.slice ao 4 cap) Hd.new) _ rfl rfl rfl rfl (hdA_one _ rfl) P2.out ?_;intro w3 s3 g3))
 refine bodyPost_ret (results_S Tryd.isH rfl _ _ w.heap.size _ rfl rfl s3) rfl ?_
 exact⟨_,rfl,(O2.out.keptLt g3 HS.out).mono b1.out.size,B2.out.grown g3 B2.out.size (fun k e=>by cases e;exact Nat.le_refl _)⟩
end Go.Proofs.YthmnmaemnihkeaaDoor
namespace Go.Proofs.YthmnmaemnihkeaaDoor
open Go.ChangeShapes Go.WideShapes Go.ChangeAt Go.RowKit
def put6 (w:World) (g:Nat) (a b k:Value) (h:Hd):World:=
 (((((w.setCell ⟨g,0,none⟩ a).setCell ⟨g,1,none⟩ b).setCell ⟨g,2,none⟩ k).setCell ⟨g,3,none⟩ (.int .i64 h.kd)).setCell ⟨g,4,none⟩ (.int .i64 h.ho)).setCell ⟨g,5,none⟩ (.int .i64 h.tu)
theorem put6_st {w:World} {g:Nat} {t:TypeId} {c0 c1 c2 c3 c4 c5:Value} (a b k:Value) (h:Hd) (s:StB w g t #[c0,c1,c2,c3,c4,c5]):StB (put6 w g a b k h) g t (srA a b k h):=
 (((((s.put 0 _ rfl).put 1 _ rfl).put 2 _ rfl).put 3 _ rfl).put 4 _ rfl).put 5 _ rfl
theorem put6_grown (w:World) (g:Nat) (a b k:Value) (h:Hd):w.grownBy (put6 w g a b k h) (some g):=
 (((((grownSet _ _ _ _).trans (grownSet _ _ _ _)).trans (grownSet _ _ _ _)).trans (grownSet _ _ _ _)).trans (grownSet _ _ _ _)).trans (grownSet _ _ _ _)
end Go.Proofs.YthmnmaemnihkeaaDoor
set_option maxRecDepth 20000
set_option maxHeartbeats 2000000
namespace Go.Proofs.YthmnmaemnihkeaaDoor
open Go.ChangeShapes Go.WideShapes Go.ChangeAt Go.RowKit
theorem ownZeros (w:World) (base k:Nat) (h8:k≤8) (hb:base≤w.heap.size):Own (w.alloc (.cells (madeCells #[Value.int .i64 0] k) 2)) base (.slice (some ⟨w.heap.size,0,none⟩) k k) (List.replicate k 0):=by
 have hsz:(madeCells #[Value.int .i64 0] k).size=k:=by
  have:=congrArg List.length (zeros_eq k)
  simpa using this
 have:=World.ownsRow_lit (base:=base) (e:=2) (size:=1) w (madeCells #[Value.int .i64 0] k) k hb (by unfold maxLen;omega) (by rw[hsz];omega)
 unfold Own
 rw[←zeros_eq,List.length_replicate]
 exact this
theorem twoZeros (w:World) (o:Obj) (k:Nat) (h8:k≤8):
  Own ((((w.alloc o).alloc (.cells (madeCells #[.int .i64 0] k) 2)).alloc (.cells (madeCells #[.int .i64 0] k) 2)).drew) w.heap.size (.slice (some ⟨w.heap.size+1,0,none⟩) k k) (List.replicate k 0)∧
  Own ((((w.alloc o).alloc (.cells (madeCells #[.int .i64 0] k) 2)).alloc (.cells (madeCells #[.int .i64 0] k) 2)).drew) w.heap.size (.slice (some ⟨w.heap.size+1+1,0,none⟩) k k) (List.replicate k 0)∧
  Below w.heap.size w ((((w.alloc o).alloc (.cells (madeCells #[.int .i64 0] k) 2)).alloc (.cells (madeCells #[.int .i64 0] k) 2)).drew):=by
 refine⟨?_,?_,below_drewN ((((Below.refl _ _).alloc (Nat.le_refl _) _).alloc (by simp) _).alloc (by simp;omega) _) 1⟩
 ·have:=(ownZeros (w.alloc o) w.heap.size k h8 (by simp)).below (belowAlloc _ (.cells (madeCells #[.int .i64 0] k) 2))
  show Own (((w.alloc o).alloc _).alloc _) _ _ _
  simpa using this
 ·have:=(ownZeros ((w.alloc o).alloc (.cells (madeCells #[.int .i64 0] k) 2)) w.heap.size k h8 (by simp;omega))
  show Own (((w.alloc o).alloc _).alloc _) _ _ _
  simpa using this
theorem snewDisk_any (n:Int) (w:World):
  Calls Tryd.prog 20 #[.int .i64 n] w fun e w'=>∃a b,e=.returned (.tuple #[.agg #[a,b],.bool (cntOk n)])∧OwnD w' w.heap.size a b (zerosI n) (zerosI n)∧Below w.heap.size w w':=by
 by_cases hc:cntOk n=true
 ·obtain⟨k,rfl⟩:∃k:Nat,n=k:=⟨n.toNat,by simp[cntOk]at hc;omega⟩
  have h8:(1:Int)≤k∧(k:Int)≤8:=by simp[cntOk]at hc;omega
  have HZ:Hid (zerosI k=List.replicate k 0):=by simp only[Hid,zerosI];rw[if_pos (by omega)];simp
  rw[hc]
  obtain⟨h1,h8⟩:=h8
  have hm:∀w:World,(Instr.makeSlice 32 (.int .i64 (k:Int)) (.int .i64 (k:Int))).run Tryd.prog w=.ok (.slice (some ⟨w.heap.size,0,none⟩) k k) (w.alloc (.cells (madeCells #[.int .i64 0] k) 2)):=fun w=>run_make_row' 32 2 (.int .i64 0) 8 Tryd.underlying32 Tryd.infoI rfl .i64 .i64 k (by omega) (by omega) w
  clear hc
  go_enter Tryd.func20,Tryd.ntmps20
  go_wp2_with (go_at_call 21;go_in)
  go_region
  all_goals
   clear hm
   go_wp2_with fail
  ·refine bodyPost_ret (results_pair2 rfl _ _ w.heap.size _ _ _ rfl rfl (((Pair.new w _ _ _).alloc _).alloc _)) rfl ?_
   have Z:=twoZeros w (.cells #[.slice (some ⟨w.heap.size+1,0,none⟩) k k,.slice (some ⟨w.heap.size+1+1,0,none⟩) k k] 34) k (by omega)
   rw[HZ.out]
   exact⟨_,_,rfl,⟨Z.1,Z.2.1,.inr (by simp[Value.ownBlock]),.inr (by simp[Value.ownBlock])⟩,Z.2.2⟩
  ·refine bodyPost_ret (results_pair2 rfl _ _ w.heap.size _ _ _ rfl rfl (((Pair.new w _ _ _).alloc _).alloc _)) rfl ?_
   have Z:=twoZeros w (.cells #[.slice (some ⟨w.heap.size+1+1,0,none⟩) k k,.slice (some ⟨w.heap.size+1,0,none⟩) k k] 34) k (by omega)
   rw[HZ.out]
   exact⟨_,_,rfl,⟨Z.2.1,Z.1,.inr (by simp[Value.ownBlock]),.inr (by simp[Value.ownBlock])⟩,Z.2.2⟩
 ·have hc':cntOk n=false:=by simpa using hc
  have HZ:Hid (zerosI n=[]):=by simp[Hid,zerosI];simp[cntOk]at hc';omega
  have hn:¬1≤n∨¬n≤8:=by simp[cntOk]at hc';omega
  rw[hc']
  clear hc hc'
  have fin:∀w':World,Below w.heap.size w w'→OwnD w' w.heap.size (.slice none 0 0) (.slice none 0 0) (zerosI n) (zerosI n)∧Below w.heap.size w w':=fun w' b=>⟨by rw[HZ.out];exact ownNil2 _ _,b⟩
  rcases hn with hn|hn
  all_goals
   go_enter Tryd.func20,Tryd.ntmps20
   go_wp2_with (go_at_call 21;go_in)
   refine bodyPost_ret (results_pair2 rfl _ _ w.heap.size _ _ _ rfl rfl (Pair.new w _ _ _)) rfl ?_
   exact⟨_,_,rfl,fin _ (belowAlloc w _)⟩
end Go.Proofs.YthmnmaemnihkeaaDoor
namespace Go.Proofs.YthmnmaemnihkeaaDoor
open Go.ChangeShapes Go.WideShapes Go.ChangeAt Go.RowKit
theorem newS_yes {n:Int} (h:cntOk n=true):newS n=⟨zerosI n,zerosI n,Hd.new⟩:=by
 have e:(decide (1≤n)&&decide (n≤8))=true:=h
 unfold newS
 rw[e,if_pos rfl]
theorem newS_no {n:Int} (h:cntOk n=false):newS n=Sr.zero:=by
 have e:(decide (1≤n)&&decide (n≤8))=false:=h
 unfold newS
 rw[e]
 rfl
structure Dp (w wx:World) (u v q:Value) (h:Hd):Prop where
 st:StB wx w.heap.size 60 (srA u v q h)
 rs:StB wx (w.heap.size+1) 60 zeR
 bl:Below w.heap.size w wx
 sz:w.heap.size+2≤wx.heap.size
theorem Dp.next {w wx wy:World} {u v q:Value} {h:Hd} (d:Dp w wx u v q h) (b:Below wx.heap.size wx wy):Dp w wy u v q h:=
 ⟨d.st.below b,d.rs.below b,d.bl.trans (b.mono d.bl.size),Nat.le_trans d.sz b.size⟩
theorem Dp.grown {w wx wy:World} {u v q:Value} {h:Hd} {g:Nat} (d:Dp w wx u v q h) (b:wx.grownBy wy (some g)) (hg:w.heap.size+2≤g):Dp w wy u v q h:=
 ⟨d.st.kept b (by simp;omega),d.rs.kept b (by simp;omega),d.bl.grown b d.bl.size (fun k e=>by cases e;omega),Nat.le_trans d.sz b.size⟩
end Go.Proofs.YthmnmaemnihkeaaDoor
