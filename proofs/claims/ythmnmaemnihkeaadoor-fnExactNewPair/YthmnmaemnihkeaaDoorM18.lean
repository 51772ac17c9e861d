/- Arrays of eight numbers compared; the set's own methods. -/
import Derived.Test.YthmnmaemnihkeaaDoorM17
import Derived.Laws.StructEq
import Derived.Test.YthmnmaemnihkeaaDoorM7
import Derived.ArgAppend
import Derived.Laws.CopyOwn
import Derived.Test.YthmnmaemnihkeaaDoorM4
import Derived.Test.YthmnmaemnihkeaaDoorM5
import Derived.Test.YthmnmaemnihkeaaDoorM6
import Derived.MapKept
import Derived.Carry
import Derived.OwnWalk
import Derived.Deep.RegionHeld3
import Derived.Deep.DeepCutAuto
import Derived.Test.YthmnmaemnihkeaaDoorM14
import Derived.Test.YthmnmaemnihkeaaDoorM2
import Derived.Test.YthmnmaemnihkeaaDoorMem
import Derived.Test.YthmnmaemnihkeaaDoorM9
namespace Go.Proofs.YthmnmaemnihkeaaDoor
open Go.ChangeShapes Go.WideShapes Go.ChangeAt Go.RowKit
end Go.Proofs.YthmnmaemnihkeaaDoor
namespace Go.Proofs.YthmnmaemnihkeaaDoor
open Go.ChangeShapes Go.WideShapes Go.ChangeAt Go.RowKit
end Go.Proofs.YthmnmaemnihkeaaDoor
namespace Go.Proofs.YthmnmaemnihkeaaDoor
open Go.ChangeShapes Go.WideShapes Go.ChangeAt Go.RowKit
end Go.Proofs.YthmnmaemnihkeaaDoor
set_option maxRecDepth 20000
set_option maxHeartbeats 1000000
namespace Go.Proofs.YthmnmaemnihkeaaDoor
open Go.ChangeShapes Go.WideShapes Go.ChangeAt Go.RowKit
theorem newDisk_any (n:Int) (w:World):
  Calls Tryd.prog 36 #[.int .i64 n] w fun e w'=>∃a b,e=.returned (.tuple #[.agg #[a,b],.bool (cntOk n)])∧OwnD w' w.heap.size a b (zerosI n) (zerosI n)∧Below w.heap.size w w':=by
 obtain⟨w1,hw1⟩:∃w1,w1=w.alloc (.cells #[.slice none 0 0,.slice none 0 0] 34):=⟨_,rfl⟩
 have p1:Pair w1 w.heap.size 34 (.slice none 0 0) (.slice none 0 0):=by rw[hw1];exact Pair.new w _ _ _
 have b1:Below w.heap.size w w1:=by rw[hw1];exact belowAlloc w _
 have hs1:w.heap.size<w1.heap.size:=by rw[hw1];simp
 by_cases hc:cntOk n=true
 ·rw[hc]
  obtain⟨zs,hz⟩:∃zs,zs=zerosI n:=⟨_,rfl⟩
  have c2:∀w',_:=fun w'=>new_any8 n w'
  rw[←hz]at c2⊢
  have c1:=cnt_any n w1
  rw[hc]at c1
  clear hz hc
  go_enter Tryd.func36,Tryd.ntmps36
  go_wp2_with fail
  rw[←hw1]
  clear hw1
  refine c1.mono ?_
  rintro e w' ⟨rfl,hw⟩;subst w'
  go_wp2_with fail
  refine(c2 w1).mono ?_
  rintro e w2 ⟨a,rfl,o2,b2⟩
  have HS:Hid (w.heap.size<w1.heap.size∧w1.heap.size≤w2.heap.size):=⟨hs1,b2.size⟩
  replace p1:=p1.below b2
  replace b1:=b1.trans (b2.mono b1.size)
  clear b2 c1 hs1
  go_wp2_with fail
  refine(c2 w2).mono ?_
  rintro e w3 ⟨b,rfl,o3,b3⟩
  have hap:=apart_of o2 o3 (Nat.le_refl _)
  replace o2:=o2.below b3
  replace p1:=p1.below b3
  replace b1:=b1.trans (b3.mono b1.size)
  obtain⟨ao,ca,hea⟩:=o2.reads.form
  obtain⟨bo,cb,heb⟩:=o3.reads.form
  subst hea heb
  have HO:Hid (Own w3 w1.heap.size _ zs∧Own w3 w2.heap.size _ zs∧apart _ _∧Below w.heap.size w w3):=⟨o2,o3,hap,b1⟩
  clear o2 o3 hap b1 b3 c2
  go_wp2_with (refine wpList_putP rfl _ _ rfl w.heap.size _ _ _ _ rfl rfl rfl rfl p1 ?_;intro w4 p4 g4)
  refine bodyPost_ret (results_pair2 rfl _ _ w.heap.size _ _ _ rfl rfl p4) rfl ?_
  obtain⟨o2,o3,hap,b1⟩:=HO.out
  have hs:=HS.out
  exact⟨_,_,rfl,⟨(o2.keptLt g4 (by omega)).mono (by omega),(o3.keptLt g4 (by omega)).mono (by omega),hap⟩,b1.grown g4 b1.size (fun k e=>by cases e;omega)⟩
 ·have hc':cntOk n=false:=by simpa using hc
  have HZ:Hid (zerosI n=[]):=by simp[Hid,zerosI];simp[cntOk]at hc';omega
  have c1:=cnt_any n w1
  rw[hc']at c1⊢
  clear hc hc'
  go_enter Tryd.func36,Tryd.ntmps36
  go_wp2_with fail
  rw[←hw1]
  clear hw1
  refine c1.mono ?_
  rintro e w' ⟨rfl,hw⟩;subst w'
  clear c1
  go_wp2_with (refine wpList_putP rfl _ _ rfl w.heap.size _ _ _ _ rfl rfl rfl rfl p1 ?_;intro w4 p4 g4)
  refine bodyPost_ret (results_pair2 rfl _ _ w.heap.size _ _ _ rfl rfl p4) rfl ?_
  rw[HZ.out]
  exact⟨_,_,rfl,ownNil2 _ _,b1.grown g4 b1.size (fun k e=>by cases e;omega)⟩
end Go.Proofs.YthmnmaemnihkeaaDoor
namespace Go.Proofs.YthmnmaemnihkeaaDoor
open Go.ChangeShapes Go.WideShapes Go.ChangeAt Go.RowKit
def kA (f:Nat→Int):Array Value:=#[.int .i64 (f 0),.int .i64 (f 1),.int .i64 (f 2),.int .i64 (f 3)]
theorem four {p:Nat→Prop} (h0:p 0) (h1:p 1) (h2:p 2) (h3:p 3):∀j,j<4→p j
 |0,_=>h0|1,_=>h1|2,_=>h2|3,_=>h3
 |_+4,h=>by omega
end Go.Proofs.YthmnmaemnihkeaaDoor
set_option maxRecDepth 20000
set_option maxHeartbeats 1000000
namespace Go.Proofs.YthmnmaemnihkeaaDoor
open Go.ChangeShapes Go.WideShapes Go.ChangeAt Go.RowKit
theorem kA_at (f:Nat→Int):∀j,j<4→(kA f)[j]?=some (.int .i64 (f j)):=four rfl rfl rfl rfl
def listK (f:Nat→Int):List Int:=[f 0,f 1,f 2,f 3]
theorem ilistK_any (f:Nat→Int) (w:World):
  Calls Tryd.prog 64 #[.agg (kA f)] w fun e w'=>∃u,e=.returned u∧Own w' w.heap.size u (listK f)∧Below w.heap.size w w':=by
 obtain⟨i0,hi,hz0,hz1,hz2⟩:=info_parts Tryd.infoI
 obtain⟨w1,hw1⟩:∃w1,w1=(w.alloc (.cells (kA f) 89)).alloc (.cells #[] 2):=⟨_,rfl⟩
 have hown:w1.ownsRow w.heap.size 2 1 (.slice (some ⟨w.heap.size+1,0,none⟩) 0 0) 0 []:=by
  have:=World.ownsRow_lit (base:=w.heap.size) (e:=2) (size:=1) (w.alloc (.cells (kA f) 89)) #[] 0 (by simp) (Nat.zero_le _) rfl
  rw[hw1]
  simpa using this
 have hrow:StB w1 w.heap.size 89 (kA f):=by rw[hw1];exact(StB.new w _ _).alloc _
 have hnews:∀j u,((listK f).map (Value.int .i64))[j]?=some u→w1.cell? ((⟨w.heap.size,0,none⟩:Addr).add j)=some u:=by
  intro j u hj
  have hlt:j<4:=by
   rcases Nat.lt_or_ge j 4 with h|h
   ·exact h
   ·rw[List.getElem?_eq_none (by simpa[listK]using h)]at hj;cases hj
  rw[show(⟨w.heap.size,0,none⟩:Addr).add j=⟨w.heap.size,j,none⟩ by unfold Addr.add;split<;>simp_all]
  rw[hrow.cell j (kA_at f j hlt)]
  rw[←hj]
  exact four (p:=fun j=>some (Value.int .i64 (f j))=((listK f).map (Value.int .i64))[j]?) rfl rfl rfl rfl j hlt
 have hone:∀u∈(listK f).map (Value.int .i64),u.oneCell'=true:=by
  intro u hu
  obtain⟨x,_,rfl⟩:=List.mem_map.1 hu
  rfl
 have hll:((listK f).map (Value.int .i64)).length=4*1:=rfl
 have hb1:Below w.heap.size w w1:=by rw[hw1];exact((Below.refl _ _).alloc (Nat.le_refl _) _).alloc (by simp) _
 go_enter Tryd.func64,Tryd.ntmps64
 go_wp2_with (at_builtin;rw[←hw1];refine wpList_append_own _ rfl _ _ 32 rfl w.heap.size 2 i0 (.int .i64 0) 1 8 Tryd.underlying32 hi hz0 hz1 hz2 rfl (by decide) _ _ _ rfl hown _ 4 4 ((listK f).map (Value.int .i64)) rfl hll hnews hone (by unfold maxLen;omega) (by omega) hb1.size ?_)
 intro v' w2 hown' hgrow _
 rw[←hw1]at hgrow
 have HG:Hid (Below w.heap.size w w2):=hb1.grown hgrow hb1.size (fun g e=>by simp[Value.ownBlock]at e;omega)
 go_wp2
 go_ret
 refine⟨_,rfl,?_,HG.out⟩
 unfold Own
 simpa[show(listK f).length=4 from rfl]using hown'
end Go.Proofs.YthmnmaemnihkeaaDoor
namespace Go.Proofs.YthmnmaemnihkeaaDoor
open Go.ChangeShapes Go.WideShapes Go.ChangeAt Go.RowKit
def keyB (x y:Bool):Value:=.agg #[.bool x,.bool y]
def entB (p:Bool×Bool×Nat):MapEntry:=⟨keyB p.1 p.2.1,.int .i64 1,p.2.2⟩
def hasBK (l:List (Bool×Bool×Nat)) (x y:Bool):Bool:=l.any fun p=>x==p.1&&y==p.2.1
def ApartB (l:List (Bool×Bool×Nat)):Prop:=l.Pairwise fun p q=>(p.1==q.1&&p.2.1==q.2.1)=false
def MB (w:World) (b:Nat) (t:Bool→Bool→Bool):Prop:=
 ∃l clock,w.heap[b]?=some (.map (l.map entB).toArray clock)∧ApartB l∧∀x y,hasBK l x y=t x y
theorem MB.of (w w':World) (b:Nat) (t:Bool→Bool→Bool) (h:MB w b t) (e:w'.heap[b]?=w.heap[b]?):MB w' b t:=by
 obtain⟨l,c,hb,ha,ht⟩:=h
 exact⟨l,c,e.trans hb,ha,ht⟩
theorem MB.lt {w:World} {b:Nat} {t:Bool→Bool→Bool} (h:MB w b t):b<w.heap.size:=by
 obtain⟨l,c,hb,_,_⟩:=h
 exact(Array.getElem?_eq_some_iff.1 hb).1
end Go.Proofs.YthmnmaemnihkeaaDoor
namespace Go.Proofs.YthmnmaemnihkeaaDoor
open Go.ChangeShapes Go.WideShapes Go.ChangeAt Go.RowKit
def MBB (w0 w:World) (b:Nat) (t:Bool→Bool→Bool):Prop:=MB w b t∧Below w0.heap.size w0 w∧w0.heap.size≤b
theorem MBB.grown {w0 w w':World} {b:Nat} {t s:Bool→Bool→Bool} (h:MBB w0 w b t) (hm:MB w' b s) (hg:w.grownBy w' (some b)):MBB w0 w' b s:=
 ⟨hm,h.2.1.grown hg h.2.1.size (fun k e=>by cases e;exact h.2.2),h.2.2⟩
theorem MBB.below {w0 w w':World} {b:Nat} {t:Bool→Bool→Bool} (h:MBB w0 w b t) (hb:Below w.heap.size w w'):MBB w0 w' b t:=
 ⟨MB.of w w' b t h.1 (hb.block b h.1.lt),h.2.1.trans (hb.mono h.2.1.size),h.2.2⟩
end Go.Proofs.YthmnmaemnihkeaaDoor
namespace Go.Proofs.YthmnmaemnihkeaaDoor
open Go.ChangeShapes Go.WideShapes Go.ChangeAt Go.RowKit
end Go.Proofs.YthmnmaemnihkeaaDoor
namespace Go.Proofs.YthmnmaemnihkeaaDoor
open Go.ChangeShapes Go.WideShapes Go.ChangeAt Go.RowKit
def heA (f:Nat→Int) (kd ho tu:Int):Array Value:=#[.int .i64 (f 0),.int .i64 (f 1),.int .i64 (f 2),.int .i64 (f 3),.int .i64 kd,.int .i64 ho,.int .i64 tu]
theorem heA_cells {w:World} {g:Nat} {f:Nat→Int} {kd ho tu:Int} (h:StB w g 91 (heA f kd ho tu)):
  w.cell? ⟨g,0,none⟩=some (.int .i64 (f 0))∧w.cell? ⟨g,1,none⟩=some (.int .i64 (f 1))∧w.cell? ⟨g,2,none⟩=some (.int .i64 (f 2))∧w.cell? ⟨g,3,none⟩=some (.int .i64 (f 3))∧w.cell? ⟨g,4,none⟩=some (.int .i64 kd)∧w.cell? ⟨g,5,none⟩=some (.int .i64 ho)∧w.cell? ⟨g,6,none⟩=some (.int .i64 tu):=
 ⟨h.cell 0 rfl,h.cell 1 rfl,h.cell 2 rfl,h.cell 3 rfl,h.cell 4 rfl,h.cell 5 rfl,h.cell 6 rfl⟩
end Go.Proofs.YthmnmaemnihkeaaDoor
namespace Go.Proofs.YthmnmaemnihkeaaDoor
open Go.ChangeShapes Go.WideShapes Go.ChangeAt Go.RowKit
end Go.Proofs.YthmnmaemnihkeaaDoor
namespace Go.Proofs.YthmnmaemnihkeaaDoor
open Go.ChangeShapes Go.WideShapes Go.ChangeAt Go.RowKit
end Go.Proofs.YthmnmaemnihkeaaDoor
namespace Go.Proofs.YthmnmaemnihkeaaDoor
open Go.ChangeShapes Go.WideShapes Go.ChangeAt Go.RowKit
end Go.Proofs.YthmnmaemnihkeaaDoor
namespace Go.Proofs.YthmnmaemnihkeaaDoor
open Go.ChangeShapes Go.WideShapes Go.ChangeAt Go.RowKit
end Go.Proofs.YthmnmaemnihkeaaDoor
set_option maxRecDepth 20000
set_option maxHeartbeats 400000
namespace Go.Proofs.YthmnmaemnihkeaaDoor
open Go.ChangeShapes Go.WideShapes Go.ChangeAt Go.RowKit
theorem iidok_any (x:Int) (w:World):
  Calls Tryd.prog 25 #[.int .i64 x] w fun e w'=>e=.returned (.bool (inI x 0 1))∧w'=w:=by
 by_cases h0:0≤x
 ·by_cases h1:x≤1
  ·rw[show inI x 0 1=true by simp[inI,h0,h1]]
   go_enter Tryd.func25,Tryd.ntmps25
   go_wp2
   go_ret
   exact⟨ret_bool (by simp<;>omega),rfl⟩
  ·rw[show inI x 0 1=false by simp[inI];omega]
   go_enter Tryd.func25,Tryd.ntmps25
   go_wp2
   go_ret
   exact⟨ret_bool (by simp<;>omega),rfl⟩
 ·rw[show inI x 0 1=false by simp[inI];omega]
  go_enter Tryd.func25,Tryd.ntmps25
  go_wp2
  go_ret
  exact⟨ret_bool (by simp<;>omega),rfl⟩
end Go.Proofs.YthmnmaemnihkeaaDoor
namespace Go.Proofs.YthmnmaemnihkeaaDoor
open Go.ChangeShapes Go.WideShapes Go.ChangeAt Go.RowKit
end Go.Proofs.YthmnmaemnihkeaaDoor
namespace Go.Proofs.YthmnmaemnihkeaaDoor
open Go.ChangeShapes Go.WideShapes Go.ChangeAt Go.RowKit
end Go.Proofs.YthmnmaemnihkeaaDoor
