/- A copier inside a block, behind a pointer to its first cell: what a hand on it leaves. -/
import Derived.Test.YthmnmaemnihkeaaDoorM14
import Derived.Test.YthmnmaemnihkeaaDoorM13
import Derived.Test.YthmnmaemnihkeaaDoorM7
import Derived.Test.YthmnmaemnihkeaaDoorM5
import Derived.Test.YthmnmaemnihkeaaDoorSta
namespace Go.Proofs.YthmnmaemnihkeaaDoor
open Go.ChangeShapes Go.WideShapes Go.ChangeAt Go.RowKit
theorem Turned.sub {w w':World} {bs cs:List Nat} (h:Turned w w' bs) (hs:∀b∈bs,b∈cs):Turned w w' cs:=
 ⟨h.os,h.tape,h.output,h.size,fun k hk hn=>h.block k hk (fun e=>hn (hs k e))⟩
theorem Turned.then {w w' w'':World} {bs:List Nat} (h:Turned w w' bs) (h':Turned w' w'' bs):Turned w w'' bs:=(h.trans h').sub (by simp)
theorem Turned.refl (w:World) (bs:List Nat):Turned w w bs:=(Turned.of_below (Below.refl _ _)).sub (by simp)
theorem Turned.below {w w':World} (bs:List Nat) (h:Below w.heap.size w w'):Turned w w' bs:=(Turned.of_below h).sub (by simp)
theorem Turned.belowAt {B:Nat} {w w':World} {bs:List Nat} (h:Turned w w' bs) (hb:∀b∈bs,B≤b) (hB:B≤w.heap.size):Below B w w':=
 ⟨h.os,h.tape,h.output,h.size,fun k hk=>h.block k (Nat.lt_of_lt_of_le hk hB) (fun e=>by have:=hb k e;omega)⟩
theorem Own.up {w:World} {base base':Nat} {v:Value} {xs:List Int} (h:Own w base v xs) (hb:∀k,v.ownBlock=some k→base'≤k):Own w base' v xs:=by
 refine⟨h.1,?_⟩
 rcases h.2 with h'|⟨g,cap,cur,rfl,hg,r⟩
 ·exact .inl h'
 ·exact .inr ⟨g,cap,cur,rfl,hb g rfl,r⟩
theorem StB.turned {w w':World} {g:Nat} {t:TypeId} {cs:Array Value} {bs:List Nat} (h:StB w g t cs) (ht:Turned w w' bs) (hn:g∉bs):StB w' g t cs:=(ht.block g h.lt hn).trans h
structure CpB (w:World) (g off:Nat) (t:TypeId) (cs:Array Value) (v:Value) (c:Cp):Prop where
 st:StB w g t cs
 i0:cs[off]?=some (.int .i64 c.tr)
 i1:cs[off+1]?=some (.bool c.op)
 i2:cs[off+2]?=some (.int .i64 c.di)
 i3:cs[off+3]?=some (.int .i64 c.wa)
 i4:cs[off+4]?=some v
 own:Own w 0 v c.ts
 ne:v.ownBlock≠some g
def cpPut (cs:Array Value) (off:Nat) (d w:Int):Array Value:=(cs.setIfInBounds (off+2) (.int .i64 d)).setIfInBounds (off+3) (.int .i64 w)
theorem put_same {cs:Array Value} {j:Nat} {x:Value} (h:cs[j]?=some x):cs.setIfInBounds j x=cs:=by
 apply Array.ext_getElem?
 intro i
 rw[Array.getElem?_setIfInBounds]
 split
 ·rename_i e;subst e
  have hlt:j<cs.size:=by
   rcases Nat.lt_or_ge j cs.size with hlt|hge
   ·exact hlt
   ·rw[Array.getElem?_eq_none hge]at h;cases h
  simp[hlt]at h⊢
  exact h.symm
 ·rfl
theorem cpPut_same {cs:Array Value} {off:Nat} {d w:Int} (h2:cs[off+2]?=some (.int .i64 d)) (h3:cs[off+3]?=some (.int .i64 w)):cpPut cs off d w=cs:=by
 unfold cpPut
 rw[put_same h2,put_same h3]
theorem CpB.below {w w':World} {g off:Nat} {t:TypeId} {cs:Array Value} {v:Value} {c:Cp} (h:CpB w g off t cs v c) (b:Below w.heap.size w w'):CpB w' g off t cs v c:=
 ⟨h.st.below b,h.i0,h.i1,h.i2,h.i3,h.i4,h.own.below b,h.ne⟩
theorem CpB.same {w:World} {g off:Nat} {t:TypeId} {cs:Array Value} {v:Value} {c:Cp} (h:CpB w g off t cs v c):CpB w g off t (cpPut cs off c.di c.wa) v c:=by
 rw[cpPut_same h.i2 h.i3];exact h
theorem CpB.cell {w:World} {g off:Nat} {t:TypeId} {cs:Array Value} {v:Value} {c:Cp} (h:CpB w g off t cs v c):
  w.cell? ⟨g,off,none⟩=some (.int .i64 c.tr)∧w.cell? ⟨g,off+1,none⟩=some (.bool c.op)∧w.cell? ⟨g,off+2,none⟩=some (.int .i64 c.di)∧w.cell? ⟨g,off+3,none⟩=some (.int .i64 c.wa)∧w.cell? ⟨g,off+4,none⟩=some v:=
 ⟨h.st.cell off h.i0,h.st.cell _ h.i1,h.st.cell _ h.i2,h.st.cell _ h.i3,h.st.cell _ h.i4⟩
end Go.Proofs.YthmnmaemnihkeaaDoor
set_option maxRecDepth 20000
set_option maxHeartbeats 1000000
namespace Go.Proofs.YthmnmaemnihkeaaDoor
open Go.ChangeShapes Go.WideShapes Go.ChangeAt Go.RowKit
theorem eqCopier_any (u v:Value) (c:Cp) (w:World) (hu:Reads w u c.ts) (hv:Reads w v c.ts) (hl:c.ts.length≤1099511627776):
  Calls Tryd.prog 45 #[CpV u c,CpV v c] w fun e w'=>e=.returned (.bool true)∧Below w.heap.size w w':=by
 obtain⟨w1,hw1⟩:∃w1,w1=(w.alloc (.cells (cpA u c) 40)).alloc (.cells (cpA v c) 40):=⟨_,rfl⟩
 have HB:Hid (Below w.heap.size w w1):=by rw[hw1];exact((Below.refl _ _).alloc (Nat.le_refl _) _).alloc (by simp) _
 have c1:=eq_any u v c.ts c.ts w1 (hu.below HB.out (Nat.le_refl _)) (hv.below HB.out (Nat.le_refl _)) hl
 rw[show decide (c.ts=c.ts)=true by simp]at c1
 obtain⟨ao,ca,rfl⟩:=reads_form hu
 obtain⟨bo,cb,rfl⟩:=reads_form hv
 have HW:Hid (w1=(w.alloc (.cells #[.int .i64 c.tr,.bool c.op,.int .i64 c.di,.int .i64 c.wa,.slice ao c.ts.length ca] 40)).alloc (.cells #[.int .i64 c.tr,.bool c.op,.int .i64 c.di,.int .i64 c.wa,.slice bo c.ts.length cb] 40)):=hw1
 clear hw1 hu hv hl
 unfold CpV cpA
 go_enter Tryd.func45,Tryd.ntmps45
 go_wp2_with fail
 rw[←HW.out]
 clear HW
 refine c1.mono ?_
 rintro e w3 ⟨rfl,n3,hw3⟩
 have B3:Hid (Below w.heap.size w w3):=by rw[hw3];exact below_drewN HB.out n3
 clear hw3 c1 HB
 go_wp2
 go_ret
 exact⟨rfl,B3.out⟩
end Go.Proofs.YthmnmaemnihkeaaDoor
set_option maxRecDepth 20000
set_option maxHeartbeats 400000
namespace Go.Proofs.YthmnmaemnihkeaaDoor
open Go.ChangeShapes Go.WideShapes Go.ChangeAt Go.RowKit
theorem mark0_any (v:Value) (k:Int) (w:World) (h:Reads w v []):
  Calls Tryd.prog 30 #[v,.int .i64 k] w fun e w'=>e=.returned (.int .i64 k)∧w'=w:=by
 obtain⟨ao,cap,e⟩:=reads_form h
 simp only[List.length_nil]at e
 subst e
 clear h
 go_enter Tryd.func30,Tryd.ntmps30
 go_wp2
 go_loop [1,5] (fun q i=>i=.int .i64 0∧q=.int .i64 k) (fun _ _=>0)
 case atStart=>exact⟨rfl,rfl⟩
 case round=>
  obtain⟨rfl,rfl⟩:=hrel
  go_wp2
  go_ret
  exact⟨rfl,rfl⟩
end Go.Proofs.YthmnmaemnihkeaaDoor
namespace Go.Proofs.YthmnmaemnihkeaaDoor
open Go.ChangeShapes Go.WideShapes Go.ChangeAt Go.RowKit
end Go.Proofs.YthmnmaemnihkeaaDoor
set_option maxRecDepth 20000
set_option maxHeartbeats 1000000
namespace Go.Proofs.YthmnmaemnihkeaaDoor
open Go.ChangeShapes Go.WideShapes Go.ChangeAt Go.RowKit
theorem eqSink_any (u v:Value) (c:Sn) (w:World) (hu:Reads w u c.ts) (hv:Reads w v c.ts) (hl:c.ts.length≤1099511627776):
  Calls Tryd.prog 46 #[SnV u c,SnV v c] w fun e w'=>e=.returned (.bool true)∧Below w.heap.size w w':=by
 obtain⟨w1,hw1⟩:∃w1,w1=(w.alloc (.cells (snA u c) 42)).alloc (.cells (snA v c) 42):=⟨_,rfl⟩
 have HB:Hid (Below w.heap.size w w1):=by rw[hw1];exact((Below.refl _ _).alloc (Nat.le_refl _) _).alloc (by simp) _
 have c1:=eq_any u v c.ts c.ts w1 (hu.below HB.out (Nat.le_refl _)) (hv.below HB.out (Nat.le_refl _)) hl
 rw[show decide (c.ts=c.ts)=true by simp]at c1
 obtain⟨ao,ca,rfl⟩:=reads_form hu
 obtain⟨bo,cb,rfl⟩:=reads_form hv
 have HW:Hid (w1=(w.alloc (.cells #[.int .i64 c.tr,.slice ao c.ts.length ca] 42)).alloc (.cells #[.int .i64 c.tr,.slice bo c.ts.length cb] 42)):=hw1
 clear hw1 hu hv hl
 unfold SnV snA
 go_enter Tryd.func46,Tryd.ntmps46
 go_wp2_with fail
 rw[←HW.out]
 clear HW
 refine c1.mono ?_
 rintro e w3 ⟨rfl,n3,hw3⟩
 have B3:Hid (Below w.heap.size w w3):=by rw[hw3];exact below_drewN HB.out n3
 clear hw3 c1 HB
 go_wp2
 go_ret
 exact⟨rfl,B3.out⟩
end Go.Proofs.YthmnmaemnihkeaaDoor
namespace Go.Proofs.YthmnmaemnihkeaaDoor
open Go.ChangeShapes Go.WideShapes Go.ChangeAt Go.RowKit
end Go.Proofs.YthmnmaemnihkeaaDoor
namespace Go.Proofs.YthmnmaemnihkeaaDoor
open Go.ChangeShapes Go.WideShapes Go.ChangeAt Go.RowKit
def Dsk (u v:Value) (xs ys:List Int):Item:=⟨u.ownBlock.toList++v.ownBlock.toList,0,fun w=>OwnD w 0 u v xs ys,fun _ _ e _ h=>⟨h.1.frame (fun b hb=>e b (List.mem_append_left _ hb)),h.2.1.frame (fun b hb=>e b (List.mem_append_right _ hb)),h.2.2⟩⟩
theorem Sta.disk {w wx wy:World} {L:List Item} {u v:Value} {xs ys:List Int} (h:Sta w wx L) (o:OwnD wy wx.heap.size u v xs ys) (b:Below wx.heap.size wx wy):Sta w wy (Dsk u v xs ys::L):=
 h.add b (Dsk u v xs ys) ⟨o.1.mono (Nat.zero_le _),o.2.1.mono (Nat.zero_le _),o.2.2⟩ (fun k hk=>by
  simp only[Dsk,List.mem_append,Option.mem_toList]at hk
  rcases hk with hk|hk
  ·exact o.1.lt k hk
  ·exact o.2.1.lt k hk)
theorem Marked.turned {w w':World} {u v:Value} (h:Marked w w' u v):Turned w w' (u.ownBlock.toList++v.ownBlock.toList):=by
 obtain⟨w1,g1,g2⟩:=h
 exact(Turned.of_grown g1).trans (Turned.of_grown g2)
theorem Sta.marked {w wx wy:World} {L:List Item} {u v:Value} {xs ys zs ts:List Int} (h:Sta w wx L) (n:Nat) (e:L[n]?=some (Dsk u v xs ys)) (o:OwnD wy 0 u v zs ts) (m:Marked wx wy u v):Sta w wy (L.set n (Dsk u v zs ts)):=
 h.turn n e m.turned (Dsk u v zs ts) rfl o
theorem Sta.readsU {w wx:World} {L:List Item} {u v:Value} {xs ys:List Int} (h:Sta w wx L) (n:Nat) (e:L[n]?=some (Dsk u v xs ys)):Reads wx u xs:=(h.get n e).1.reads
theorem Sta.readsV {w wx:World} {L:List Item} {u v:Value} {xs ys:List Int} (h:Sta w wx L) (n:Nat) (e:L[n]?=some (Dsk u v xs ys)):Reads wx v ys:=(h.get n e).2.1.reads
theorem Sta.ones {w wx:World} {L:List Item} {u v:Value} {xs ys:List Int} (h:Sta w wx L) (n:Nat) (e:L[n]?=some (Dsk u v xs ys)):(#[u,v]:Array Value).all (·.oneCell')=true:=pair_one (h.readsU n e).one (h.readsV n e).one
theorem apart_blocks {i j:List Nat} {u v:Value} (hi:i=u.ownBlock.toList) (hj:j=v.ownBlock.toList) (h:∀b∈i,b∉j):apart u v:=by
 subst hi hj
 refine⟨?_,?_⟩
 ·by_cases e:u.ownBlock=none
  ·exact .inl e
  ·refine .inr fun e2=>?_
   obtain⟨g,hg⟩:=Option.ne_none_iff_exists'.1 e
   exact h g (by simp[hg]) (by simp[←e2,hg])
 ·by_cases e:v.ownBlock=none
  ·exact .inl e
  ·refine .inr fun e2=>?_
   obtain⟨g,hg⟩:=Option.ne_none_iff_exists'.1 e
   exact h g (by simp[←e2,hg]) (by simp[hg])
theorem Sta.two {w wx:World} {L:List Item} {u v:Value} {xs ys:List Int} (h:Sta w wx (Lst u xs::Lst v ys::L)):Sta w wx (Dsk u v xs ys::L):=
 h.join (Dsk u v xs ys) rfl ⟨h.get 0 rfl,h.get 1 rfl,apart_blocks rfl rfl (h.apart.1 (Lst v ys) (by simp))⟩
end Go.Proofs.YthmnmaemnihkeaaDoor
