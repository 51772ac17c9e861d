/- Copiers by the model: l13Turns, CopierOk, Clean. -/
import Derived.Test.YthmnmaemnihkeaaDoorM11
import Derived.Test.YthmnmaemnihkeaaDoorM5
import Derived.Test.YthmnmaemnihkeaaDoorM6
import Derived.Test.YthmnmaemnihkeaaDoorM12
import Derived.Test.YthmnmaemnihkeaaDoorM2
import Derived.Test.YthmnmaemnihkeaaDoorSta
import Derived.Test.YthmnmaemnihkeaaDoorM4
import Derived.BigRegion
import Derived.Deep.RegionHeld3
import Derived.Deep.DeepCutAuto
import Derived.Test.YthmnmaemnihkeaaDoorM9
import Derived.Test.YthmnmaemnihkeaaDoorM3
import Derived.Test.YthmnmaemnihkeaaDoorM10
namespace Go.Proofs.YthmnmaemnihkeaaDoor
open Go.ChangeShapes Go.WideShapes Go.ChangeAt Go.RowKit
def cpA (v:Value) (c:Cp):Array Value:=#[.int .i64 c.tr,.bool c.op,.int .i64 c.di,.int .i64 c.wa,v]
def CpV (v:Value) (c:Cp):Value:=.agg (cpA v c)
end Go.Proofs.YthmnmaemnihkeaaDoor
namespace Go.Proofs.YthmnmaemnihkeaaDoor
open Go.ChangeShapes Go.WideShapes Go.ChangeAt Go.RowKit
def snA (v:Value) (c:Sn):Array Value:=#[.int .i64 c.tr,v]
def SnV (v:Value) (c:Sn):Value:=.agg (snA v c)
def zeroSn:Array Value:=#[.int .i64 0,.slice none 0 0]
end Go.Proofs.YthmnmaemnihkeaaDoor
set_option maxRecDepth 20000
set_option maxHeartbeats 1000000
namespace Go.Proofs.YthmnmaemnihkeaaDoor
open Go.ChangeShapes Go.WideShapes Go.ChangeAt Go.RowKit
theorem srecok_any (r:Rc) (w:World):
  Calls Tryd.prog 33 #[RV r] w fun e w'=>e=.returned (.bool r.ok)∧Below w.heap.size w w':=by
 have c1:=fun wx=>sepoch_any r.e wx
 have c2:=fun wx=>sinN_any r.s 1 3 wx
 have c3:=fun wx=>sepoch_any r.t wx
 have c4:=fun wx=>sepoch_any r.n wx
 have hst:(decide (1≤r.s)&&decide (r.s≤3))=stI r.s:=rfl
 simp only[hst]at c2
 have hok:r.ok=(epI r.e&&stI r.s&&epI r.t&&epI r.n):=rfl
 rw[hok]
 have hb:Below w.heap.size w (w.alloc (.cells (recA r) 38)):=(Below.refl _ _).alloc (Nat.le_refl _) _
 obtain⟨x1,x2,x3,x4⟩:=r
 dsimp only at c1 c2 c3 c4⊢
 unfold RV recA at*
 dsimp only at hb⊢
 obtain⟨b1,h1⟩:∃b,b=epI x1:=⟨_,rfl⟩
 obtain⟨b2,h2⟩:∃b,b=stI x2:=⟨_,rfl⟩
 obtain⟨b3,h3⟩:∃b,b=epI x3:=⟨_,rfl⟩
 obtain⟨b4,h4⟩:∃b,b=epI x4:=⟨_,rfl⟩
 simp only[←h1,←h2,←h3,←h4]at c1 c2 c3 c4⊢
 clear h1 h2 h3 h4 hok hst
 go_enter Tryd.func33,Tryd.ntmps33
 go_wp2_with fail
 refine(c1 _).mono ?_
 rintro e w' ⟨rfl,hw⟩;subst w'
 cases b1 with
 |false=>
  go_wp2_with fail
  go_ret
  exact⟨rfl,hb⟩
 |true=>
  go_wp2_with fail
  refine(c2 _).mono ?_
  rintro e w' ⟨rfl,hw⟩;subst w'
  cases b2 with
  |false=>
   go_wp2_with fail
   go_ret
   exact⟨rfl,hb⟩
  |true=>
   go_wp2_with fail
   refine(c3 _).mono ?_
   rintro e w' ⟨rfl,hw⟩;subst w'
   cases b3 with
   |false=>
    go_wp2_with fail
    go_ret
    exact⟨rfl,hb⟩
   |true=>
    go_wp2_with fail
    refine(c4 _).mono ?_
    rintro e w' ⟨rfl,hw⟩;subst w'
    go_wp2_with fail
    go_ret
    exact⟨rfl,hb⟩
theorem irecok_any (r:Rc) (w:World):
  Calls Tryd.prog 40 #[RV r] w fun e w'=>e=.returned (.bool r.ok)∧Below w.heap.size w w':=by
 have c1:=fun wx=>iepoch_any r.e wx
 have c2:=fun wx=>istate_any r.s wx
 have c3:=fun wx=>iepoch_any r.t wx
 have c4:=fun wx=>iepoch_any r.n wx
 have hok:r.ok=(epI r.e&&stI r.s&&epI r.t&&epI r.n):=rfl
 rw[hok]
 have hb:Below w.heap.size w (w.alloc (.cells (recA r) 38)):=(Below.refl _ _).alloc (Nat.le_refl _) _
 obtain⟨x1,x2,x3,x4⟩:=r
 dsimp only at c1 c2 c3 c4⊢
 unfold RV recA at*
 dsimp only at hb⊢
 obtain⟨b1,h1⟩:∃b,b=epI x1:=⟨_,rfl⟩
 obtain⟨b2,h2⟩:∃b,b=stI x2:=⟨_,rfl⟩
 obtain⟨b3,h3⟩:∃b,b=epI x3:=⟨_,rfl⟩
 obtain⟨b4,h4⟩:∃b,b=epI x4:=⟨_,rfl⟩
 simp only[←h1,←h2,←h3,←h4]at c1 c2 c3 c4⊢
 clear h1 h2 h3 h4 hok
 go_enter Tryd.func40,Tryd.ntmps40
 go_wp2_with fail
 refine(c1 _).mono ?_
 rintro e w' ⟨rfl,hw⟩;subst w'
 cases b1 with
 |false=>
  go_wp2_with fail
  go_ret
  exact⟨rfl,hb⟩
 |true=>
  go_wp2_with fail
  refine(c2 _).mono ?_
  rintro e w' ⟨rfl,hw⟩;subst w'
  cases b2 with
  |false=>
   go_wp2_with fail
   go_ret
   exact⟨rfl,hb⟩
  |true=>
   go_wp2_with fail
   refine(c3 _).mono ?_
   rintro e w' ⟨rfl,hw⟩;subst w'
   cases b3 with
   |false=>
    go_wp2_with fail
    go_ret
    exact⟨rfl,hb⟩
   |true=>
    go_wp2_with fail
    refine(c4 _).mono ?_
    rintro e w' ⟨rfl,hw⟩;subst w'
    go_wp2_with fail
    go_ret
    exact⟨rfl,hb⟩
theorem Tryd.infoR:(Tryd.prog.info? 38).map (·.size)=some 4:=by kernel_rfl
theorem Tryd.underR:∃fs,Tryd.prog.underlying 38=some (.struct fs):=⟨_,Tryd.underlying38⟩
def RecB (w:World) (g:Nat) (t:TypeId) (r:Rc):Prop:=w.heap[g]?=some (.cells (recA r) t (0,0))
theorem RecB.lt {w:World} {g:Nat} {t:TypeId} {r:Rc} (h:RecB w g t r):g<w.heap.size:=by
 rcases Nat.lt_or_ge g w.heap.size with hlt|hge
 ·exact hlt
 ·rw[RecB,Array.getElem?_eq_none hge]at h;cases h
theorem RecB.new (w:World) (t:TypeId) (r:Rc):RecB (w.alloc (.cells (recA r) t)) w.heap.size t r:=heap_alloc_new w _
theorem RecB.below {w w':World} {g:Nat} {t:TypeId} {r:Rc} (h:RecB w g t r) (hb:Below w.heap.size w w'):RecB w' g t r:=(hb.block g h.lt).trans h
theorem RecB.kept {w w':World} {g:Nat} {t:TypeId} {r:Rc} {row:Option Nat} (h:RecB w g t r) (hg:w.grownBy w' row) (hne:some g≠row):RecB w' g t r:=(hg.block g h.lt hne).trans h
theorem RecB.alloc {w:World} {g:Nat} {t:TypeId} {r:Rc} (h:RecB w g t r) (o:Obj):RecB (w.alloc o) g t r:=(Below.heap_alloc w o g h.lt).trans h
theorem RecB.cell {w:World} {g:Nat} {t:TypeId} {r:Rc} (h:RecB w g t r) (j:Nat) {x:Value} (e:(recA r)[j]?=some x):w.cell? ⟨g,j,none⟩=some x:=by rw[cell_of_row w g j _ _ _ h,e]
theorem wpList_getR {ops:Array Oper} {rest:List Oper} {o:Oper} {a:Act} {w:World} {Q:Exit→Act→World→Prop} (hgd:o.guard=none) (x:Operand) (ho:o.op=.load 38 x)
  (g:Nat) (hx:a.eval x=.pointer (some ⟨g,0,none⟩)) (r:Rc) (hr:RecB w g 38 r)
  (h:wpList Tryd.prog ops Q rest (a.put o.dst (RV r)) w):wpList Tryd.prog ops Q (o::rest) a w:=by
 obtain⟨fs,hu⟩:=Tryd.underR
 exact wpList_load_row hgd _ x ho g hx _ _ _ _ hr hu rfl Tryd.infoR h
theorem eqRecord_any (r q:Rc) (w:World):
  Calls Tryd.prog 44 #[RV r,RV q] w fun e w'=>e=.returned (.bool (sameR r q))∧Below w.heap.size w w':=by
 have hb:Below w.heap.size w ((w.alloc (.cells (recA r) 38)).alloc (.cells (recA q) 38)):=((Below.refl _ _).alloc (Nat.le_refl _) _).alloc (by simp) _
 obtain⟨a1,a2,a3,a4⟩:=r
 obtain⟨b1,b2,b3,b4⟩:=q
 have hd:sameR ⟨a1,a2,a3,a4⟩ ⟨b1,b2,b3,b4⟩=(decide (a1=b1)&&decide (a2=b2)&&decide (a3=b3)&&decide (a4=b4)):=rfl
 rw[hd]
 clear hd
 unfold RV recA at*
 dsimp only at hb⊢
 by_cases h1:a1=b1
 ·by_cases h2:a2=b2
  ·by_cases h3:a3=b3
   ·by_cases h4:a4=b4
    ·subst h1 h2 h3 h4
     go_enter Tryd.func44,Tryd.ntmps44
     go_wp2
     go_ret
     exact⟨ret_bool (by simp),hb⟩
    ·have hn:(a4 !=b4)=true:=by simpa using h4
     have he:decide (a4=b4)=false:=by simpa using h4
     rw[he]
     subst h1 h2 h3
     go_enter Tryd.func44,Tryd.ntmps44
     go_wp2
     go_ret
     exact⟨ret_bool (by simp),hb⟩
   ·have hn:(a3 !=b3)=true:=by simpa using h3
    have he:decide (a3=b3)=false:=by simpa using h3
    rw[he]
    subst h1 h2
    go_enter Tryd.func44,Tryd.ntmps44
    go_wp2
    go_ret
    exact⟨ret_bool (by simp),hb⟩
  ·have hn:(a2 !=b2)=true:=by simpa using h2
   have he:decide (a2=b2)=false:=by simpa using h2
   rw[he]
   subst h1
   go_enter Tryd.func44,Tryd.ntmps44
   go_wp2
   go_ret
   exact⟨ret_bool (by simp),hb⟩
 ·have hn:(a1 !=b1)=true:=by simpa using h1
  have he:decide (a1=b1)=false:=by simpa using h1
  rw[he]
  go_enter Tryd.func44,Tryd.ntmps44
  go_wp2
  go_ret
  exact⟨ret_bool (by simp),hb⟩
end Go.Proofs.YthmnmaemnihkeaaDoor
namespace Go.Proofs.YthmnmaemnihkeaaDoor
open Go.ChangeShapes Go.WideShapes Go.ChangeAt Go.RowKit
end Go.Proofs.YthmnmaemnihkeaaDoor
namespace Go.Proofs.YthmnmaemnihkeaaDoor
open Go.ChangeShapes Go.WideShapes Go.ChangeAt Go.RowKit
def Lss (v:Value) (xs:List Bs):Item:=⟨v.ownBlock.toList,0,fun w=>OwnS w 0 v xs,fun _ _ e _ h=>OwnS.frame h e⟩
theorem Sta.texts {w wx wy:World} {L:List Item} {v:Value} {xs:List Bs} (h:Sta w wx L) (o:OwnS wy wx.heap.size v xs) (b:Below wx.heap.size wx wy):Sta w wy (Lss v xs::L):=
 h.add b (Lss v xs) (o.mono (Nat.zero_le _)) (fun k hk=>o.lt k (by simpa[Lss]using hk))
theorem ReadsS.take {w:World} {ao:Option Addr} {n cap:Nat} {xs:List Bs} (h:ReadsS w (.slice ao n cap) xs) (m:Nat) (hm:m≤xs.length):ReadsS w (.slice ao m cap) (xs.take m):=by
 obtain⟨ao',cap',e,h1,h2,h4⟩:=h
 cases e
 have hl:(xs.take m).length=m:=by simp[Nat.min_eq_left hm]
 refine⟨ao,cap,by rw[hl],by rw[hl];omega,h2,?_⟩
 rcases h4 with rfl|⟨b,off,e,h4⟩
 ·exact .inl (by simp)
 ·refine .inr ⟨b,off,e,fun j hj=>?_⟩
  rw[hl]at hj
  rw[h4 j (by omega)]
  simp[hj]
end Go.Proofs.YthmnmaemnihkeaaDoor
namespace Go.Proofs.YthmnmaemnihkeaaDoor
open Go.ChangeShapes Go.WideShapes Go.ChangeAt Go.RowKit
end Go.Proofs.YthmnmaemnihkeaaDoor
namespace Go.Proofs.YthmnmaemnihkeaaDoor
open Go.ChangeShapes Go.WideShapes Go.ChangeAt Go.RowKit
end Go.Proofs.YthmnmaemnihkeaaDoor
namespace Go.Proofs.YthmnmaemnihkeaaDoor
open Go.ChangeShapes Go.WideShapes Go.ChangeAt Go.RowKit
def ndA (a b k q z:Value) (n:Nd):Array Value:=#[.int .i64 n.id,.bool n.up,a,b,k,.int .i64 n.h.kd,.int .i64 n.h.ho,.int .i64 n.h.tu,S n.log,.int .i64 n.r.e,.int .i64 n.r.s,.int .i64 n.r.t,.int .i64 n.r.n,.int .i64 n.c.tr,.bool n.c.op,.int .i64 n.c.di,.int .i64 n.c.wa,q,.int .i64 n.s.tr,z]
def NdV (a b k q z:Value) (n:Nd):Value:=.agg (ndA a b k q z n)
theorem Tryd.isNd:IsS 44 20:=⟨⟨_,Tryd.underlying44⟩,by kernel_rfl⟩
structure RdN (w:World) (a b k q z:Value) (n:Nd):Prop where
 ra:Reads w a n.xs
 rb:Reads w b n.ys
 rk:Reads w k n.h.ks
 rq:Reads w q n.c.ts
 rz:Reads w z n.s.ts
structure SmN (n:Nd):Prop where
 la:n.xs.length≤1048576
 lb:n.ys.length≤1048576
 lk:n.h.ks.length≤1048576
 lq:n.c.ts.length≤1048576
 lz:n.s.ts.length≤1048576
 ll:n.log.length≤1048576
theorem RdN.below {w w':World} {a b k q z:Value} {n:Nd} (h:RdN w a b k q z n) (B:Below w.heap.size w w'):RdN w' a b k q z n:=⟨h.ra.below B (Nat.le_refl _),h.rb.below B (Nat.le_refl _),h.rk.below B (Nat.le_refl _),h.rq.below B (Nat.le_refl _),h.rz.below B (Nat.le_refl _)⟩
end Go.Proofs.YthmnmaemnihkeaaDoor
namespace Go.Proofs.YthmnmaemnihkeaaDoor
open Go.ChangeShapes Go.WideShapes Go.ChangeAt Go.RowKit
def mgA (v:Value) (m:Mg):Array Value:=#[.int .i64 m.dst,.int .i64 m.kd,.int .i64 m.tr,.int .i64 m.pl,.int .i64 m.tn,.int .i64 m.va,.int .i64 m.ep,v,.int .i64 m.h.kd,.int .i64 m.h.ho,.int .i64 m.h.tu]
def MgV (v:Value) (m:Mg):Value:=.agg (mgA v m)
def zeroMg:Array Value:=#[.int .i64 0,.int .i64 0,.int .i64 0,.int .i64 0,.int .i64 0,.int .i64 0,.int .i64 0,.slice none 0 0,.int .i64 0,.int .i64 0,.int .i64 0]
end Go.Proofs.YthmnmaemnihkeaaDoor
