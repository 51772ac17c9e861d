/- The walk of a region that draws its order (Giv), behind a structure: what is left of the walk is not unfolded by whoever looks at the goal. -/
import Derived.Test.YthmnmaemnihkeaaDoorGiv
import Derived.Test.YthmnmaemnihkeaaDoorM14
import Derived.Test.YthmnmaemnihkeaaDoorM16
import Derived.Test.YthmnmaemnihkeaaDoorM22
import Derived.Test.YthmnmaemnihkeaaDoorM7
import Derived.Test.YthmnmaemnihkeaaDoorM4
import Derived.Test.YthmnmaemnihkeaaDoorM13
import Derived.OwnWalk
import Derived.Test.YthmnmaemnihkeaaDoorM18
import Derived.Test.YthmnmaemnihkeaaDoorM12
import Derived.Test.YthmnmaemnihkeaaDoorM1
namespace Go.Proofs.YthmnmaemnihkeaaDoor
open Go.ChangeShapes Go.WideShapes Go.ChangeAt Go.RowKit
structure GivS (P:Program) (ops:Array Oper) (C:World→Prop) (E:Oper→Act→Option GSpec) (R:World→World→Prop) (Q:Act→Known→Prop) (l:List Oper) (a:Act) (G:Known):Prop where
 out:wpGiv P ops C E R Q l a G
section
variable {P:Program} {ops:Array Oper} {C:World→Prop} {E:Oper→Act→Option GSpec} {R:World→World→Prop} {Q:Act→Known→Prop} {o:Oper} {rest:List Oper} {a:Act} {G:Known}
theorem gs_plain (hs:E o a=none)
  (h:∀K:Act→Prop,(∀a,GivS P ops C E R Q rest a G→K a)→if Region.wanted o (yielded ops a.tmps)then(∃v,(∀w,(∃q:Kin C,w=q.x)→o.quietAt P a (fun _=>False) w v)∧K (a.put o.dst v))else K (a.put o.dst undef)):GivS P ops C E R Q (o::rest) a G:=
 ⟨giv_plain hs (fun K hK=>h K (fun a g=>hK a g.out))⟩
theorem gs_call (s:GSpec) (hs:E o a=some s) (hw:Region.wanted o (yielded ops a.tmps)=true)
  (h:∀w,Base ops C o G w→givesUpon P R s.V s.F w ((execOp a.eval o).run P w))
  (k:∀u,s.V u→GivS P ops C E R Q rest (a.put o.dst u) ((o,s.F u)::G)):GivS P ops C E R Q (o::rest) a G:=⟨giv_call s hs hw h (fun u hu=>(k u hu).out)⟩
end
theorem gs_end {P:Program} {ops:Array Oper} {C:World→Prop} {E:Oper→Act→Option GSpec} {R:World→World→Prop} {Q:Act→World→Prop} {a:Act} {G:Known} (h:∀w',Has C G w'→Q a w'):GivS P ops C E R (fun a' G=>∀w',Has C G w'→Q a' w') [] a G:=⟨giv_end h⟩
theorem wp_region_gs {P:Program} {C:World→Prop} {E:Oper→Act→Option GSpec} {R:World→World→Prop} (hC:∀x y,C x→R x y→C y) (hE:∀o a s,E o a=some s→∀u x y,s.F u x→R x y→s.F u y)
  {id:Nat} {Q:Exit→Act→World→Prop} {a:Act} {w:World} {l:List Oper} (hA:∀o a dst v,(∀d,dst=some d→d∉o.looksAt l.toArray)→E o (Act.put a dst v)=E o a) (hm:P.follows .mixedOrders=true) (hB:Region.lexB .any l.toArray=true) (h0:C w.drew)
  (h:GivS P l.toArray C E R (fun a' G=>∀w',Has C G w'→Q .normal a' w') l a []):(Code.region id l.toArray true).wp P Q a w:=wp_region_giv hC hE hA hm hB h0 h.out
end Go.Proofs.YthmnmaemnihkeaaDoor
namespace Go.Proofs.YthmnmaemnihkeaaDoor
open Go.ChangeShapes Go.WideShapes Go.ChangeAt Go.RowKit
theorem truthC_later {b:Bool} {u:Value} {x y:World} (hx:(truth b).F u x) (_:Later x y):(truth b).F u y:=hx
end Go.Proofs.YthmnmaemnihkeaaDoor
namespace Go.Proofs.YthmnmaemnihkeaaDoor
open Go.ChangeShapes Go.WideShapes Go.ChangeAt Go.RowKit
end Go.Proofs.YthmnmaemnihkeaaDoor
namespace Go.Proofs.YthmnmaemnihkeaaDoor
open Go.ChangeShapes Go.WideShapes Go.ChangeAt Go.RowKit
theorem Turned.drew {w w':World} {bs:List Nat} (h:Turned w w' bs):Turned w w'.drew bs:=h.then (Turned.below _ (Below.refl _ _).drew)
theorem CpB.drew {w:World} {g off:Nat} {t:TypeId} {cs:Array Value} {v:Value} {c:Cp} (h:CpB w g off t cs v c):CpB w.drew g off t cs v c:=h.below (Below.refl _ _).drew
theorem CpB.turn {w:World} {g off:Nat} {t:TypeId} {cs:Array Value} {v:Value} {c:Cp} (h:CpB w g off t cs v c) (j:Nat) (hj:j<c.ts.length):
  ∃q cap,v=.slice (some ⟨q,0,none⟩) c.ts.length cap∧q≠g∧c.ts.length≤cap∧cap≤maxLen∧w.cell? ⟨q,j,none⟩=some (.int .i64 (c.ts.getD j 0))∧w.frozen? ⟨q,j,none⟩=false∧
   ∀x:Int,CpB (w.setCell ⟨q,j,none⟩ (.int .i64 x)) g off t cs v {c with ts:=c.ts.set j x}∧Turned w (w.setCell ⟨q,j,none⟩ (.int .i64 x)) (g::v.ownBlock.toList):=by
 obtain⟨ao,cap,rfl⟩:=reads_form h.own.reads
 obtain⟨-,hc1,hc2,hcell⟩:=reads_cells h.own.reads
 obtain⟨q,rfl⟩:∃q,ao=some ⟨q,0,none⟩:=by
  rcases h.own.2 with e|⟨q,cap',cur,e,_⟩
  ·have e1:c.ts.length=0:=e.2
   omega
  ·simp only[Value.slice.injEq]at e
   exact⟨q,e.1⟩
 obtain⟨b,o,e,hx⟩:=hcell j hj
 simp only[Option.some.injEq,Addr.mk.injEq]at e
 obtain⟨rfl,rfl, -⟩:=e
 rw[Nat.zero_add]at hx
 have hne:q≠g:=fun e=>h.ne (by rw[←e];rfl)
 refine⟨q,cap,rfl,hne,hc1,hc2,hx,(h.own.put rfl j hj 0).1,fun x=>?_⟩
 have o:=(h.own.put rfl j hj x).2.2
 exact⟨⟨h.st.other _ _ (fun e=>hne e.symm),h.i0,h.i1,h.i2,h.i3,h.i4,o,h.ne⟩,(Turned.of_grown (grownSet w q j _)).sub (by simp[Value.ownBlock])⟩
end Go.Proofs.YthmnmaemnihkeaaDoor
namespace Go.Proofs.YthmnmaemnihkeaaDoor
open Go.ChangeShapes Go.WideShapes Go.ChangeAt Go.RowKit
end Go.Proofs.YthmnmaemnihkeaaDoor
namespace Go.Proofs.YthmnmaemnihkeaaDoor
open Go.ChangeShapes Go.WideShapes Go.ChangeAt Go.RowKit
end Go.Proofs.YthmnmaemnihkeaaDoor
namespace Go.Proofs.YthmnmaemnihkeaaDoor
open Go.ChangeShapes Go.WideShapes Go.ChangeAt Go.RowKit
end Go.Proofs.YthmnmaemnihkeaaDoor
namespace Go.Proofs.YthmnmaemnihkeaaDoor
open Go.ChangeShapes Go.WideShapes Go.ChangeAt Go.RowKit
def Cp.unused (c:Cp):Bool:=decide (c.tr=0)&& !c.op&&decide (c.di=0)&&decide (c.wa=0)&&decide (c.ts.length=0)
theorem Cp.ok_used {c:Cp} (h:c.unused=false):c.ok=(inI c.tr 1 100000&&(turnsI c.ts&&inI c.ts.length 1 8)&&inI c.di 0 (fullI c.ts.length)&&inI c.wa 0 (fullI c.ts.length)):=by
 unfold Cp.ok Cp.mid
 by_cases e:c.tr=0
 ·rw[if_pos e]
  unfold Cp.unused at h
  rw[decide_eq_true e,Bool.true_and]at h
  rw[h]
  have:inI c.tr 1 100000=false:=by rw[e];decide
  rw[this]
  rfl
 ·rw[if_neg e]
  simp only[Bool.and_assoc]
end Go.Proofs.YthmnmaemnihkeaaDoor
namespace Go.Proofs.YthmnmaemnihkeaaDoor
open Go.ChangeShapes Go.WideShapes Go.ChangeAt Go.RowKit
structure SoS (w wx:World) (g:Nat) (v u:Value) (c d:Sn):Prop where
 p:StB wx w.heap.size 42 (snA v c)
 q:StB wx (w.heap.size+1) 42 zeroSn
 r:StB wx g 42 (snA u d)
 o:Mine wx w.heap.size u d.ts
 b:Below w.heap.size w wx
 l:w.heap.size+1<g
theorem SoS.below {w wx wy:World} {g:Nat} {v u:Value} {c d:Sn} (h:SoS w wx g v u c d) (b:Below wx.heap.size wx wy):SoS w wy g v u c d:=
 ⟨h.p.below b,h.q.below b,h.r.below b,h.o.below b,h.b.trans (b.mono h.b.size),h.l⟩
theorem SoS.put {w wx:World} {g:Nat} {v u:Value} {c d e:Sn} (h:SoS w wx g v u c d) (j:Nat) (x:Value) (he:(snA u d).setIfInBounds j x=snA u e) (ht:e.ts=d.ts):SoS w (wx.setCell ⟨g,j,none⟩ x) g v u c e:=
 ⟨h.p.other _ _ (by have:=h.l;show w.heap.size≠g;omega),h.q.other _ _ (by have:=h.l;show w.heap.size+1≠g;omega),h.r.put j x he,by rw[ht];exact h.o.set h.r (by decide) x,h.b.setCell (by have:=h.l;show w.heap.size≤g;omega) _,h.l⟩
theorem SoS.fin {w wx wy:World} {g:Nat} {v u:Value} {c d:Sn} (h:SoS w wx g v u c d) (G:wx.grownBy wy (some (w.heap.size+1))):Mine wy w.heap.size u d.ts∧Below w.heap.size w wy:=
 ⟨h.o.putBy h.q (by decide) G,h.b.grown G h.b.size (fun k e=>by cases e;omega)⟩
theorem SoS.row {w wx:World} {g r n cap:Nat} {v:Value} {c d:Sn} {j:Nat} {x:Int} (h:SoS w wx g v (.slice (some ⟨r,0,none⟩) n cap) c d) (o:Own wx w.heap.size (.slice (some ⟨r,0,none⟩) n cap) d.ts) (O:Own (wx.setCell ⟨r,j,none⟩ (.int .i64 x)) w.heap.size (.slice (some ⟨r,0,none⟩) n cap) (d.ts.set j x)):SoS w (wx.setCell ⟨r,j,none⟩ (.int .i64 x)) g v (.slice (some ⟨r,0,none⟩) n cap) c {d with ts:=d.ts.set j x}:=by
 have hne:∀(k:Nat) (cs:Array Value),StB wx k 42 cs→k≠r:=fun k cs hk e=>o.ne hk (by decide) (by rw[e];rfl)
 exact⟨h.p.other _ _ (hne _ _ h.p),h.q.other _ _ (hne _ _ h.q),h.r.other _ _ (hne _ _ h.r),.inl O,h.b.setCell (o.lt r rfl).1 _,h.l⟩
theorem SoS.cells {w wx:World} {g:Nat} {v u:Value} {c d:Sn} (h:SoS w wx g v u c d) (j:Nat) {x:Value} (e:(snA u d)[j]?=some x):wx.cell? ⟨g,j,none⟩=some x∧wx.frozen? ⟨g,j,none⟩=false:=⟨h.r.cell j e,h.r.frozen j⟩
end Go.Proofs.YthmnmaemnihkeaaDoor
namespace Go.Proofs.YthmnmaemnihkeaaDoor
open Go.ChangeShapes Go.WideShapes Go.ChangeAt Go.RowKit
end Go.Proofs.YthmnmaemnihkeaaDoor
namespace Go.Proofs.YthmnmaemnihkeaaDoor
open Go.ChangeShapes Go.WideShapes Go.ChangeAt Go.RowKit
end Go.Proofs.YthmnmaemnihkeaaDoor
namespace Go.Proofs.YthmnmaemnihkeaaDoor
open Go.ChangeShapes Go.WideShapes Go.ChangeAt Go.RowKit
def Sn.unused (c:Sn):Bool:=decide (c.tr=0)&&decide (c.ts.length=0)
theorem Sn.ok_used {c:Sn} (h:c.unused=false):c.ok=(inI c.tr 1 100000&&(turnsI c.ts&&inI c.ts.length 1 8)):=by
 unfold Sn.unused at h
 unfold Sn.ok
 by_cases e:c.tr=0
 ·rw[if_pos e]
  rw[decide_eq_true e,Bool.true_and]at h
  rw[h]
  have:inI c.tr 1 100000=false:=by rw[e];decide
  rw[this]
  rfl
 ·rw[if_neg e]
end Go.Proofs.YthmnmaemnihkeaaDoor
namespace Go.Proofs.YthmnmaemnihkeaaDoor
open Go.RowKit
end Go.Proofs.YthmnmaemnihkeaaDoor
set_option maxRecDepth 20000
set_option maxHeartbeats 1000000
namespace Go.Proofs.YthmnmaemnihkeaaDoor
open Go.ChangeShapes Go.WideShapes Go.ChangeAt Go.RowKit
theorem icheck_any (l:Bs) (w:World) (hl:l.length≤1048576):
  Calls Tryd.prog 58 #[S l] w fun e w'=>e=.returned (.int .i64 (chk l))∧w'=w:=by
 have hsz:(⟨l.toArray⟩:ByteArray).size=l.length:=rfl
 unfold S
 go_enter Tryd.func58,Tryd.ntmps58
 go_wp2
 go_loop [3,7] (fun h i=>∃j:Nat,j≤l.length∧i=.int .i64 j∧∃x:Int,h=.int .i64 x∧0≤x∧x<999983∧Hid (x=chk (l.take j))) (fun _ i=>l.length-(intOf i).toNat)
 case atStart=>exact⟨0,Nat.zero_le _,rfl,19,rfl,by omega,by omega,by simp[Hid,chk]⟩
 case round=>
  obtain⟨j,hj,rfl,x,rfl,hx0,hx1,HX⟩:=hrel
  by_cases hlt:(j:Int)<(l.length:Int)
  ·go_wp2
   go_round
   case rel=>
    have h1:j<l.length:=by omega
    have h2:=chk_bd (l.take (j+1))
    have h3:=chk_step l j h1
    rw[←HX.out]at h3
    exact⟨j+1,by omega,by go_num,_,congrArg (Value.int .i64) h3,h2.1,h2.2,rfl⟩
   case measure=>simp[intOf];omega
  ·go_wp2
   go_ret
   have e:j=l.length:=by omega
   have:=HX.out
   rw[e,List.take_length]at this
   exact⟨ret_int this,rfl⟩
end Go.Proofs.YthmnmaemnihkeaaDoor
