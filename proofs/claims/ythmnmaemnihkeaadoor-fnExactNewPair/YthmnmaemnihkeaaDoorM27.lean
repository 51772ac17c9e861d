/- How the laws size, copy and compare pairs. -/
import Derived.Test.YthmnmaemnihkeaaDoorLPair
import Derived.Test.YthmnmaemnihkeaaDoorM19
import Derived.Test.YthmnmaemnihkeaaDoorM2
import Derived.ShutString
import Derived.ChangeOld
import Derived.Below
import Derived.ChangeSame
import Derived.Test.YthmnmaemnihkeaaDoorM14
import Derived.Test.YthmnmaemnihkeaaDoorM22
import Derived.Test.YthmnmaemnihkeaaDoorM13
import Derived.Test.YthmnmaemnihkeaaDoorM23
import Derived.Deep.Slices
import Derived.Test.YthmnmaemnihkeaaDoorM24
import Derived.Test.YthmnmaemnihkeaaDoorM26
set_option maxRecDepth 20000
set_option maxHeartbeats 4000000
namespace Go.Proofs.YthmnmaemnihkeaaDoor
open Go.ChangeShapes Go.WideShapes Go.ChangeAt Go.RowKit
structure SmPr (ns:List Nv) (ps:List (Value×Mg)) (es:List Ev):Prop where
 sn:SmNs ns
 ln:ns.length≤1048576
 sp:SmP ps
 lp:ps.length≤1048576
 le:es.length≤1048576
 tn:totV ns≤1048576
 tk:totK ps≤1048576
 te:totE es≤1048576
structure OwnPr (w:World) (base:Nat) (u v x:Value) (ns:List Nv) (ps:List (Value×Mg)) (es:List Ev):Prop where
 on:OwnNs w base u ns
 op:OwnP w base v ps
 oe:OwnE w base x es
 np:∀y,y∈nvB u ns→y∈psB v ps→False
 ne:∀y,y∈nvB u ns→y∈blk x→False
 pe:∀y,y∈psB v ps→y∈blk x→False
theorem OwnPr.rd {w:World} {base:Nat} {u v x:Value} {ns:List Nv} {ps:List (Value×Mg)} {es:List Ev} (h:OwnPr w base u v x ns ps es):RdPr w u v x ns ps es:=⟨h.on.rd,h.op.rd,OwnE.rd h.oe⟩
theorem OwnPr.mono {w:World} {base base':Nat} {u v x:Value} {ns:List Nv} {ps:List (Value×Mg)} {es:List Ev} (h:OwnPr w base u v x ns ps es) (hb:base'≤base):OwnPr w base' u v x ns ps es:=⟨h.on.mono hb,h.op.mono hb,OwnE.mono h.oe hb,h.np,h.ne,h.pe⟩
theorem OwnPr.below {w w':World} {base:Nat} {u v x:Value} {ns:List Nv} {ps:List (Value×Mg)} {es:List Ev} (h:OwnPr w base u v x ns ps es) (b:Below w.heap.size w w'):OwnPr w' base u v x ns ps es:=⟨h.on.below b,h.op.below b,OwnE.below h.oe b,h.np,h.ne,h.pe⟩
theorem OwnPr.kept {w w':World} {base g:Nat} {u v x:Value} {ns:List Nv} {ps:List (Value×Mg)} {es:List Ev} (h:OwnPr w base u v x ns ps es) (G:w.grownBy w' (some g)) (hg:g<base):OwnPr w' base u v x ns ps es:=
 ⟨h.on.frame (fun y hy=>G.block y (h.on.lt y hy).2 (fun e=>by cases e;have:=(h.on.lt _ hy).1;omega)),h.op.frame (fun y hy=>G.block y (h.op.lt y hy).2 (fun e=>by cases e;have:=(h.op.lt _ hy).1;omega)),OwnE.frame h.oe (fun y hy=>G.block y (OwnE.lt h.oe y hy).2 (fun e=>by cases e;have:=(OwnE.lt h.oe _ hy).1;omega)),h.np,h.ne,h.pe⟩
theorem OwnPr.lt {w:World} {base:Nat} {u v x:Value} {ns:List Nv} {ps:List (Value×Mg)} {es:List Ev} (h:OwnPr w base u v x ns ps es):∀y∈nvB u ns++(psB v ps++blk x),base≤y∧y<w.heap.size:=by
 intro y hy
 simp only[List.mem_append]at hy
 rcases hy with hy|hy|hy
 ·exact h.on.lt y hy
 ·exact h.op.lt y hy
 ·exact OwnE.lt h.oe y hy
theorem OwnPr.frame {w w':World} {base:Nat} {u v x:Value} {ns:List Nv} {ps:List (Value×Mg)} {es:List Ev} (h:OwnPr w base u v x ns ps es) (e:∀y∈nvB u ns++(psB v ps++blk x),w'.heap[y]?=w.heap[y]?):OwnPr w' base u v x ns ps es:=
 ⟨h.on.frame (fun y hy=>e y (by simp[hy])),h.op.frame (fun y hy=>e y (by simp[hy])),OwnE.frame h.oe (fun y hy=>e y (by simp[hy])),h.np,h.ne,h.pe⟩
def PrI (u v x:Value) (ns:List Nv) (ps:List (Value×Mg)) (es:List Ev):Item:=⟨nvB u ns++(psB v ps++blk x),0,fun w=>OwnPr w 0 u v x ns ps es,fun _ _ e _ h=>h.frame e⟩
theorem Sta.pr {w wx wy:World} {L:List Item} {u v x:Value} {ns:List Nv} {ps:List (Value×Mg)} {es:List Ev} (h:Sta w wx L) (o:OwnPr wy wx.heap.size u v x ns ps es) (b:Below wx.heap.size wx wy):Sta w wy (PrI u v x ns ps es::L):=
 h.add b (PrI u v x ns ps es) (o.mono (Nat.zero_le _)) o.lt
theorem Sta.rdPr {w wx:World} {L:List Item} {u v x:Value} {ns:List Nv} {ps:List (Value×Mg)} {es:List Ev} (h:Sta w wx L) (i:Nat) (e:L[i]?=some (PrI u v x ns ps es)):RdPr wx u v x ns ps es:=(h.get i e).rd
theorem prA_one {u v x:Value} (h1:u.oneCell'=true) (h2:v.oneCell'=true) (h3:x.oneCell'=true):(prA u v x).all (·.oneCell')=true:=by simp[prA,h1,h2,h3]
def zeroPr:Array Value:=prA (.slice none 0 0) (.slice none 0 0) (.slice none 0 0)
theorem eqPair_any (u v x u2 v2 x2:Value) (ns ns2:List Nv) (ps ps2:List (Value×Mg)) (es:List Ev) (w:World) (hr:RdPr w u v x ns ps es) (hr2:RdPr w u2 v2 x2 ns2 ps2 es) (hn:nsOf ns=nsOf ns2) (hp:msOf ps=msOf ps2) (hs:SmPr ns ps es):
  Calls Tryd.prog 6 #[PrV u v x,PrV u2 v2 x2] w fun e w'=>e=.returned (.bool true)∧Below w.heap.size w w':=by
 have HR:Hid (∀wx,Below w.heap.size w wx→RdPr wx u v x ns ps es):=fun wx b=>hr.below b
 have HR2:Hid (∀wx,Below w.heap.size w wx→RdPr wx u2 v2 x2 ns2 ps2 es):=fun wx b=>hr2.below b
 have CN:Hid (∀wx,Below w.heap.size w wx→Calls Tryd.prog 11 #[u,u2] wx fun e w'=>e=.returned (.bool true)∧Below wx.heap.size wx w'):=fun wx b=>eqNodeS_any u u2 ns ns2 wx (HR.out wx b).rn (HR2.out wx b).rn hn hs.sn hs.ln
 have CP:Hid (∀wx,Below w.heap.size w wx→Calls Tryd.prog 12 #[v,v2] wx fun e w'=>e=.returned (.bool true)∧Below wx.heap.size wx w'):=fun wx b=>eqMsgS_any v v2 ps ps2 wx (HR.out wx b).rp (HR2.out wx b).rp hp hs.sp hs.lp
 have CE:Hid (∀wx,Below w.heap.size w wx→Calls Tryd.prog 13 #[x,x2] wx fun e w'=>e=.returned (.bool true)∧Below wx.heap.size wx w'):=fun wx b=>eqEventS_any x x2 es wx (HR.out wx b).re (HR2.out wx b).re
 obtain⟨uo,uc,rfl⟩:=hr.rn.form
 obtain⟨vo,vc,rfl⟩:=hr.rp.form
 obtain⟨xo,xc,rfl⟩:=hr.re.form
 obtain⟨uo2,uc2,rfl⟩:=hr2.rn.form
 obtain⟨vo2,vc2,rfl⟩:=hr2.rp.form
 obtain⟨xo2,xc2,rfl⟩:=hr2.re.form
 clear hr hr2 hs HR HR2 hn hp
 have hB:Hid (Below w.heap.size w ((w.alloc (.cells (prA (.slice uo ns.length uc) (.slice vo ps.length vc) (.slice xo es.length xc)) 26)).alloc (.cells (prA (.slice uo2 ns2.length uc2) (.slice vo2 ps2.length vc2) (.slice xo2 es.length xc2)) 26))):=((Below.refl _ _).alloc (Nat.le_refl _) _).alloc (by simp) _
 obtain⟨w1,hw1⟩:∃w1,w1=(w.alloc (.cells (prA (.slice uo ns.length uc) (.slice vo ps.length vc) (.slice xo es.length xc)) 26)).alloc (.cells (prA (.slice uo2 ns2.length uc2) (.slice vo2 ps2.length vc2) (.slice xo2 es.length xc2)) 26):=⟨_,rfl⟩
 have HP:Hid (StB w1 w.heap.size 26 (prA (.slice uo ns.length uc) (.slice vo ps.length vc) (.slice xo es.length xc))∧StB w1 (w.heap.size+1) 26 (prA (.slice uo2 ns2.length uc2) (.slice vo2 ps2.length vc2) (.slice xo2 es.length xc2))∧Below w.heap.size w w1):=by
  have s2:=StB.new (w.alloc (.cells (prA (.slice uo ns.length uc) (.slice vo ps.length vc) (.slice xo es.length xc)) 26)) 26 (prA (.slice uo2 ns2.length uc2) (.slice vo2 ps2.length vc2) (.slice xo2 es.length xc2))
  rw[World.size_alloc]at s2
  exact⟨by rw[hw1];exact(StB.new w _ _).alloc _,by rw[hw1];exact s2,by rw[hw1];exact hB.out⟩
 clear hB
 unfold prA at hw1
 unfold PrV prA
 go_enter Tryd.func6,Tryd.ntmps6
 go_upto_region 1 with fail
 rw[←hw1]
 clear hw1
 have p0:w1.cell? ⟨w.heap.size,0,none⟩=some (.slice uo ns.length uc):=HP.out.1.cell 0 rfl
 have q0:w1.cell? ⟨w.heap.size+1,0,none⟩=some (.slice uo2 ns2.length uc2):=HP.out.2.1.cell 0 rfl
 go_wp2_with fail
 refine(CN.out w1 HP.out.2.2).mono ?_
 rintro e wa0 ⟨rfl,b⟩
 replace HP:Hid (StB wa0 w.heap.size 26 (prA (.slice uo ns.length uc) (.slice vo ps.length vc) (.slice xo es.length xc))∧StB wa0 (w.heap.size+1) 26 (prA (.slice uo2 ns2.length uc2) (.slice vo2 ps2.length vc2) (.slice xo2 es.length xc2))∧Below w.heap.size w wa0):=⟨HP.out.1.below b,HP.out.2.1.below b,HP.out.2.2.trans (b.mono HP.out.2.2.size)⟩
 clear p0 q0 b CN
 have p1:wa0.cell? ⟨w.heap.size,1,none⟩=some (.slice vo ps.length vc):=HP.out.1.cell 1 rfl
 have q1:wa0.cell? ⟨w.heap.size+1,1,none⟩=some (.slice vo2 ps2.length vc2):=HP.out.2.1.cell 1 rfl
 go_wp2_with fail
 refine(CP.out wa0 HP.out.2.2).mono ?_
 rintro e wa1 ⟨rfl,b⟩
 replace HP:Hid (StB wa1 w.heap.size 26 (prA (.slice uo ns.length uc) (.slice vo ps.length vc) (.slice xo es.length xc))∧StB wa1 (w.heap.size+1) 26 (prA (.slice uo2 ns2.length uc2) (.slice vo2 ps2.length vc2) (.slice xo2 es.length xc2))∧Below w.heap.size w wa1):=⟨HP.out.1.below b,HP.out.2.1.below b,HP.out.2.2.trans (b.mono HP.out.2.2.size)⟩
 clear p1 q1 b CP
 have p2:wa1.cell? ⟨w.heap.size,2,none⟩=some (.slice xo es.length xc):=HP.out.1.cell 2 rfl
 have q2:wa1.cell? ⟨w.heap.size+1,2,none⟩=some (.slice xo2 es.length xc2):=HP.out.2.1.cell 2 rfl
 go_wp2_with fail
 refine(CE.out wa1 HP.out.2.2).mono ?_
 rintro e wa2 ⟨rfl,b⟩
 replace HP:Hid (StB wa2 w.heap.size 26 (prA (.slice uo ns.length uc) (.slice vo ps.length vc) (.slice xo es.length xc))∧StB wa2 (w.heap.size+1) 26 (prA (.slice uo2 ns2.length uc2) (.slice vo2 ps2.length vc2) (.slice xo2 es.length xc2))∧Below w.heap.size w wa2):=⟨HP.out.1.below b,HP.out.2.1.below b,HP.out.2.2.trans (b.mono HP.out.2.2.size)⟩
 clear p2 q2 b CE
 go_wp2
 go_ret
 exact⟨rfl,HP.out.2.2⟩
end Go.Proofs.YthmnmaemnihkeaaDoor
namespace Go.Proofs.YthmnmaemnihkeaaDoor
open Go.ChangeShapes Go.WideShapes Go.ChangeAt Go.RowKit
end Go.Proofs.YthmnmaemnihkeaaDoor
namespace Go.Proofs.YthmnmaemnihkeaaDoor
open Go.ChangeShapes Go.WideShapes Go.ChangeAt Go.RowKit
end Go.Proofs.YthmnmaemnihkeaaDoor
namespace Go.Proofs.YthmnmaemnihkeaaDoor
open Go.ChangeShapes Go.WideShapes Go.ChangeAt Go.RowKit
end Go.Proofs.YthmnmaemnihkeaaDoor
namespace Go.Proofs.YthmnmaemnihkeaaDoor
open Go.ChangeShapes Go.WideShapes Go.ChangeAt Go.RowKit
end Go.Proofs.YthmnmaemnihkeaaDoor
namespace Go.Proofs.YthmnmaemnihkeaaDoor
open Go.ChangeShapes Go.WideShapes Go.ChangeAt Go.RowKit
end Go.Proofs.YthmnmaemnihkeaaDoor
namespace Go.Proofs.YthmnmaemnihkeaaDoor
open Go.ChangeShapes Go.WideShapes Go.ChangeAt Go.RowKit
end Go.Proofs.YthmnmaemnihkeaaDoor
namespace Go.Proofs.YthmnmaemnihkeaaDoor
open Go.ChangeShapes Go.WideShapes Go.ChangeAt Go.RowKit
end Go.Proofs.YthmnmaemnihkeaaDoor
namespace Go.Proofs.YthmnmaemnihkeaaDoor
open Go.ChangeShapes Go.WideShapes Go.ChangeAt Go.RowKit
end Go.Proofs.YthmnmaemnihkeaaDoor
namespace Go.Proofs.YthmnmaemnihkeaaDoor
open Go.ChangeShapes Go.WideShapes Go.ChangeAt Go.RowKit
theorem SmPr.of {ns ns2:List Nv} {ps ps2:List (Value×Mg)} {es:List Ev} (h:SmPr ns ps es) (e1:nsOf ns2=nsOf ns) (e2:msOf ps2=msOf ps):SmPr ns2 ps2 es:=by
 have l1:ns2.length=ns.length:=by rw[←nsOf_len,←nsOf_len,e1]
 have l2:ps2.length=ps.length:=len_of e2
 refine⟨fun x hx=>?_,by rw[l1];exact h.ln,smp_of e2 h.sp,by rw[l2];exact h.lp,h.le,?_,?_,h.te⟩
 ·have h1:x.n∈nsOf ns2:=List.mem_map.2 ⟨x,hx,rfl⟩
  rw[e1]at h1
  obtain⟨y,hy,e⟩:=List.mem_map.1 h1
  rw[←e]
  exact h.sn y hy
 ·have:=h.tn
  have e:totV ns2=totV ns:=by
   have:=congrArg (fun l:List Nd=>(l.map fun n=>n.len+n.log.length).sum) e1
   simpa[nsOf,totV,List.map_map,Function.comp_def]using this
  rw[e];exact this
 ·have:=h.tk
  have e:totK ps2=totK ps:=by
   have:=congrArg (fun l:List Mg=>(l.map fun m=>m.h.ks.length).sum) e2
   simpa[msOf,totK,List.map_map,Function.comp_def]using this
  rw[e];exact this
end Go.Proofs.YthmnmaemnihkeaaDoor
