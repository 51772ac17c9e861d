/- How the laws size, copy and compare pairs. -/
import Derived.Test.YtflbcjgkdokhiaaGreatDoorLPair
import Derived.Test.YtflbcjgkdokhiaaGreatDoorLPost
set_option maxRecDepth 20000
set_option maxHeartbeats 4000000
namespace Go.Proofs.YtflbcjgkdokhiaaGreatDoor
open Go.ChangeShapes Go.WideShapes Go.ChangeAt Go.RowKit
structure SmPr (ns:List Nv) (ps:List (Value×Mg)) (es:List Ev):Prop where
 sn:SmNs ns
 ln:ns.length≤1048576
 sp:SmP ps
 lp:ps.length≤1048576
 le:es.length≤1048576
 tn:totV ns≤1048576
 tk:totK ps≤1048576
 te:totE es≤1048576
theorem szPair_any (u v x:Value) (ns:List Nv) (ps:List (Value×Mg)) (es:List Ev) (w:World) (hr:RdPr w u v x ns ps es) (hg:∀x∈ns,x.n.log.length≤9223372036854775807) (hg2:∀e∈es,e.bs.length≤9223372036854775807∧e.an.tx.length≤9223372036854775807):
  Calls Tryz.prog 4 #[PrV u v x,.int .i64 1048576] w fun e w'=>∃y:Int,e=.returned (.int .i64 y)∧(y= -1∨(0≤y∧SmPr ns ps es))∧Below w.heap.size w w':=by
 have HR:Hid (∀wx,Below w.heap.size w wx→RdPr wx u v x ns ps es):=fun wx b=>hr.below b
 have CN:Hid (∀wx,Below w.heap.size w wx→Calls Tryz.prog 9 #[u,.int .i64 1048576] wx fun e w'=>∃y:Int,e=.returned (.int .i64 y)∧(y= -1∨(0≤y∧y+(ns.length:Int)+(totV ns:Int)≤1048576∧SmNs ns∧ns.length≤1048576))∧Below wx.heap.size wx w'):=fun wx b=>szNodeS_any u ns 1048576 wx (HR.out wx b).rn hg (by decide) (by decide)
 have CP:Hid (∀k wx,0≤k→k≤1048576→Below w.heap.size w wx→Calls Tryz.prog 10 #[v,.int .i64 k] wx fun e w'=>∃y:Int,e=.returned (.int .i64 y)∧(y= -1∨(0≤y∧y+(ps.length:Int)+(totK ps:Int)≤k∧SmP ps∧ps.length≤1048576))∧Below wx.heap.size wx w'):=fun k wx h0 h1 b=>szMsgS_any v ps k wx (HR.out wx b).rp h0 h1
 have CE:Hid (∀k wx,0≤k→k≤1048576→Below w.heap.size w wx→Calls Tryz.prog 11 #[x,.int .i64 k] wx fun e w'=>∃y:Int,e=.returned (.int .i64 y)∧(y= -1∨(0≤y∧y+(es.length:Int)+(totE es:Int)≤k))∧Below wx.heap.size wx w'):=fun k wx h0 h1 b=>szEventS_any x es k wx (HR.out wx b).re hg2 h0 h1
 obtain⟨uo,uc,rfl⟩:=hr.rn.form
 obtain⟨vo,vc,rfl⟩:=hr.rp.form
 obtain⟨xo,xc,rfl⟩:=hr.re.form
 obtain⟨w1,hw1⟩:∃w1,w1=w.alloc (.cells (prA (.slice uo ns.length uc) (.slice vo ps.length vc) (.slice xo es.length xc)) 26):=⟨_,rfl⟩
 have HB:Hid (StB w1 w.heap.size 26 (prA (.slice uo ns.length uc) (.slice vo ps.length vc) (.slice xo es.length xc))∧Below w.heap.size w w1):=by rw[hw1];exact⟨StB.new _ _ _,(Below.refl _ _).alloc (Nat.le_refl _) _⟩
 clear hr hg hg2 HR
 unfold prA at hw1
 unfold PrV prA
 go_enter Tryz.func4,Tryz.ntmps4
 go_upto_region 1 with fail
 rw[←hw1]
 clear hw1
 have p0:w1.cell? ⟨w.heap.size,0,none⟩=some (.slice uo ns.length uc):=HB.out.1.cell 0 rfl
 go_wp2_with fail
 refine(CN.out w1 HB.out.2).mono ?_
 rintro e w2 ⟨y,rfl,hy,b2⟩
 replace HB:Hid (StB w2 w.heap.size 26 (prA (.slice uo ns.length uc) (.slice vo ps.length vc) (.slice xo es.length xc))∧Below w.heap.size w w2):=⟨HB.out.1.below b2,HB.out.2.trans (b2.mono HB.out.2.size)⟩
 clear b2 p0 CN
 rcases hy with rfl|⟨hy0,hyk,hsn,hln⟩
 ·go_wp2
  go_ret
  exact⟨_,rfl,.inl rfl,HB.out.2⟩
 ·have HN:Hid (SmNs ns∧ns.length≤1048576∧totV ns≤1048576):=⟨hsn,hln,by omega⟩
  have hyk':y≤1048576:=by omega
  clear hyk hsn hln
  have p1:w2.cell? ⟨w.heap.size,1,none⟩=some (.slice vo ps.length vc):=HB.out.1.cell 1 rfl
  go_wp2_with fail
  refine(CP.out y w2 hy0 hyk' HB.out.2).mono ?_
  rintro e w3 ⟨z,rfl,hz,b3⟩
  replace HB:Hid (StB w3 w.heap.size 26 (prA (.slice uo ns.length uc) (.slice vo ps.length vc) (.slice xo es.length xc))∧Below w.heap.size w w3):=⟨HB.out.1.below b3,HB.out.2.trans (b3.mono HB.out.2.size)⟩
  clear b3 p1 CP
  rcases hz with rfl|⟨hz0,hzk,hsp,hlp⟩
  ·go_wp2
   go_ret
   exact⟨_,rfl,.inl rfl,HB.out.2⟩
  ·have HP:Hid (SmP ps∧ps.length≤1048576∧totK ps≤1048576):=⟨hsp,hlp,by omega⟩
   have hzk':z≤1048576:=by omega
   clear hzk hsp hlp hyk' hy0
   have p2:w3.cell? ⟨w.heap.size,2,none⟩=some (.slice xo es.length xc):=HB.out.1.cell 2 rfl
   go_wp2_with fail
   refine(CE.out z w3 hz0 hzk' HB.out.2).mono ?_
   rintro e w4 ⟨t,rfl,ht,b4⟩
   have HB4:Hid (Below w.heap.size w w4):=HB.out.2.trans (b4.mono HB.out.2.size)
   clear b4 p2 CE HB
   rcases ht with rfl|⟨ht0,htk⟩
   ·go_wp2
    go_ret
    exact⟨_,rfl,.inl rfl,HB4.out⟩
   ·have HS:Hid (SmPr ns ps es):=⟨HN.out.1,HN.out.2.1,HP.out.1,HP.out.2.1,by omega,HN.out.2.2,HP.out.2.2,by omega⟩
    clear htk hzk'
    go_wp2
    go_ret
    exact⟨_,rfl,.inr ⟨ht0,HS.out⟩,HB4.out⟩
structure OwnPr (w:World) (base:Nat) (u v x:Value) (ns:List Nv) (ps:List (Value×Mg)) (es:List Ev):Prop where
 on:OwnNs w base u ns
 op:OwnP w base v ps
 oe:OwnE w base x es
 np:∀y,y∈nvB u ns→y∈psB v ps→False
 ne:∀y,y∈nvB u ns→y∈blk x→False
 pe:∀y,y∈psB v ps→y∈blk x→False
theorem OwnPr.rd {w:World} {base:Nat} {u v x:Value} {ns:List Nv} {ps:List (Value×Mg)} {es:List Ev} (h:OwnPr w base u v x ns ps es):RdPr w u v x ns ps es:=⟨h.on.rd,h.op.rd,OwnE.rd h.oe⟩
theorem OwnPr.mono {w:World} {base base':Nat} {u v x:Value} {ns:List Nv} {ps:List (Value×Mg)} {es:List Ev} (h:OwnPr w base u v x ns ps es) (hb:base'≤base):OwnPr w base' u v x ns ps es:=⟨h.on.mono hb,h.op.mono hb,OwnE.mono h.oe hb,h.np,h.ne,h.pe⟩
theorem OwnPr.below {w w':World} {base:Nat} {u v x:Value} {ns:List Nv} {ps:List (Value×Mg)} {es:List Ev} (h:OwnPr w base u v x ns ps es) (b:Below w.heap.size w w'):OwnPr w' base u v x ns ps es:=⟨h.on.below b,h.op.below b,OwnE.below h.oe b,h.np,h.ne,h.pe⟩
theorem OwnPr.kept {w w':World} {base g:Nat} {u v x:Value} {ns:List Nv} {ps:List (Value×Mg)} {es:List Ev} (h:OwnPr w base u v x ns ps es) (G:w.grownBy w' (some g)) (hg:g<base):OwnPr w' base u v x ns ps es:=
 ⟨h.on.frame (fun y hy=>G.block y (h.on.lt y hy).2 (fun e=>by cases e;have:=(h.on.lt _ hy).1;omega)),h.op.frame (fun y hy=>G.block y (h.op.lt y hy).2 (fun e=>by cases e;have:=(h.op.lt _ hy).1;omega)),OwnE.frame h.oe (fun y hy=>G.block y (OwnE.lt h.oe y hy).2 (fun e=>by cases e;have:=(OwnE.lt h.oe _ hy).1;omega)),h.np,h.ne,h.pe⟩
theorem OwnPr.lt {w:World} {base:Nat} {u v x:Value} {ns:List Nv} {ps:List (Value×Mg)} {es:List Ev} (h:OwnPr w base u v x ns ps es):∀y∈nvB u ns++(psB v ps++blk x),base≤y∧y<w.heap.size:=by
 intro y hy
 simp only[List.mem_append]at hy
 rcases hy with hy|hy|hy
 ·exact h.on.lt y hy
 ·exact h.op.lt y hy
 ·exact OwnE.lt h.oe y hy
theorem OwnPr.frame {w w':World} {base:Nat} {u v x:Value} {ns:List Nv} {ps:List (Value×Mg)} {es:List Ev} (h:OwnPr w base u v x ns ps es) (e:∀y∈nvB u ns++(psB v ps++blk x),w'.heap[y]?=w.heap[y]?):OwnPr w' base u v x ns ps es:=
 ⟨h.on.frame (fun y hy=>e y (by simp[hy])),h.op.frame (fun y hy=>e y (by simp[hy])),OwnE.frame h.oe (fun y hy=>e y (by simp[hy])),h.np,h.ne,h.pe⟩
def PrI (u v x:Value) (ns:List Nv) (ps:List (Value×Mg)) (es:List Ev):Item:=⟨nvB u ns++(psB v ps++blk x),0,fun w=>OwnPr w 0 u v x ns ps es,fun _ _ e _ h=>h.frame e⟩
theorem Sta.pr {w wx wy:World} {L:List Item} {u v x:Value} {ns:List Nv} {ps:List (Value×Mg)} {es:List Ev} (h:Sta w wx L) (o:OwnPr wy wx.heap.size u v x ns ps es) (b:Below wx.heap.size wx wy):Sta w wy (PrI u v x ns ps es::L):=
 h.add b (PrI u v x ns ps es) (o.mono (Nat.zero_le _)) o.lt
theorem Sta.rdPr {w wx:World} {L:List Item} {u v x:Value} {ns:List Nv} {ps:List (Value×Mg)} {es:List Ev} (h:Sta w wx L) (i:Nat) (e:L[i]?=some (PrI u v x ns ps es)):RdPr wx u v x ns ps es:=(h.get i e).rd
theorem prA_one {u v x:Value} (h1:u.oneCell'=true) (h2:v.oneCell'=true) (h3:x.oneCell'=true):(prA u v x).all (·.oneCell')=true:=by simp[prA,h1,h2,h3]
def zeroPr:Array Value:=prA (.slice none 0 0) (.slice none 0 0) (.slice none 0 0)
theorem toPair_any (u v x:Value) (ns:List Nv) (ps:List (Value×Mg)) (es:List Ev) (w:World) (hr:RdPr w u v x ns ps es) (hs:SmPr ns ps es):
  Calls Tryz.prog 6 #[PrV u v x] w fun e w'=>∃u' v' x' ns' ps',e=.returned (PrV u' v' x')∧nsOf ns'=nsOf ns∧msOf ps'=msOf ps∧OwnPr w' w.heap.size u' v' x' ns' ps' es∧Below w.heap.size w w':=by
 have HR:Hid (∀wx,Below w.heap.size w wx→RdPr wx u v x ns ps es):=fun wx b=>hr.below b
 have CN:Hid (∀wx,Below w.heap.size w wx→Calls Tryz.prog 14 #[u] wx fun e w'=>∃y qs,e=.returned y∧nsOf qs=nsOf ns∧OwnNs w' wx.heap.size y qs∧Below wx.heap.size wx w'):=fun wx b=>toNodeS_any u ns wx (HR.out wx b).rn hs.sn hs.ln
 have CP:Hid (∀wx,Below w.heap.size w wx→Calls Tryz.prog 15 #[v] wx fun e w'=>∃y qs,e=.returned y∧msOf qs=msOf ps∧OwnP w' wx.heap.size y qs∧Below wx.heap.size wx w'):=fun wx b=>toMsgS_any v ps wx (HR.out wx b).rp hs.sp hs.lp
 have CE:Hid (∀wx,Below w.heap.size w wx→Calls Tryz.prog 16 #[x] wx fun e w'=>∃y,e=.returned y∧OwnE w' wx.heap.size y es∧Below wx.heap.size wx w'):=fun wx b=>toEventS_any x es wx (HR.out wx b).re hs.le
 obtain⟨uo,uc,rfl⟩:=hr.rn.form
 obtain⟨vo,vc,rfl⟩:=hr.rp.form
 obtain⟨xo,xc,rfl⟩:=hr.re.form
 obtain⟨w1,hw1⟩:∃w1,w1=((w.alloc (.cells (prA (.slice uo ns.length uc) (.slice vo ps.length vc) (.slice xo es.length xc)) 26)).alloc (.cells zeroPr 33)).alloc (.cells zeroPr 33):=⟨_,rfl⟩
 have HP:Hid (StB w1 w.heap.size 26 (prA (.slice uo ns.length uc) (.slice vo ps.length vc) (.slice xo es.length xc))∧StB w1 (w.heap.size+1) 33 zeroPr∧StB w1 (w.heap.size+1+1) 33 zeroPr∧Below w.heap.size w w1):=by
  have s2:=StB.new (w.alloc (.cells (prA (.slice uo ns.length uc) (.slice vo ps.length vc) (.slice xo es.length xc)) 26)) 33 zeroPr
  rw[World.size_alloc]at s2
  have s3:=StB.new ((w.alloc (.cells (prA (.slice uo ns.length uc) (.slice vo ps.length vc) (.slice xo es.length xc)) 26)).alloc (.cells zeroPr 33)) 33 zeroPr
  rw[World.size_alloc,World.size_alloc]at s3
  exact⟨by rw[hw1];exact((StB.new w _ _).alloc _).alloc _,by rw[hw1];exact s2.alloc _,by rw[hw1];exact s3,by rw[hw1];exact(((Below.refl _ _).alloc (Nat.le_refl _) _).alloc (by simp) _).alloc (by simp;omega) _⟩
 clear hr hs HR
 unfold zeroPr prA at hw1
 conv in PrV (.slice uo _ uc) _ _=>unfold PrV prA
 go_enter Tryz.func6,Tryz.ntmps6
 go_upto_region 2 with fail
 rw[←hw1]
 clear hw1
 have p0:w1.cell? ⟨w.heap.size,0,none⟩=some (.slice uo ns.length uc):=HP.out.1.cell 0 rfl
 go_wp2_with fail
 refine(CN.out w1 HP.out.2.2.2).mono ?_
 rintro e wa0 ⟨y,qs,rfl,e0,o0,b⟩
 obtain⟨yo,yc,rfl⟩:=o0.rd.form
 have hn0:w.heap.size+1+1<w1.heap.size:=HP.out.2.2.1.lt
 clear p0 CN
 replace HP:Hid (StB wa0 w.heap.size 26 (prA (.slice uo ns.length uc) (.slice vo ps.length vc) (.slice xo es.length xc))∧StB wa0 (w.heap.size+1) 33 zeroPr∧StB wa0 (w.heap.size+1+1) 33 (prA (.slice none 0 0) (.slice none 0 0) (.slice none 0 0))∧Below w.heap.size w wa0):=⟨HP.out.1.below b,HP.out.2.1.below b,HP.out.2.2.1.below b,HP.out.2.2.2.trans (b.mono HP.out.2.2.2.size)⟩
 have s0:wa0.cell? ⟨w.heap.size+1+1,0,none⟩=some (.slice none 0 0):=HP.out.2.2.1.cell 0 rfl
 have f0:=HP.out.2.2.1.frozen 0
 obtain⟨wb0,hwb0⟩:∃wb0,wb0=wa0.setCell ⟨w.heap.size+1+1,0,none⟩ (.slice yo qs.length yc):=⟨_,rfl⟩
 have G0:wa0.grownBy wb0 (some (w.heap.size+1+1)):=by rw[hwb0];exact grownSet _ _ _ _
 have O:Hid (OwnNs wb0 (w.heap.size+1+1+1) (.slice yo qs.length yc) qs∧nsOf qs=nsOf ns):=⟨(o0.mono hn0).frame (fun y hy=>G0.block y (o0.lt y hy).2 (fun e=>by cases e;have:=(o0.lt _ hy).1;omega)),e0⟩
 clear o0 e0
 replace HP:Hid (StB wb0 w.heap.size 26 (prA (.slice uo ns.length uc) (.slice vo ps.length vc) (.slice xo es.length xc))∧StB wb0 (w.heap.size+1) 33 zeroPr∧StB wb0 (w.heap.size+1+1) 33 (prA (.slice yo qs.length yc) (.slice none 0 0) (.slice none 0 0))∧Below w.heap.size w wb0):=by
  rw[hwb0]
  refine⟨HP.out.1.other _ _ ?_,HP.out.2.1.other _ _ ?_,HP.out.2.2.1.put 0 (.slice yo qs.length yc) rfl,HP.out.2.2.2.setCell ?_ _⟩
  ·show w.heap.size≠w.heap.size+1+1;omega
  ·show w.heap.size+1≠w.heap.size+1+1;omega
  ·show w.heap.size≤w.heap.size+1+1;omega
 go_upto_region 3 with fail
 rw[←hwb0]
 clear hwb0 s0 f0 hn0 G0 b
 have p1:wb0.cell? ⟨w.heap.size,1,none⟩=some (.slice vo ps.length vc):=HP.out.1.cell 1 rfl
 go_wp2_with fail
 refine(CP.out wb0 HP.out.2.2.2).mono ?_
 rintro e wa1 ⟨z,rs,rfl,e1,o1,b⟩
 obtain⟨zo,zc,rfl⟩:=o1.rd.form
 have hn1:w.heap.size+1+1<wb0.heap.size:=HP.out.2.2.1.lt
 clear p1 CP
 replace HP:Hid (StB wa1 w.heap.size 26 (prA (.slice uo ns.length uc) (.slice vo ps.length vc) (.slice xo es.length xc))∧StB wa1 (w.heap.size+1) 33 zeroPr∧StB wa1 (w.heap.size+1+1) 33 (prA (.slice yo qs.length yc) (.slice none 0 0) (.slice none 0 0))∧Below w.heap.size w wa1):=⟨HP.out.1.below b,HP.out.2.1.below b,HP.out.2.2.1.below b,HP.out.2.2.2.trans (b.mono HP.out.2.2.2.size)⟩
 have s1:wa1.cell? ⟨w.heap.size+1+1,1,none⟩=some (.slice none 0 0):=HP.out.2.2.1.cell 1 rfl
 have f1:=HP.out.2.2.1.frozen 1
 obtain⟨wb1,hwb1⟩:∃wb1,wb1=wa1.setCell ⟨w.heap.size+1+1,1,none⟩ (.slice zo rs.length zc):=⟨_,rfl⟩
 have G1:wa1.grownBy wb1 (some (w.heap.size+1+1)):=by rw[hwb1];exact grownSet _ _ _ _
 replace O:Hid (OwnNs wb1 (w.heap.size+1+1+1) (.slice yo qs.length yc) qs∧nsOf qs=nsOf ns∧OwnP wb1 (w.heap.size+1+1+1) (.slice zo rs.length zc) rs∧msOf rs=msOf ps∧∀y,y∈nvB (.slice yo qs.length yc) qs→y∈psB (.slice zo rs.length zc) rs→False):=by
  have h0:=O.out.1.below b
  exact⟨h0.frame (fun y hy=>G1.block y (h0.lt y hy).2 (fun e=>by cases e;have:=(h0.lt _ hy).1;omega)),O.out.2,(o1.mono hn1).frame (fun y hy=>G1.block y (o1.lt y hy).2 (fun e=>by cases e;have:=(o1.lt _ hy).1;omega)),e1,fun y h1 h2=>by have:=(O.out.1.lt y h1).2;have:=(o1.lt y h2).1;omega⟩
 clear o1 e1
 replace HP:Hid (StB wb1 w.heap.size 26 (prA (.slice uo ns.length uc) (.slice vo ps.length vc) (.slice xo es.length xc))∧StB wb1 (w.heap.size+1) 33 zeroPr∧StB wb1 (w.heap.size+1+1) 33 (prA (.slice yo qs.length yc) (.slice zo rs.length zc) (.slice none 0 0))∧Below w.heap.size w wb1):=by
  rw[hwb1]
  refine⟨HP.out.1.other _ _ ?_,HP.out.2.1.other _ _ ?_,HP.out.2.2.1.put 1 (.slice zo rs.length zc) rfl,HP.out.2.2.2.setCell ?_ _⟩
  ·show w.heap.size≠w.heap.size+1+1;omega
  ·show w.heap.size+1≠w.heap.size+1+1;omega
  ·show w.heap.size≤w.heap.size+1+1;omega
 go_upto_region 4 with fail
 rw[←hwb1]
 clear hwb1 s1 f1 hn1 G1 b
 have p2:wb1.cell? ⟨w.heap.size,2,none⟩=some (.slice xo es.length xc):=HP.out.1.cell 2 rfl
 go_wp2_with fail
 refine(CE.out wb1 HP.out.2.2.2).mono ?_
 rintro e wa2 ⟨t,rfl,o2,b⟩
 obtain⟨to',tc,rfl⟩:=(OwnE.rd o2).form
 have hn2:w.heap.size+1+1<wb1.heap.size:=HP.out.2.2.1.lt
 clear p2 CE
 replace HP:Hid (StB wa2 w.heap.size 26 (prA (.slice uo ns.length uc) (.slice vo ps.length vc) (.slice xo es.length xc))∧StB wa2 (w.heap.size+1) 33 zeroPr∧StB wa2 (w.heap.size+1+1) 33 (prA (.slice yo qs.length yc) (.slice zo rs.length zc) (.slice none 0 0))∧Below w.heap.size w wa2):=⟨HP.out.1.below b,HP.out.2.1.below b,HP.out.2.2.1.below b,HP.out.2.2.2.trans (b.mono HP.out.2.2.2.size)⟩
 have s2:wa2.cell? ⟨w.heap.size+1+1,2,none⟩=some (.slice none 0 0):=HP.out.2.2.1.cell 2 rfl
 have f2:=HP.out.2.2.1.frozen 2
 obtain⟨wb2,hwb2⟩:∃wb2,wb2=wa2.setCell ⟨w.heap.size+1+1,2,none⟩ (.slice to' es.length tc):=⟨_,rfl⟩
 have G2:wa2.grownBy wb2 (some (w.heap.size+1+1)):=by rw[hwb2];exact grownSet _ _ _ _
 have OF:Hid (OwnPr wb2 (w.heap.size+1+1+1) (.slice yo qs.length yc) (.slice zo rs.length zc) (.slice to' es.length tc) qs rs es∧nsOf qs=nsOf ns∧msOf rs=msOf ps):=by
  have h0:=O.out.1.below b
  have h1:=O.out.2.2.1.below b
  exact⟨⟨h0.frame (fun y hy=>G2.block y (h0.lt y hy).2 (fun e=>by cases e;have:=(h0.lt _ hy).1;omega)),h1.frame (fun y hy=>G2.block y (h1.lt y hy).2 (fun e=>by cases e;have:=(h1.lt _ hy).1;omega)),OwnE.frame (OwnE.mono o2 hn2) (fun y hy=>G2.block y (OwnE.lt o2 y hy).2 (fun e=>by cases e;have:=(OwnE.lt o2 _ hy).1;omega)),O.out.2.2.2.2,fun y a1 a2=>by have:=(O.out.1.lt y a1).2;have:=(OwnE.lt o2 y a2).1;omega,fun y a1 a2=>by have:=(O.out.2.2.1.lt y a1).2;have:=(OwnE.lt o2 y a2).1;omega⟩,O.out.2.1,O.out.2.2.2.1⟩
 clear o2 O
 replace HP:Hid (StB wb2 w.heap.size 26 (prA (.slice uo ns.length uc) (.slice vo ps.length vc) (.slice xo es.length xc))∧StB wb2 (w.heap.size+1) 33 zeroPr∧StB wb2 (w.heap.size+1+1) 33 (prA (.slice yo qs.length yc) (.slice zo rs.length zc) (.slice to' es.length tc))∧Below w.heap.size w wb2):=by
  rw[hwb2]
  refine⟨HP.out.1.other _ _ ?_,HP.out.2.1.other _ _ ?_,HP.out.2.2.1.put 2 (.slice to' es.length tc) rfl,HP.out.2.2.2.setCell ?_ _⟩
  ·show w.heap.size≠w.heap.size+1+1;omega
  ·show w.heap.size+1≠w.heap.size+1+1;omega
  ·show w.heap.size≤w.heap.size+1+1;omega
 go_upto_region 5 with fail
 rw[←hwb2]
 clear hwb2 s2 f2 hn2 G2 b
 go_wp2_with (first|(refine wpList_getS Tryz.isPr rfl _ rfl (w.heap.size+1+1) rfl (prA (.slice yo qs.length yc) (.slice zo rs.length zc) (.slice to' es.length tc)) rfl HP.out.2.2.1 ?_)|(refine wpList_putS Tryz.isPr rfl _ _ rfl (w.heap.size+1) (prA (.slice yo qs.length yc) (.slice zo rs.length zc) (.slice to' es.length tc)) zeroPr rfl rfl rfl rfl (prA_one rfl rfl rfl) HP.out.2.1 ?_;intro w19 s19 g19))
 refine bodyPost_ret (results_S Tryz.isPr rfl _ _ (w.heap.size+1) _ rfl rfl s19) rfl ?_
 exact⟨_,_,_,_,_,rfl,OF.out.2.1,OF.out.2.2,(OF.out.1.kept g19 (by omega)).mono (by omega),HP.out.2.2.2.grown g19 HP.out.2.2.2.size (fun k e=>by cases e;omega)⟩
theorem eqPair_any (u v x u2 v2 x2:Value) (ns ns2:List Nv) (ps ps2:List (Value×Mg)) (es:List Ev) (w:World) (hr:RdPr w u v x ns ps es) (hr2:RdPr w u2 v2 x2 ns2 ps2 es) (hn:nsOf ns=nsOf ns2) (hp:msOf ps=msOf ps2) (hs:SmPr ns ps es):
  Calls Tryz.prog 8 #[PrV u v x,PrV u2 v2 x2] w fun e w'=>e=.returned (.bool true)∧Below w.heap.size w w':=by
 have HR:Hid (∀wx,Below w.heap.size w wx→RdPr wx u v x ns ps es):=fun wx b=>hr.below b
 have HR2:Hid (∀wx,Below w.heap.size w wx→RdPr wx u2 v2 x2 ns2 ps2 es):=fun wx b=>hr2.below b
 have CN:Hid (∀wx,Below w.heap.size w wx→Calls Tryz.prog 19 #[u,u2] wx fun e w'=>e=.returned (.bool true)∧Below wx.heap.size wx w'):=fun wx b=>eqNodeS_any u u2 ns ns2 wx (HR.out wx b).rn (HR2.out wx b).rn hn hs.sn hs.ln
 have CP:Hid (∀wx,Below w.heap.size w wx→Calls Tryz.prog 20 #[v,v2] wx fun e w'=>e=.returned (.bool true)∧Below wx.heap.size wx w'):=fun wx b=>eqMsgS_any v v2 ps ps2 wx (HR.out wx b).rp (HR2.out wx b).rp hp hs.sp hs.lp
 have CE:Hid (∀wx,Below w.heap.size w wx→Calls Tryz.prog 21 #[x,x2] wx fun e w'=>e=.returned (.bool true)∧Below wx.heap.size wx w'):=fun wx b=>eqEventS_any x x2 es wx (HR.out wx b).re (HR2.out wx b).re
 obtain⟨uo,uc,rfl⟩:=hr.rn.form
 obtain⟨vo,vc,rfl⟩:=hr.rp.form
 obtain⟨xo,xc,rfl⟩:=hr.re.form
 obtain⟨uo2,uc2,rfl⟩:=hr2.rn.form
 obtain⟨vo2,vc2,rfl⟩:=hr2.rp.form
 obtain⟨xo2,xc2,rfl⟩:=hr2.re.form
 clear hr hr2 hs HR HR2 hn hp
 have hB:Hid (Below w.heap.size w ((w.alloc (.cells (prA (.slice uo ns.length uc) (.slice vo ps.length vc) (.slice xo es.length xc)) 33)).alloc (.cells (prA (.slice uo2 ns2.length uc2) (.slice vo2 ps2.length vc2) (.slice xo2 es.length xc2)) 33))):=((Below.refl _ _).alloc (Nat.le_refl _) _).alloc (by simp) _
 obtain⟨w1,hw1⟩:∃w1,w1=(w.alloc (.cells (prA (.slice uo ns.length uc) (.slice vo ps.length vc) (.slice xo es.length xc)) 33)).alloc (.cells (prA (.slice uo2 ns2.length uc2) (.slice vo2 ps2.length vc2) (.slice xo2 es.length xc2)) 33):=⟨_,rfl⟩
 have HP:Hid (StB w1 w.heap.size 33 (prA (.slice uo ns.length uc) (.slice vo ps.length vc) (.slice xo es.length xc))∧StB w1 (w.heap.size+1) 33 (prA (.slice uo2 ns2.length uc2) (.slice vo2 ps2.length vc2) (.slice xo2 es.length xc2))∧Below w.heap.size w w1):=by
  have s2:=StB.new (w.alloc (.cells (prA (.slice uo ns.length uc) (.slice vo ps.length vc) (.slice xo es.length xc)) 33)) 33 (prA (.slice uo2 ns2.length uc2) (.slice vo2 ps2.length vc2) (.slice xo2 es.length xc2))
  rw[World.size_alloc]at s2
  exact⟨by rw[hw1];exact(StB.new w _ _).alloc _,by rw[hw1];exact s2,by rw[hw1];exact hB.out⟩
 clear hB
 unfold prA at hw1
 unfold PrV prA
 go_enter Tryz.func8,Tryz.ntmps8
 go_upto_region 1 with fail
 rw[←hw1]
 clear hw1
 have p0:w1.cell? ⟨w.heap.size,0,none⟩=some (.slice uo ns.length uc):=HP.out.1.cell 0 rfl
 have q0:w1.cell? ⟨w.heap.size+1,0,none⟩=some (.slice uo2 ns2.length uc2):=HP.out.2.1.cell 0 rfl
 go_wp2_with fail
 refine(CN.out w1 HP.out.2.2).mono ?_
 rintro e wa0 ⟨rfl,b⟩
 replace HP:Hid (StB wa0 w.heap.size 33 (prA (.slice uo ns.length uc) (.slice vo ps.length vc) (.slice xo es.length xc))∧StB wa0 (w.heap.size+1) 33 (prA (.slice uo2 ns2.length uc2) (.slice vo2 ps2.length vc2) (.slice xo2 es.length xc2))∧Below w.heap.size w wa0):=⟨HP.out.1.below b,HP.out.2.1.below b,HP.out.2.2.trans (b.mono HP.out.2.2.size)⟩
 clear p0 q0 b CN
 have p1:wa0.cell? ⟨w.heap.size,1,none⟩=some (.slice vo ps.length vc):=HP.out.1.cell 1 rfl
 have q1:wa0.cell? ⟨w.heap.size+1,1,none⟩=some (.slice vo2 ps2.length vc2):=HP.out.2.1.cell 1 rfl
 go_wp2_with fail
 refine(CP.out wa0 HP.out.2.2).mono ?_
 rintro e wa1 ⟨rfl,b⟩
 replace HP:Hid (StB wa1 w.heap.size 33 (prA (.slice uo ns.length uc) (.slice vo ps.length vc) (.slice xo es.length xc))∧StB wa1 (w.heap.size+1) 33 (prA (.slice uo2 ns2.length uc2) (.slice vo2 ps2.length vc2) (.slice xo2 es.length xc2))∧Below w.heap.size w wa1):=⟨HP.out.1.below b,HP.out.2.1.below b,HP.out.2.2.trans (b.mono HP.out.2.2.size)⟩
 clear p1 q1 b CP
 have p2:wa1.cell? ⟨w.heap.size,2,none⟩=some (.slice xo es.length xc):=HP.out.1.cell 2 rfl
 have q2:wa1.cell? ⟨w.heap.size+1,2,none⟩=some (.slice xo2 es.length xc2):=HP.out.2.1.cell 2 rfl
 go_wp2_with fail
 refine(CE.out wa1 HP.out.2.2).mono ?_
 rintro e wa2 ⟨rfl,b⟩
 replace HP:Hid (StB wa2 w.heap.size 33 (prA (.slice uo ns.length uc) (.slice vo ps.length vc) (.slice xo es.length xc))∧StB wa2 (w.heap.size+1) 33 (prA (.slice uo2 ns2.length uc2) (.slice vo2 ps2.length vc2) (.slice xo2 es.length xc2))∧Below w.heap.size w wa2):=⟨HP.out.1.below b,HP.out.2.1.below b,HP.out.2.2.trans (b.mono HP.out.2.2.size)⟩
 clear p2 q2 b CE
 go_wp2
 go_ret
 exact⟨rfl,HP.out.2.2⟩
end Go.Proofs.YtflbcjgkdokhiaaGreatDoor
