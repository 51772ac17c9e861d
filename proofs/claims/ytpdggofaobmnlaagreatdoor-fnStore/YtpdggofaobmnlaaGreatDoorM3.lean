import Derived.Test.YtpdggofaobmnlaaGreatDoorM1
import Derived.Test.YtpdggofaobmnlaaGreatDoorDisk
import Derived.WalkSpells
import Derived.Test.YtpdggofaobmnlaaGreatDoorM2
/- Disks in the state of a long walk. -/
set_option maxRecDepth 20000
set_option maxHeartbeats 2000000
namespace Go.Proofs.YtpdggofaobmnlaaGreatDoor
open Go.ChangeShapes Go.WideShapes Go.ChangeAt Go.RowKit
def Dsk (u v:Value) (xs ys:List Int):Item:=⟨u.ownBlock.toList++v.ownBlock.toList,0,fun w=>OwnD w 0 u v xs ys,fun _ _ e _ h=>⟨h.1.frame (fun b hb=>e b (List.mem_append_left _ hb)),h.2.1.frame (fun b hb=>e b (List.mem_append_right _ hb)),h.2.2⟩⟩
theorem Sta.disk {w wx wy:World} {L:List Item} {u v:Value} {xs ys:List Int} (h:Sta w wx L) (o:OwnD wy wx.heap.size u v xs ys) (b:Below wx.heap.size wx wy):Sta w wy (Dsk u v xs ys::L):=
 h.add b (Dsk u v xs ys) ⟨o.1.mono (Nat.zero_le _),o.2.1.mono (Nat.zero_le _),o.2.2⟩ (fun k hk=>by
  simp only[Dsk,List.mem_append,Option.mem_toList]at hk
  rcases hk with hk|hk
  ·exact o.1.lt k hk
  ·exact o.2.1.lt k hk)
theorem Marked.turned {w w':World} {u v:Value} (h:Marked w w' u v):Turned w w' (u.ownBlock.toList++v.ownBlock.toList):=by
 obtain⟨w1,g1,g2⟩:=h
 exact(Turned.of_grown g1).trans (Turned.of_grown g2)
theorem Sta.marked {w wx wy:World} {L:List Item} {u v:Value} {xs ys zs ts:List Int} (h:Sta w wx L) (n:Nat) (e:L[n]?=some (Dsk u v xs ys)) (o:OwnD wy 0 u v zs ts) (m:Marked wx wy u v):Sta w wy (L.set n (Dsk u v zs ts)):=
 h.turn n e m.turned (Dsk u v zs ts) rfl o
theorem Sta.readsU {w wx:World} {L:List Item} {u v:Value} {xs ys:List Int} (h:Sta w wx L) (n:Nat) (e:L[n]?=some (Dsk u v xs ys)):Reads wx u xs:=(h.get n e).1.reads
theorem Sta.readsV {w wx:World} {L:List Item} {u v:Value} {xs ys:List Int} (h:Sta w wx L) (n:Nat) (e:L[n]?=some (Dsk u v xs ys)):Reads wx v ys:=(h.get n e).2.1.reads
theorem Sta.ones {w wx:World} {L:List Item} {u v:Value} {xs ys:List Int} (h:Sta w wx L) (n:Nat) (e:L[n]?=some (Dsk u v xs ys)):(#[u,v]:Array Value).all (·.oneCell')=true:=pair_one (h.readsU n e).one (h.readsV n e).one
theorem apart_blocks {i j:List Nat} {u v:Value} (hi:i=u.ownBlock.toList) (hj:j=v.ownBlock.toList) (h:∀b∈i,b∉j):apart u v:=by
 subst hi hj
 refine⟨?_,?_⟩
 ·by_cases e:u.ownBlock=none
  ·exact .inl e
  ·refine .inr fun e2=>?_
   obtain⟨g,hg⟩:=Option.ne_none_iff_exists'.1 e
   exact h g (by simp[hg]) (by simp[←e2,hg])
 ·by_cases e:v.ownBlock=none
  ·exact .inl e
  ·refine .inr fun e2=>?_
   obtain⟨g,hg⟩:=Option.ne_none_iff_exists'.1 e
   exact h g (by simp[←e2,hg]) (by simp[hg])
theorem Sta.two {w wx:World} {L:List Item} {u v:Value} {xs ys:List Int} (h:Sta w wx (Lst u xs::Lst v ys::L)):Sta w wx (Dsk u v xs ys::L):=
 h.join (Dsk u v xs ys) rfl ⟨h.get 0 rfl,h.get 1 rfl,apart_blocks rfl rfl (h.apart.1 (Lst v ys) (by simp))⟩
end Go.Proofs.YtpdggofaobmnlaaGreatDoor
namespace Go.Proofs.YtpdggofaobmnlaaGreatDoor
open Go.ChangeShapes Go.WideShapes Go.ChangeAt Go.RowKit
def Bytes (w:World) (B:Nat) (ao:Option Addr) (len:Nat):Prop:=
 ∀j,j<len→∃b off z,ao=some ⟨b,off,none⟩∧b<B∧w.cell? ⟨b,off+j,none⟩=some (.int .u8 z)∧0≤z∧z≤255
theorem Bytes.below {w w':World} {B:Nat} {ao:Option Addr} {len:Nat} (h:Bytes w B ao len) (hb:Below B w w'):Bytes w' B ao len:=by
 intro j hj
 obtain⟨b,off,z,h1,h2,h3,h4⟩:=h j hj
 exact⟨b,off,z,h1,h2,(hb.cell (p:=⟨b,off+j,none⟩) h2).trans h3,h4⟩
def CurAt (w:World) (B c:Nat) (ao:Option Addr) (len cap:Nat) (i h:Int):Prop:=
 B≤c∧w.heap[c]?=some (.cells #[.slice ao len cap,.int .i64 i,.int .i64 h] 87 (0,0))∧Bytes w B ao len∧len≤1099511627776∧0≤i∧i≤(len:Int)
def Cur (w:World) (B c:Nat):Prop:=∃ao len cap i h,CurAt w B c ao len cap i h
theorem block_lt {w:World} {c:Nat} {o:Obj} (h:w.heap[c]?=some o):c<w.heap.size:=by
 rcases Nat.lt_or_ge c w.heap.size with hlt|hge
 ·exact hlt
 ·rw[Array.getElem?_eq_none hge]at h;cases h
theorem Cur.lt {w:World} {B c:Nat} (h:Cur w B c):B≤c∧c<w.heap.size:=by
 obtain⟨_,_,_,_,_,hB,hh,_⟩:=h
 exact⟨hB,block_lt hh⟩
theorem grown_set (w:World) (c j:Nat) (u:Value):w.grownBy (w.setCell ⟨c,j,none⟩ u) (some c):=
 ⟨rfl,rfl,rfl,by simp,fun k _ hk=>heap_setCell_other w ⟨c,j,none⟩ k u (fun e=>hk (by simp[e]))⟩
theorem CurAt.set2 {w:World} {B c:Nat} {ao:Option Addr} {len cap:Nat} {i h:Int} (H:CurAt w B c ao len cap i h) (x:Int):CurAt (w.setCell ⟨c,2,none⟩ (.int .i64 x)) B c ao len cap i x:=by
 obtain⟨hB,h1,h2,h3⟩:=H
 exact⟨hB,heap_setCell_same w c 2 _ _ _ h1,h2.below ((Below.refl B w).setCell hB _),h3⟩
theorem CurAt.set1 {w:World} {B c:Nat} {ao:Option Addr} {len cap:Nat} {i h:Int} (H:CurAt w B c ao len cap i h) (x:Int) (h0:0≤x) (h1:x≤(len:Int)):CurAt (w.setCell ⟨c,1,none⟩ (.int .i64 x)) B c ao len cap x h:=by
 obtain⟨hB,a1,a2,a3,_⟩:=H
 exact⟨hB,heap_setCell_same w c 1 _ _ _ a1,a2.below ((Below.refl B w).setCell hB _),a3,h0,h1⟩
theorem CurAt.drewN {w:World} {B c:Nat} {ao:Option Addr} {len cap:Nat} {i h:Int} (H:CurAt w B c ao len cap i h) (n:Nat):CurAt (w.drewN n) B c ao len cap i h:=H
theorem Cur.kept {w w':World} {B c:Nat} {row:Option Nat} (h:Cur w B c) (hg:w.grownBy w' row) (hne:row≠some c) (hr:∀k,row=some k→B≤k):Cur w' B c:=by
 have hlt:=h.lt
 obtain⟨ao,len,cap,i,hh,hB,h1,h2,h3⟩:=h
 have hb:Below B w w':=(Below.refl B w).grown hg (by omega) hr
 exact⟨ao,len,cap,i,hh,hB,(hg.block c hlt.2 (fun e=>hne e.symm)).trans h1,h2.below hb,h3⟩
theorem Cur.below {w w':World} {B c:Nat} (h:Cur w B c) (hb:Below w.heap.size w w'):Cur w' B c:=by
 have hlt:=h.lt
 obtain⟨ao,len,cap,i,hh,hB,h1,h2,h3⟩:=h
 exact⟨ao,len,cap,i,hh,hB,(hb.block c hlt.2).trans h1,h2.below (hb.mono (by omega)),h3⟩
theorem Cur.drewN {w:World} {B c:Nat} (h:Cur w B c) (n:Nat):Cur (w.drewN n) B c:=h
theorem grown_drewN {w w':World} {row:Option Nat} (h:w.grownBy w' row) (n:Nat):w.grownBy (w'.drewN n) row:=h.trans ⟨rfl,rfl,rfl,Nat.le_refl _,fun _ _ _=>rfl⟩
theorem drewN_grown {w w':World} {row:Option Nat} {n:Nat} (h:(w.drewN n).grownBy w' row):w.grownBy w' row:=⟨h.os,h.tape,h.output,h.size,h.block⟩
theorem wrap_nat (n:Nat) (h:n<9223372036854775808):IntKind.i64.wrap (n:Int)=n:=by
 have e:IntKind.i64.wrap (n:Int)=if(true&&decide ((n:Int)%18446744073709551616≥9223372036854775808))=true then(n:Int)%18446744073709551616-18446744073709551616 else(n:Int)%18446744073709551616:=rfl
 rw[e,if_neg (by simp;omega)]
 omega
theorem and_bd (x:Int) (m:Nat) (hm:m<9223372036854775808):0≤bits BinOp.and IntKind.i64 x (m:Int)∧bits BinOp.and IntKind.i64 x (m:Int)≤m:=by
 have e:bits BinOp.and IntKind.i64 x (m:Int)=IntKind.i64.wrap (((BitVec.ofInt 64 x&&&BitVec.ofInt 64 (m:Int)).toNat:Nat):Int):=rfl
 have a:(BitVec.ofInt 64 x&&&BitVec.ofInt 64 (m:Int)).toNat≤m:=by
  rw[BitVec.toNat_and]
  refine Nat.le_trans Nat.and_le_right ?_
  rw[BitVec.toNat_ofInt]
  omega
 rw[e,wrap_nat _ (by omega)]
 omega
theorem and255 (x:Int):0≤bits BinOp.and IntKind.i64 x 255∧bits BinOp.and IntKind.i64 x 255<256:=by
 have:=and_bd x 255 (by omega)
 have e:((255:Nat):Int)=255:=rfl
 rw[e]at this
 omega
theorem byte_any (B c:Nat) (w:World) (h:Cur w B c):
  Calls Tryz.prog 105 #[.pointer (some ⟨c,0,none⟩)] w fun e w'=>∃x,e=.returned (.int .i64 x)∧0≤x∧x<256∧Cur w' B c∧w.grownBy w' (some c):=by
 obtain⟨ao,len,cap,i,hh,H⟩:=h
 have HC:Hid (CurAt w B c ao len cap i hh):=H
 obtain⟨hB,h1,h2,h3,h4,h5⟩:=H
 have c0:w.cell? ⟨c,0,none⟩=some (.slice ao len cap):=by rw[cell_of_row w c 0 _ _ _ h1];rfl
 have c1:w.cell? ⟨c,1,none⟩=some (.int .i64 i):=by rw[cell_of_row w c 1 _ _ _ h1];rfl
 have c2:w.cell? ⟨c,2,none⟩=some (.int .i64 hh):=by rw[cell_of_row w c 2 _ _ _ h1];rfl
 have f1:w.frozen? ⟨c,1,none⟩=false:=frozen_of_row w c 1 _ _ h1
 have f2:w.frozen? ⟨c,2,none⟩=false:=frozen_of_row w c 2 _ _ h1
 clear h1
 by_cases hlt:i<(len:Int)
 ·obtain⟨k,rfl⟩:∃k:Nat,i=k:=⟨i.toNat,by omega⟩
  obtain⟨b,off,z,rfl,hbB,hz,hz0,hz1⟩:=h2 k (by omega)
  have hbc:b≠c:=by omega
  clear h2
  go_enter Tryz.func105,Tryz.ntmps105
  go_wp2
  go_quiet (fail)
  go_wp2
  go_quiet (fail)
  go_wp2
  go_quiet (fail)
  go_wp2
  go_ret
  refine⟨_,rfl,(and255 _).1,(and255 _).2,⟨_,_,_,_,_,(CurAt.set1 (HC.out.set2 _) _ (by omega) (by omega))⟩,?_⟩
  exact(grown_drewN (grown_set _ _ _ _) _).trans (grown_set _ _ _ _)
 ·go_enter Tryz.func105,Tryz.ntmps105
  go_wp2
  go_quiet (fail)
  go_wp2
  go_quiet (fail)
  go_wp2
  go_ret
  refine⟨_,rfl,(and255 _).1,(and255 _).2,⟨_,_,_,_,_,HC.out.set2 _⟩,?_⟩
  exact grown_drewN (grown_drewN (grown_set _ _ _ _) _) _
theorem tmod_bd (x n:Int) (h0:0≤x) (hn:0<n):0≤x.tmod n∧x.tmod n<n:=
 ⟨Int.tmod_nonneg n h0,Int.tmod_lt_of_pos x hn⟩
theorem below_any (B c:Nat) (n:Int) (w:World) (h:Cur w B c) (hn:n≤4611686018427387904):
  Calls Tryz.prog 67 #[.pointer (some ⟨c,0,none⟩),.int .i64 n] w fun e w'=>∃x,e=.returned (.int .i64 x)∧0≤x∧(0<n→x<n)∧(n≤0→x=0)∧Cur w' B c∧w.grownBy w' (some c):=by
 have HC:Hid (Cur w B c):=h
 clear h
 by_cases h0:n≤0
 ·go_enter Tryz.func67,Tryz.ntmps67
  go_wp2
  go_ret
  exact⟨0,rfl,by omega,by omega,fun _=>rfl,HC.out,World.grownBy.refl _ _⟩
 ·by_cases h1:n≤256
  ·go_enter Tryz.func67,Tryz.ntmps67
   go_wp2_with fail
   refine(byte_any B c _ HC.out).mono ?_
   rintro e w1 ⟨x,rfl,hx0,hx1,C1,G1⟩
   have H1:Hid (Cur w1 B c∧w.grownBy w1 (some c)):=⟨C1,G1⟩
   clear C1 G1 HC
   go_wp2
   go_ret
   exact⟨_,rfl,Int.emod_nonneg _ (by omega),fun _=>Int.emod_lt_of_pos _ (by omega),fun h=>absurd h (by omega),H1.out.1,H1.out.2⟩
  ·go_enter Tryz.func67,Tryz.ntmps67
   go_wp2_with fail
   refine(byte_any B c _ HC.out).mono ?_
   rintro e w1 ⟨x,rfl,hx0,hx1,C1,G1⟩
   have H1:Hid (Cur w1 B c∧w.grownBy w1 (some c)):=⟨C1,G1⟩
   clear C1 G1 HC
   go_wp2_with fail
   refine(byte_any B c _ H1.out.1).mono ?_
   rintro e w2 ⟨y,rfl,hy0,hy1,C2,G2⟩
   have H2:Hid (Cur w2 B c∧w.grownBy w2 (some c)):=⟨C2,H1.out.2.trans G2⟩
   clear C2 G2 H1
   go_wp2_with fail
   refine(byte_any B c _ H2.out.1).mono ?_
   rintro e w3 ⟨z,rfl,hz0,hz1,C3,G3⟩
   have H3:Hid (Cur w3 B c∧w.grownBy w3 (some c)):=⟨C3,H2.out.2.trans G3⟩
   clear C3 G3 H2
   go_wp2_with fail
   refine(byte_any B c _ H3.out.1).mono ?_
   rintro e w4 ⟨u,rfl,hu0,hu1,C4,G4⟩
   have H4:Hid (Cur w4 B c∧w.grownBy w4 (some c)):=⟨C4,H3.out.2.trans G4⟩
   clear C4 G4 H3
   go_wp2
   go_ret
   exact⟨_,rfl,Int.emod_nonneg _ (by omega),fun _=>Int.emod_lt_of_pos _ (by omega),fun h=>absurd h (by omega),H4.out.1,H4.out.2⟩
theorem once_any (B c:Nat) (n:Int) (w:World) (h:Cur w B c) (hn:n≤4611686018427387904):
  Calls Tryz.prog 65 #[.pointer (some ⟨c,0,none⟩),.int .i64 n] w fun e w'=>∃b,e=.returned (.bool b)∧Cur w' B c∧w.grownBy w' (some c):=by
 go_enter Tryz.func65,Tryz.ntmps65
 go_wp2_with fail
 refine(below_any B c n _ h hn).mono ?_
 rintro e w1 ⟨x,rfl,hx0,hx1,hx2,C1,G1⟩
 clear hx1 hx2
 go_wp2
 go_ret
 exact⟨_,rfl,C1,G1⟩
theorem from_any (B c:Nat) (lo hi:Int) (w:World) (h:Cur w B c) (h1:lo≤hi) (h2: -1152921504606846976≤lo) (h3:hi≤1152921504606846976):
  Calls Tryz.prog 69 #[.pointer (some ⟨c,0,none⟩),.int .i64 lo,.int .i64 hi] w fun e w'=>∃x,e=.returned (.int .i64 x)∧lo≤x∧x≤hi∧Cur w' B c∧w.grownBy w' (some c):=by
 go_enter Tryz.func69,Tryz.ntmps69
 go_wp2_with fail
 refine(below_any B c _ _ h (by omega)).mono ?_
 rintro e w1 ⟨x,rfl,hx0,hx1,hx2,C1,G1⟩
 have hx3:=hx1 (by omega)
 clear hx1 hx2
 go_wp2
 go_ret
 exact⟨_,rfl,by omega,by omega,C1,G1⟩
theorem and30 (x:Int):0≤bits BinOp.and IntKind.i64 x 1073741823∧bits BinOp.and IntKind.i64 x 1073741823<1073741824:=by
 have:=and_bd x 1073741823 (by omega)
 have e:((1073741823:Nat):Int)=1073741823:=rfl
 rw[e]at this
 omega
theorem Cur.made (w:World) (ao:Option Addr) (len cap:Nat) (h:Int) (hl:len≤1099511627776) (B:Nat) (hB:B≤w.heap.size) (hb2:Bytes w B ao len):
  Cur (w.alloc (.cells #[.slice ao len cap,.int .i64 0,.int .i64 h] 87)) B w.heap.size:=
 ⟨ao,len,cap,0,h,hB,heap_alloc_new w _,hb2.below ((Below.refl B w).alloc hB _),hl,by omega,by omega⟩
theorem new_any (B:Nat) (ao:Option Addr) (len cap:Nat) (w:World) (hb:Bytes w B ao len) (hl:len≤1099511627776) (hB:B≤w.heap.size):
  Calls Tryz.prog 27 #[.slice ao len cap] w fun e w'=>∃c,e=.returned (.pointer (some ⟨c,0,none⟩))∧w.heap.size≤c∧Cur w' B c∧w.grownBy w' none:=by
 have HB:Hid (Bytes w B ao len):=hb
 clear hb
 go_enter Tryz.func27,Tryz.ntmps27
 go_wp2
 go_loop [3,4] (fun h i=>∃(x:Int) (k:Nat),k≤len∧i=.int .i64 k∧h=.int .i64 x) (fun _ i=>len-(intOf i).toNat)
 case atStart=>exact⟨_,0,Nat.zero_le _,rfl,rfl⟩
 case round=>
  obtain⟨x,k,hk,rfl,rfl⟩:=hrel
  by_cases hlt:(k:Int)<(len:Int)
  ·obtain⟨b,off,z,rfl,hbB,hz,hz0,hz1⟩:=HB.out k (by omega)
   go_wp2
   go_round
   case rel=>exact⟨_,k+1,by omega,by go_num,rfl⟩
   case measure=>simp[intOf];omega
  ·go_wp2
   go_ret
   exact⟨_,rfl,Nat.le_refl _,Cur.made w ao len cap x hl B hB HB.out,World.grownBy_alloc w _ none⟩
theorem lit_kept {w w':World} {cs:Array Value} {t:TypeId} {row:Option Nat} (hg:(w.alloc (.cells cs t)).grownBy w' row) (hne:row≠some w.heap.size) (j:Nat):w'.cell? ⟨w.heap.size,j,none⟩=cs[j]?:=by
 have h1:w'.heap[w.heap.size]?=some (.cells cs t (0,0)):=(hg.block w.heap.size (by simp) (fun e=>hne e.symm)).trans (heap_alloc_new w _)
 rw[cell_of_row w' w.heap.size j _ _ _ h1]
def CodeOk (w:World) (B:Nat) (v:Value):Prop:=∃ao len cap,v=.slice ao len cap∧Bytes w B ao len∧len≤1099511627776
theorem CodeOk.below {w w':World} {B:Nat} {v:Value} (h:CodeOk w B v) (hb:Below B w w'):CodeOk w' B v:=by
 obtain⟨ao,len,cap,h1,h2,h3⟩:=h
 exact⟨ao,len,cap,h1,h2.below hb,h3⟩
theorem new_code (B:Nat) (v:Value) (w:World) (h:CodeOk w B v) (hB:B≤w.heap.size):
  Calls Tryz.prog 27 #[v] w fun e w'=>∃c,e=.returned (.pointer (some ⟨c,0,none⟩))∧w.heap.size≤c∧Cur w' B c∧w.grownBy w' none:=by
 obtain⟨ao,len,cap,rfl,h1,h2⟩:=h
 exact new_any B ao len cap w h1 h2 hB
theorem codeOk_row {w:World} {a:Option Addr} {len cap:Nat} {zs:List Int} (h:(a=none∧len=0∧cap=0∧zs=[])∨
  ∃x,a=some x∧len≤cap∧cap≤maxLen∧zs.length=cap∧(∀i,i<zs.length→w.cell? (x.add i)=some (.int .u8 (zs.getD i 0)))∧∀n∈zs,(Lit.int .u8 n).wf=true)
  (hl:len≤1099511627776):CodeOk w w.heap.size (.slice a len cap):=by
 refine⟨a,len,cap,rfl,fun j hj=>?_,hl⟩
 rcases h with⟨_,h0,_⟩|⟨x,rfl,h1,h2,h3,h4,h5⟩
 ·omega
 ·obtain⟨b,off,spot⟩:=x
  have hs:spot=none:=by simpa[Addr.add]using World.cell?_spot (h4 0 (by omega))
  subst hs
  have ea:(⟨b,off,none⟩:Addr).add j=⟨b,off+j,none⟩:=by
   by_cases e:j=0
   ·subst e;simp[Addr.add]
   ·simp[Addr.add,e]
  have hc:=h4 j (by omega)
  rw[ea]at hc
  refine⟨b,off,zs.getD j 0,rfl,World.block_lt_of_cell? w _ hc,hc,?_⟩
  have hm:zs.getD j 0∈zs:=by
   have:j<zs.length:=by omega
   simp[List.getD,this]
  have:=bounds_u8 (h5 _ hm)
  omega
theorem big_any (ao:Option Addr) (len cap:Nat) (w:World):
  Calls Tryz.prog 5 #[.slice ao len cap] w fun e w'=>e=.returned (.bool (decide ((4096:Int)<len)))∧w'=w:=by
 go_enter Tryz.func5,Tryz.ntmps5
 go_wp2
 go_ret
 exact⟨rfl,rfl⟩
end Go.Proofs.YtpdggofaobmnlaaGreatDoor
namespace Go.Proofs.YtpdggofaobmnlaaGreatDoor
open Go.ChangeShapes Go.WideShapes Go.ChangeAt Go.RowKit
theorem Cur.frame {w w':World} {B c:Nat} (h:Cur w B c) (e:w'.heap[c]?=w.heap[c]?) (b:Below B w w'):Cur w' B c:=by
 obtain⟨ao,len,cap,i,hh,hB,h1,h2,h3⟩:=h
 exact⟨ao,len,cap,i,hh,hB,e.trans h1,h2.below b,h3⟩
def CurI (B c:Nat):Item:=⟨[c],B,fun w=>Cur w B c,fun _ _ e b h=>h.frame (e c (by simp)) b⟩
theorem Sta.cur {w wx wy:World} {L:List Item} {B c:Nat} (h:Sta w wx L) (n:Nat) (e:L[n]?=some (CurI B c)) (C:Cur wy B c) (G:wx.grownBy wy (some c)):Sta w wy L:=by
 have:=h.turn n e (Turned.of_grown G) (CurI B c) rfl C (h.olds _ (List.mem_of_getElem? e))
 rwa[set_same e]at this
theorem Sta.newCur {w wx wy:World} {L:List Item} {B c:Nat} (h:Sta w wx L) (hB:B≤w.heap.size) (hc:wx.heap.size≤c) (C:Cur wy B c) (G:wx.grownBy wy none):Sta w wy (CurI B c::L):=
 h.add ((Below.refl _ _).grown G (Nat.le_refl _) (fun k e=>by cases e)) (CurI B c) C (fun k hk=>by simp[CurI]at hk;subst hk;exact⟨hc,C.lt.2⟩) hB
theorem turned_set (w:World) (g j:Nat) (x:Value):Turned w (w.setCell ⟨g,j,none⟩ x) [g]:=Turned.of_grown (grown_set w g j x)
end Go.Proofs.YtpdggofaobmnlaaGreatDoor
namespace Go.Proofs.YtpdggofaobmnlaaGreatDoor
open Go.ChangeShapes Go.WideShapes Go.ChangeAt Go.RowKit
theorem below_of_cur {w w1 w2:World} {c:Nat} (h1:w.grownBy w1 none) (hc:w.heap.size≤c) (h2:w1.grownBy w2 (some c)):Below w.heap.size w w2:=
 ((Below.refl _ w).grown h1 (Nat.le_refl _) (by simp)).grown h2 h1.size (fun k e=>by simp at e;omega)
end Go.Proofs.YtpdggofaobmnlaaGreatDoor
namespace Go.Proofs.YtpdggofaobmnlaaGreatDoor
open Go.ChangeShapes Go.WideShapes Go.ChangeAt Go.RowKit
theorem Own.notAt {w:World} {base c:Nat} {v:Value} {xs:List Int} (h:Own w base v xs) (hc:c<base):v.ownBlock=none∨v.ownBlock≠some c:=by
 by_cases e:v.ownBlock=none
 ·exact .inl e
 ·refine .inr fun e2=>?_
  have:=(h.lt c e2).1
  omega
theorem grown_own {o a b:World} {c:Nat} {row:Option Nat} (h:o.grownBy a (some c)) (g:a.grownBy b row) (hr:∀k,row=some k→o.heap.size≤k):o.grownBy b (some c):=
 ⟨g.os.trans h.os,g.tape.trans h.tape,g.output.trans h.output,Nat.le_trans h.size g.size,fun k hk hne=>(g.block k (Nat.lt_of_lt_of_le hk h.size) (fun e=>by have:=hr k e.symm;omega)).trans (h.block k hk hne)⟩
theorem Own.grownBy_alloc {w:World} {base:Nat} {v:Value} {xs:List Int} (h:Own w base v xs) (o:Obj):Own (w.alloc o) base v xs:=World.ownsRow.alloc h o
def Drawn (w0 w:World) (B c:Nat) (v:Value) (xs:List Int):Prop:=Own w w0.heap.size v xs∧Cur w B c∧w0.grownBy w (some c)∧c<w0.heap.size
theorem Drawn.draw {w0 w w':World} {B c:Nat} {v:Value} {xs:List Int} (h:Drawn w0 w B c v xs) (C:Cur w' B c) (G:w.grownBy w' (some c)):Drawn w0 w' B c v xs:=
 ⟨h.1.kept G (h.1.notAt h.2.2.2),C,h.2.2.1.trans G,h.2.2.2⟩
theorem map_one (xs:List Int) (a:Int):xs.map (Value.int .i64)++[.int .i64 a]=(xs++[a]).map (Value.int .i64):=by simp
theorem Drawn.append {w0 w w':World} {B c:Nat} {v v':Value} {xs:List Int} {x:Int} {o:Obj} (h:Drawn w0 w B c v xs) (hB:B≤w0.heap.size)
  (hown:w'.ownsRow w0.heap.size 2 1 v' (xs.length+1) (xs.map (Value.int .i64)++[.int .i64 x])) (hg:(w.alloc o).grownBy w' v.ownBlock):Drawn w0 w' B c v' (xs++[x]):=by
 obtain⟨h1,h2,h3,h4⟩:=h
 have ga:w.grownBy (w.alloc o) (some c):=World.grownBy_alloc w o _
 have hrow:∀k,v.ownBlock=some k→w0.heap.size≤k:=fun k e=>(h1.lt k e).1
 refine⟨?_,?_,grown_own (h3.trans ga) hg hrow,h4⟩
 ·unfold Own
  rw[←map_one]
  simpa using hown
 ·exact(h2.kept (World.grownBy_alloc w o none) (by simp) (by simp)).kept hg (by rcases h1.notAt h4 with e|e;rw[e];simp;exact e) (fun k e=>by have:=hrow k e;omega)
theorem lit1 (w:World) (x:Int):∀j u,([Value.int .i64 x])[j]?=some u→(w.alloc (.cells #[.int .i64 x] 2)).cell? ((⟨w.heap.size,0,none⟩:Addr).add j)=some u:=by
 intro j u hj
 match j,hj with
 |0,hj=>simp at hj;subst hj;simp[Addr.add]
theorem draw_any (B c:Nat) (n:Int) (w:World) (h:Cur w B c) (hn:n≤64):
  Calls Tryz.prog 103 #[.pointer (some ⟨c,0,none⟩),.int .i64 n] w fun e w'=>∃u,e=.returned u∧∃xs:List Int,xs.length≤64∧Drawn w w' B c u xs:=by
 obtain⟨i0,hi,hz0,hz1,hz2⟩:=info_parts Tryz.infoI
 have HC:Hid (Cur w B c):=h
 have hBc:=h.lt
 clear h
 go_enter Tryz.func103,Tryz.ntmps103
 go_wp2
 go_loopw [1,5] (fun m v wr=>∃(k:Int) (xs:List Int),k≤64∧m=.int .i64 k∧((0<k→(xs.length:Int)+k≤64)∧xs.length≤64)∧Hid (Drawn w wr B c v xs)) (fun m _ _=>(intOf m).toNat)
 case atStart=>exact⟨n,[],hn,rfl,by simp;omega,World.ownsRow_lit w #[] 0 (Nat.le_refl _) (Nat.zero_le _) rfl,HC.out.below ((Below.refl _ _).alloc (Nat.le_refl _) _),World.grownBy_alloc w _ _,hBc.2⟩
 case round=>
  obtain⟨k,xs,hk,rfl,hle,HR⟩:=hrel
  by_cases hlt:0<k
  ·go_wp2_with fail
   refine(below_any B c 4 _ HR.out.2.1 (by omega)).mono ?_
   rintro e w1 ⟨x,rfl,hx0,hx1,hx2,C1,G1⟩
   have HR1:Hid (Drawn w w1 B c _ xs):=HR.out.draw C1 G1
   have hown:=HR1.out.1
   have hsz:=HR1.out.2.2.1.size
   unfold Own at hown
   clear hx1 hx2 C1 G1 HR
   go_wp2_with (at_builtin;refine wpList_append_own _ rfl _ _ 24 rfl w.heap.size 2 i0 (.int .i64 0) 1 8 Tryz.underlying24 hi hz0 hz1 hz2 rfl (by decide) _ _ _ rfl (hown.alloc _) _ 1 1 [.int .i64 x] rfl rfl (lit1 w1 x) (by simp[Value.oneCell']) (by unfold maxLen;omega) (by omega) (by simp;omega) ?_)
   intro v' w2 hown' hgrow _
   have HR2:Hid (Drawn w w2 B c v' (xs++[x])):=HR1.out.append (by omega) hown' hgrow
   clear hown hown' hgrow HR1 hsz
   go_wp2
   go_roundw
   case rel=>exact⟨k-1,xs++[x],by omega,by go_num,by simp;omega,HR2⟩
   case measure=>simp[intOf];omega
  ·go_wp2
   go_ret
   exact⟨_,rfl,xs,by omega,HR.out⟩
theorem Drawn.keep {w0 w w':World} {B c:Nat} {v:Value} {xs:List Int} (h:Drawn w0 w B c v xs) (G:w.grownBy w' none):Drawn w0 w' B c v xs:=
 ⟨h.1.kept G (by by_cases e:v.ownBlock=none;exact .inl e;exact .inr e),h.2.1.kept G (by simp) (by simp),grown_own h.2.2.1 G (by simp),h.2.2.2⟩
theorem Drawn.base {w0 w:World} {B c:Nat} {v:Value} {xs:List Int} {o:World} (h:Drawn w0 w B c v xs) (g:o.grownBy w0 (some c)) (hc:c<o.heap.size):Drawn o w B c v xs:=
 ⟨h.1.mono g.size,h.2.1,g.trans h.2.2.1,hc⟩
theorem drawAny_any (B c:Nat) (n:Int) (w:World) (h:Cur w B c) (hn:n≤64):
  Calls Tryz.prog 104 #[.pointer (some ⟨c,0,none⟩),.int .i64 n] w fun e w'=>∃u,e=.returned u∧∃xs:List Int,xs.length≤65∧Drawn w w' B c u xs:=by
 obtain⟨i0,hi,hz0,hz1,hz2⟩:=info_parts Tryz.infoI
 have hBc:=h.lt
 go_enter Tryz.func104,Tryz.ntmps104
 go_wp2_with fail
 refine(draw_any B c n _ h hn).mono ?_
 rintro e w1 ⟨u,rfl,xs,hl,D1⟩
 clear h
 go_wp2_with fail
 refine(once_any B c 8 _ D1.2.1 (by omega)).mono ?_
 rintro e w2 ⟨b,rfl,C2,G2⟩
 replace D1:=D1.draw C2 G2
 clear C2 G2
 cases b with
 |false=>
  go_wp2
  go_ret
  exact⟨_,rfl,xs,by omega,D1⟩
 |true=>
  go_wp2_with fail
  refine(below_any B c 3 _ D1.2.1 (by omega)).mono ?_
  rintro e w3 ⟨x,rfl,hx0,hx1,hx2,C3,G3⟩
  have hx3:=hx1 (by omega)
  replace D1:=D1.draw C3 G3
  clear C3 G3 hx1 hx2
  have hown:=D1.1
  have hsz:=D1.2.2.1.size
  obtain rfl|rfl|rfl:x=0∨x=1∨x=2:=by omega
  ·unfold Own at hown
   go_wp2_with (at_builtin;refine wpList_append_own _ rfl _ _ 24 rfl w.heap.size 2 i0 (.int .i64 0) 1 8 Tryz.underlying24 hi hz0 hz1 hz2 rfl (by decide) _ _ _ rfl (hown.alloc _) _ 1 1 [.int .i64 1] rfl rfl (lit1 w3 1) (by simp[Value.oneCell']) (by unfold maxLen;omega) (by omega) (by simp;omega) ?_)
   intro v' w4 hown' hgrow _
   have HR2:Hid (Drawn w w4 B c v' (xs++[1])):=D1.append (by omega) hown' hgrow
   clear hown hown' hgrow D1 hsz
   go_wp2
   go_ret
   exact⟨_,rfl,xs++[1],by simp;omega,HR2.out⟩
  ·have HR2:Hid (Drawn w (w3.alloc (.cells #[] 2)) B c (.slice (some ⟨w3.heap.size,0,none⟩) 0 0) []):=
    ⟨Own.mono (World.ownsRow_lit w3 #[] 0 (Nat.le_refl _) (Nat.zero_le _) rfl) hsz,(D1.keep (World.grownBy_alloc w3 _ none)).2⟩
   clear hown D1 hsz
   go_wp2
   go_ret
   exact⟨_,rfl,[],by simp,HR2.out⟩
  ·by_cases hz:0<xs.length
   ·obtain⟨g,cap,rfl,hbg,hgl⟩:=World.ownsRow.form hown hz
    obtain⟨m,hm⟩:∃m,m=xs.length:=⟨_,rfl⟩
    have hz':(0:Int)<(m:Int):=by omega
    rw[←hm]at D1 hown⊢
    have HM:Hid (m=xs.length):=hm
    clear hm hz
    have D2:=D1.keep (World.grownBy_alloc w3 (.cells #[.int .i64 (-1),.int .i64 9999,.int .i64 10000] 2) none)
    go_wp2_with fail
    refine(below_any B c 3 _ D2.2.1 (by omega)).mono ?_
    rintro e w4 ⟨y,rfl,hy0,hy1,hy2,C4,G4⟩
    have hy3:=hy1 (by omega)
    have hlit:=lit_kept G4 (by simp;omega)
    replace D2:=D2.draw C4 G4
    clear C4 G4 hy1 hy2 D1 hown hsz
    obtain⟨hfr,⟨z,hc⟩,ho⟩:=D2.1.put HM.out 0 (by have:=HM.out;omega) 0
    have HO:Hid (∀x,Drawn w (w4.setCell ⟨g,0,none⟩ (.int .i64 x)) B c (.slice (some ⟨g,0,none⟩) m cap) (xs.set 0 x)):=by
     intro x
     have gs:=grown_set w4 g 0 (.int .i64 x)
     refine⟨(D2.1.put HM.out 0 (by have:=HM.out;omega) x).2.2,D2.2.1.kept gs (by simp;omega) (fun k e=>by simp at e;omega),grown_own D2.2.2.1 gs (fun k e=>by simp at e;omega),D2.2.2.2⟩
    clear ho D2
    obtain rfl|rfl|rfl:y=0∨y=1∨y=2:=by omega
    ·have hc0:=hlit 0
     clear hlit
     simp at hc0
     go_wp2
     go_ret
     exact⟨_,rfl,_,by rw[List.length_set];omega,HO.out _⟩
    ·have hc0:=hlit 1
     clear hlit
     simp at hc0
     go_wp2
     go_ret
     exact⟨_,rfl,_,by rw[List.length_set];omega,HO.out _⟩
    ·have hc0:=hlit 2
     clear hlit
     simp at hc0
     go_wp2
     go_ret
     exact⟨_,rfl,_,by rw[List.length_set];omega,HO.out _⟩
   ·have hx:xs=[]:=List.eq_nil_of_length_eq_zero (by omega)
    subst hx
    obtain⟨ao,cap,rfl,_,_,_⟩:=D1.1.reads
    have HR2:Hid (Drawn w w3 B c (.slice ao 0 cap) []):=D1
    clear D1 hown hsz hz
    simp only[List.length_nil]
    go_wp2
    go_ret
    exact⟨_,rfl,[],by simp,HR2.out⟩
end Go.Proofs.YtpdggofaobmnlaaGreatDoor
