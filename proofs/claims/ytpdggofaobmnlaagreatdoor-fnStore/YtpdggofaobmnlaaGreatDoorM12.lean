import Derived.Test.YtpdggofaobmnlaaGreatDoorM3
import Derived.Test.YtpdggofaobmnlaaGreatDoorM9
import Derived.Test.YtpdggofaobmnlaaGreatDoorM11
import Derived.Test.YtpdggofaobmnlaaGreatDoorM4
import Derived.Test.YtpdggofaobmnlaaGreatDoorM8
import Derived.Test.YtpdggofaobmnlaaGreatDoorM7
import Derived.Laws.IdiomStrings
import Derived.Deep.RegionHeld3
/- Stores in the state of a long walk. -/
set_option maxRecDepth 20000
set_option maxHeartbeats 2000000
namespace Go.Proofs.YtpdggofaobmnlaaGreatDoor
open Go.ChangeShapes Go.WideShapes Go.ChangeAt Go.RowKit
def Sto (u v q:Value) (xs ys ks:List Int):Item:=
 ⟨u.ownBlock.toList++v.ownBlock.toList++q.ownBlock.toList,0,fun w=>OwnR w 0 u v q xs ys ks,fun _ _ e _ h=>
  ⟨⟨h.1.1.frame (fun b hb=>e b (List.mem_append_left _ (List.mem_append_left _ hb))),h.1.2.1.frame (fun b hb=>e b (List.mem_append_left _ (List.mem_append_right _ hb))),h.1.2.2⟩,h.2.1.frame (fun b hb=>e b (List.mem_append_right _ hb)),h.2.2⟩⟩
theorem Sto.in {u v q:Value} {xs ys ks:List Int} {x:Nat} (hx:x∈(Sto u v q xs ys ks).blocks):u.ownBlock=some x∨v.ownBlock=some x∨q.ownBlock=some x:=by
 simp only[Sto,List.mem_append,Option.mem_toList]at hx
 rcases hx with(hx|hx)|hx
 ·exact .inl hx
 ·exact .inr (.inl hx)
 ·exact .inr (.inr hx)
theorem Sta.store {w wx wy:World} {L:List Item} {u v q:Value} {xs ys ks:List Int} (h:Sta w wx L) (o:OwnR wy wx.heap.size u v q xs ys ks) (b:Below wx.heap.size wx wy):Sta w wy (Sto u v q xs ys ks::L):=
 h.add b (Sto u v q xs ys ks) (o.mono (Nat.zero_le _)) (fun k hk=>by
  rcases Sto.in hk with hk|hk|hk
  ·exact o.1.1.lt k hk
  ·exact o.1.2.1.lt k hk
  ·exact o.2.1.lt k hk)
theorem Marked3.turned {w w':World} {u v q:Value} (h:Marked3 w w' u v q):Turned w w' (u.ownBlock.toList++v.ownBlock.toList++q.ownBlock.toList):=by
 obtain⟨w1,m1,g2⟩:=h
 exact m1.turned.trans (Turned.of_grown g2)
theorem Sta.marked3 {w wx wy:World} {L:List Item} {u v q:Value} {xs ys ks zs ts ms:List Int} (h:Sta w wx L) (n:Nat) (e:L[n]?=some (Sto u v q xs ys ks)) (o:OwnR wy 0 u v q zs ts ms) (m:Marked3 wx wy u v q):Sta w wy (L.set n (Sto u v q zs ts ms)):=
 h.turn n e m.turned (Sto u v q zs ts ms) rfl o
theorem Sta.rA {w wx:World} {L:List Item} {u v q:Value} {xs ys ks:List Int} (h:Sta w wx L) (n:Nat) (e:L[n]?=some (Sto u v q xs ys ks)):Reads wx u xs:=(h.get n e).1.1.reads
theorem Sta.rB {w wx:World} {L:List Item} {u v q:Value} {xs ys ks:List Int} (h:Sta w wx L) (n:Nat) (e:L[n]?=some (Sto u v q xs ys ks)):Reads wx v ys:=(h.get n e).1.2.1.reads
theorem Sta.rK {w wx:World} {L:List Item} {u v q:Value} {xs ys ks:List Int} (h:Sta w wx L) (n:Nat) (e:L[n]?=some (Sto u v q xs ys ks)):Reads wx q ks:=(h.get n e).2.1.reads
theorem OwnR.putBy {w w':World} {base g:Nat} {u v q:Value} {xs ys ks:List Int} {t:TypeId} {cs:Array Value} (h:OwnR w base u v q xs ys ks) (h':StB w g t cs) (hne:t≠2) (b:w.grownBy w' (some g)):OwnR w' base u v q xs ys ks:=
 ⟨⟨h.1.1.putBy h' hne b,h.1.2.1.putBy h' hne b,h.1.2.2⟩,h.2.1.putBy h' hne b,h.2.2⟩
theorem OwnR.neB {w:World} {base g:Nat} {u v q:Value} {xs ys ks:List Int} {t:TypeId} {cs:Array Value} (h:OwnR w base u v q xs ys ks) (h':StB w g t cs) (hne:t≠2) {x:Nat} (hx:x∈(Sto u v q xs ys ks).blocks):x≠g:=by
 rintro rfl
 rcases Sto.in hx with hx|hx|hx
 ·exact h.1.1.ne h' hne hx
 ·exact h.1.2.1.ne h' hne hx
 ·exact h.2.1.ne h' hne hx
theorem OwnR.inB {w:World} {base:Nat} {u v q:Value} {xs ys ks:List Int} (h:OwnR w base u v q xs ys ks) {x:Nat} (hx:x∈(Sto u v q xs ys ks).blocks):base≤x∧x<w.heap.size:=by
 rcases Sto.in hx with hx|hx|hx
 ·exact h.1.1.lt x hx
 ·exact h.1.2.1.lt x hx
 ·exact h.2.1.lt x hx
theorem Sta.addR {w wx wy:World} {L:List Item} (h:Sta w wx L) (b:Below wx.heap.size wx wy) {g:Nat} {t:TypeId} {cs:Array Value} {u v q:Value} {xs ys ks:List Int}
  (hg:StB wy g t cs) (o:OwnR wy wx.heap.size u v q xs ys ks) (lg:wx.heap.size≤g) (ti:t≠2):Sta w wy (Blk g t cs::Sto u v q xs ys ks::L):=by
 have h':=h.next b
 have sg:=hg.lt
 have hL:∀j∈L,∀x∈j.blocks,x<wx.heap.size:=fun j hj x hx=>(h.bound j hj x hx).2
 have sz:=h.below.size
 refine⟨h'.below,?_,?_,?_,?_,?_,h'.apart⟩
 ·intro i hi
  simp only[List.mem_cons]at hi
  rcases hi with rfl|rfl|hi
  ·exact Nat.zero_le _
  ·exact Nat.zero_le _
  ·exact h'.olds i hi
 ·intro i hi
  simp only[List.mem_cons]at hi
  rcases hi with rfl|rfl|hi
  ·exact hg
  ·exact o.mono (Nat.zero_le _)
  ·exact h'.holds i hi
 ·intro i hi x hx
  simp only[List.mem_cons]at hi
  rcases hi with rfl|rfl|hi
  ·simp only[Blk,List.mem_singleton]at hx;subst hx;omega
  ·have:=o.inB hx;omega
  ·exact h'.bound i hi x hx
 ·intro j hj x hx hx'
  simp only[Blk,List.mem_singleton]at hx
  subst hx
  simp only[List.mem_cons]at hj
  rcases hj with rfl|hj
  ·exact o.neB hg ti hx' rfl
  ·have:=hL j hj x hx';omega
 ·intro j hj x hx hx'
  have:=(o.inB hx).1
  have:=hL j hj x hx'
  omega
theorem Sta.addR3 {w wx wy:World} {L:List Item} (h:Sta w wx L) (b:Below wx.heap.size wx wy) {g k:Nat} {t s:TypeId} {cs ds:Array Value} {u v q:Value} {xs ys ks:List Int}
  (hg:StB wy g t cs) (hk:StB wy k s ds) (o:OwnR wy wx.heap.size u v q xs ys ks) (lg:wx.heap.size≤g) (lk:wx.heap.size≤k) (ts:t≠s) (ti:t≠2) (si:s≠2):
  Sta w wy (Blk g t cs::Blk k s ds::Sto u v q xs ys ks::L):=by
 have h':=h.addR b hk o lk si
 have sg:=hg.lt
 have hgk:=hg.typ hk ts
 have hL:∀j∈L,∀x∈j.blocks,x<wx.heap.size:=fun j hj x hx=>(h.bound j hj x hx).2
 have sz:=h.below.size
 refine⟨h'.below,?_,?_,?_,?_,h'.apart⟩
 ·intro i hi
  rw[List.mem_cons]at hi
  rcases hi with rfl|hi
  ·exact Nat.zero_le _
  ·exact h'.olds i hi
 ·intro i hi
  rw[List.mem_cons]at hi
  rcases hi with rfl|hi
  ·exact hg
  ·exact h'.holds i hi
 ·intro i hi x hx
  rw[List.mem_cons]at hi
  rcases hi with rfl|hi
  ·simp only[Blk,List.mem_singleton]at hx;subst hx;omega
  ·exact h'.bound i hi x hx
 ·intro j hj x hx hx'
  simp only[Blk,List.mem_singleton]at hx
  subst hx
  simp only[List.mem_cons]at hj
  rcases hj with rfl|rfl|hj
  ·simp only[Blk,List.mem_singleton]at hx';exact hgk hx'
  ·exact o.neB hg ti hx' rfl
  ·have:=hL j hj x hx';omega
end Go.Proofs.YtpdggofaobmnlaaGreatDoor
namespace Go.Proofs.YtpdggofaobmnlaaGreatDoor
open Go.ChangeShapes Go.WideShapes Go.ChangeAt Go.RowKit
theorem Reads.frameQ {w w':World} {q off n cap:Nat} {xs:List Int} (h:Reads w (.slice (some ⟨q,off,none⟩) n cap) xs) (e:w'.heap[q]?=w.heap[q]?):Reads w' (.slice (some ⟨q,off,none⟩) n cap) xs:=by
 obtain⟨ao,c,e1,hl,hm,hc⟩:=h
 simp only[Value.slice.injEq]at e1
 obtain⟨rfl,rfl,rfl⟩:=e1
 refine⟨_,_,rfl,hl,hm,?_⟩
 rcases hc with hc|⟨b,o,e2,hc⟩
 ·exact .inl hc
 ·refine .inr ⟨b,o,e2,fun j hj=>?_⟩
  simp only[Option.some.injEq,Addr.mk.injEq]at e2
  obtain⟨rfl,rfl, -⟩:=e2
  rw[World.cell?_of_block (a:=⟨q,off+j,none⟩) e]
  exact hc j hj
def Rds (q off n cap:Nat) (xs:List Int):Item:=⟨[q],0,fun w=>Reads w (.slice (some ⟨q,off,none⟩) n cap) xs,fun _ _ e _ h=>h.frameQ (e q (by simp))⟩
theorem Sta.rds {w wx wy:World} {L:List Item} {B c q off n cap:Nat} {xs:List Int} (h:Sta w wx L) (m:Nat) (e:L[m]?=some (CurI B c)) (r:Reads wy (.slice (some ⟨q,off,none⟩) n cap) xs) (hq:wx.heap.size≤q) (hq2:q<wy.heap.size) (C:Cur wy B c) (G:wx.grownBy wy (some c)):Sta w wy (Rds q off n cap xs::L):=
 h.turnAdd m e (Turned.of_grown G) C (Rds q off n cap xs) r (fun b hb=>by simp only[Rds,List.mem_singleton]at hb;subst hb;exact⟨hq,hq2⟩)
theorem l12Draw_any {w0 w:World} {L:List Item} {B c:Nat} (hS:Sta w0 w (CurI B c::L)):
  Calls Tryz.prog 28 #[.pointer (some ⟨c,0,none⟩)] w fun e w'=>∃a b q off n cap xs ys h,e=.returned (SRV a b (.slice (some ⟨q,off,none⟩) n cap) h)∧xs.length≤65∧ys.length≤65∧h.ks.length≤4∧Sta w0 w' (Rds q off n cap h.ks::Dsk a b xs ys::CurI B c::L):=by
 obtain⟨w1,hw1⟩:∃w1,w1=w.alloc (.cells #[.slice none 0 0,.slice none 0 0,.slice none 0 0,.int .i64 0,.int .i64 0,.int .i64 0] 30):=⟨_,rfl⟩
 have HS:Hid (Sta w0 w1 (CurI B c::Blk w.heap.size 30 #[.slice none 0 0,.slice none 0 0,.slice none 0 0,.int .i64 0,.int .i64 0,.int .i64 0]::L)):=by
  have h1:=hS.box 30 #[.slice none 0 0,.slice none 0 0,.slice none 0 0,.int .i64 0,.int .i64 0,.int .i64 0]
  rw[←hw1]at h1
  exact h1.front 1 rfl
 clear hS
 go_enter Tryz.func28,Tryz.ntmps28
 go_upto_region 1 with fail
 rw[←hw1]
 clear hw1
 go_wp2_with fail
 refine(l3Draw_any HS.out).mono ?_
 rintro e w2 ⟨a,b,rfl,xs,ys,hx,hy,S2⟩
 replace HS:Hid (Sta w0 w2 _):=S2
 clear S2
 obtain⟨ao,ac,rfl⟩:=(HS.out.readsU 0 rfl).form
 obtain⟨bo,bc,rfl⟩:=(HS.out.readsV 0 rfl).form
 have c2:=l8draw_any B c w2 (HS.out.get 1 rfl)
 unfold HV hdA at c2
 go_wp2_with fail
 refine c2.mono ?_
 rintro e w3 ⟨h,q,cap,rfl,hl,hq,o3,C3,G3⟩
 have hq3:q<w3.heap.size:=(o3.lt q rfl).2
 have hk4:Hid (h.ks.length≤4):=by rw[Hid,hl];exact Nat.le_refl _
 replace HS:Hid (Sta w0 w3 _):=HS.out.rds 1 rfl o3.reads hq hq3 C3 G3
 clear c2 o3 C3 G3 hq hq3 hl
 obtain⟨w4,hw4⟩:∃w4,w4=w3.alloc (.cells #[.slice ao xs.length ac,.slice bo ys.length bc,.slice (some ⟨q,0,none⟩) 4 cap,.int .i64 h.kd,.int .i64 h.ho,.int .i64 h.tu] 30):=⟨_,rfl⟩
 replace HS:=HS.out.box 30 #[.slice ao xs.length ac,.slice bo ys.length bc,.slice (some ⟨q,0,none⟩) 4 cap,.int .i64 h.kd,.int .i64 h.ho,.int .i64 h.tu]
 rw[←hw4]at HS
 replace HS:Hid (Sta w0 w4 _):=HS
 go_upto_region 2 with fail
 rw[←hw4]
 clear hw4
 obtain⟨g,hg⟩:∃g,g=w3.heap.size:=⟨_,rfl⟩
 rw[←hg]at HS⊢
 clear hg
 go_wp2_with fail
 refine(once_any B c 14 w4 (HS.out.get 3 rfl) (by omega)).mono ?_
 rintro e w5 ⟨bb,rfl,C5,G5⟩
 replace HS:Hid (Sta w0 w5 _):=HS.out.cur 3 rfl C5 G5
 clear C5 G5
 cases bb with
 |false=>
  have s5:StB w5 g 30 (srA (.slice ao xs.length ac) (.slice bo ys.length bc) (.slice (some ⟨q,0,none⟩) 4 cap) h):=HS.out.get 0 rfl
  have r5:StB w5 w.heap.size 30 zeR:=HS.out.get 4 rfl
  go_wp2_with (first
   |(refine wpList_getS Tryz.isR rfl _ rfl g rfl _ rfl s5 ?_)
   |(refine wpList_putS Tryz.isR rfl _ _ rfl w.heap.size (srA (.slice ao xs.length ac) (.slice bo ys.length bc) (.slice (some ⟨q,0,none⟩) 4 cap) h) zeR rfl rfl rfl rfl (srA_one h rfl rfl rfl) r5 ?_;intro w6 s6 g6))
  refine bodyPost_ret (results_S Tryz.isR rfl _ _ w.heap.size _ rfl rfl s6) rfl ?_
  have H6:=HS.out.turn 4 rfl (Turned.of_grown g6) (Blk w.heap.size 30 (srA (.slice ao xs.length ac) (.slice bo ys.length bc) (.slice (some ⟨q,0,none⟩) 4 cap) h)) rfl s6
  exact⟨_,_,q,0,4,cap,xs,ys,h,rfl,hx,hy,hk4.out,(H6.drop 4).drop 0⟩
 |true=>
  have c6:=l8drawAny_any B c w5 (HS.out.get 3 rfl)
  unfold HV hdA at c6
  go_wp2_with fail
  refine c6.mono ?_
  rintro e w6 ⟨f,u,rfl,D6,C6,G6⟩
  obtain⟨q6,off6,cap6,rfl,hq6,hq7⟩:=D6.2.1
  have hf4:Hid (f.ks.length≤4):=D6.2.2
  replace HS:Hid (Sta w0 w6 _):=HS.out.rds 3 rfl D6.1 hq6 hq7 C6 G6
  clear c6 D6 C6 G6 hq6 hq7 hk4
  have p6:StB w6 g 30 #[.slice ao xs.length ac,.slice bo ys.length bc,.slice (some ⟨q,0,none⟩) 4 cap,.int .i64 h.kd,.int .i64 h.ho,.int .i64 h.tu]:=HS.out.get 1 rfl
  have k2:=p6.cell 2 rfl
  have k3:=p6.cell 3 rfl
  have k4:=p6.cell 4 rfl
  have k5:=p6.cell 5 rfl
  have f2:=p6.frozen 2
  have f3:=p6.frozen 3
  have f4:=p6.frozen 4
  have f5:=p6.frozen 5
  go_upto_region 4 with fail
  obtain⟨w7,hw7⟩:∃w7,w7=(((w6.setCell ⟨g,2,none⟩ (.slice (some ⟨q6,off6,none⟩) f.ks.length cap6)).setCell ⟨g,3,none⟩ (.int .i64 f.kd)).setCell ⟨g,4,none⟩ (.int .i64 f.ho)).setCell ⟨g,5,none⟩ (.int .i64 f.tu):=⟨_,rfl⟩
  rw[←hw7]
  have G7:w6.grownBy w7 (some g):=by rw[hw7];exact(((grownSet _ _ _ _).trans (grownSet _ _ _ _)).trans (grownSet _ _ _ _)).trans (grownSet _ _ _ _)
  have s7:StB w7 g 30 (srA (.slice ao xs.length ac) (.slice bo ys.length bc) (.slice (some ⟨q6,off6,none⟩) f.ks.length cap6) f):=by rw[hw7];exact(((p6.put 2 _ rfl).put 3 _ rfl).put 4 _ rfl).put 5 _ rfl
  have H7:=HS.out.turn 1 rfl (Turned.of_grown G7) (Blk g 30 (srA (.slice ao xs.length ac) (.slice bo ys.length bc) (.slice (some ⟨q6,off6,none⟩) f.ks.length cap6) f)) rfl s7
  have HT:Hid (Sta w0 w7 _):=H7
  have r7:StB w7 w.heap.size 30 zeR:=HT.out.get 5 rfl
  clear hw7 G7 H7 HS p6 k2 k3 k4 k5 f2 f3 f4 f5
  go_wp2_with (first
   |(refine wpList_getS Tryz.isR rfl _ rfl g rfl _ rfl s7 ?_)
   |(refine wpList_putS Tryz.isR rfl _ _ rfl w.heap.size (srA (.slice ao xs.length ac) (.slice bo ys.length bc) (.slice (some ⟨q6,off6,none⟩) f.ks.length cap6) f) zeR rfl rfl rfl rfl (srA_one f rfl rfl rfl) r7 ?_;intro w8 s8 g8))
  refine bodyPost_ret (results_S Tryz.isR rfl _ _ w.heap.size _ rfl rfl s8) rfl ?_
  have H8:=HT.out.turn 5 rfl (Turned.of_grown g8) (Blk w.heap.size 30 (srA (.slice ao xs.length ac) (.slice bo ys.length bc) (.slice (some ⟨q6,off6,none⟩) f.ks.length cap6) f)) rfl s8
  exact⟨_,_,q6,off6,f.ks.length,cap6,xs,ys,f,rfl,hx,hy,hf4.out,((H8.drop 5).drop 2).drop 1⟩
end Go.Proofs.YtpdggofaobmnlaaGreatDoor
namespace Go.Proofs.YtpdggofaobmnlaaGreatDoor
open Go.ChangeShapes Go.WideShapes Go.ChangeAt Go.RowKit
end Go.Proofs.YtpdggofaobmnlaaGreatDoor
namespace Go.Proofs.YtpdggofaobmnlaaGreatDoor
open Go.ChangeShapes Go.WideShapes Go.ChangeAt Go.RowKit
def Buf (w:World) (base g n cap:Nat) (l:Bs):Prop:=
 base≤g∧g<w.heap.size∧n=l.length∧n≤cap∧cap≤maxLen∧∀j (h:j<l.length),w.cell? ⟨g,j,none⟩=some (U l[j])∧w.frozen? ⟨g,j,none⟩=false
theorem Buf.kept {w w':World} {base g n cap:Nat} {l:Bs} {row:Option Nat} (h:Buf w base g n cap l) (hg:w.grownBy w' row) (hne:some g≠row):Buf w' base g n cap l:=by
 obtain⟨h1,h2,h3,h4,h5,h6⟩:=h
 have hb:=hg.block g h2 hne
 exact⟨h1,Nat.lt_of_lt_of_le h2 hg.size,h3,h4,h5,fun j hj=>⟨(World.cell?_of_block (a:=⟨g,j,none⟩) hb).trans (h6 j hj).1,(World.frozen?_of_block (a:=⟨g,j,none⟩) hb).trans (h6 j hj).2⟩⟩
theorem Buf.shrink {w:World} {base g n cap:Nat} {l:Bs} (h:Buf w base g n cap l) (k:Nat) (hk:k≤n):Buf w base g k cap (l.take k):=by
 obtain⟨h1,h2,h3,h4,h5,h6⟩:=h
 refine⟨h1,h2,by simp;omega,by omega,h5,fun j hj=>?_⟩
 have hj':j<k∧j<l.length:=by simp at hj;omega
 have:=h6 j hj'.2
 rw[List.getElem_take]
 exact this
theorem Buf.of_own {w:World} {base g n cap:Nat} {l:Bs} (h:OwnU w base (.slice (some ⟨g,0,none⟩) n cap) l):Buf w base g n cap l:=by
 have hlt:=h.lt g rfl
 rcases h.2 with⟨e,_⟩|⟨g',cap',cur,e,hb,hg,hnc,hcm,hcs,ht⟩
 ·cases e
 ·cases e
  refine⟨hlt.1,hlt.2,rfl,hnc,hcm,fun j hj=>⟨?_,World.ownsRow.frozenAt h j⟩⟩
  have:=World.ownsRow.cellAt (w:=w) h j (by omega)
  rw[this]
  simp[hj]
theorem Buf.str {w:World} {base g n cap:Nat} {l:Bs} (h:Buf w base g n cap l):(convert 22 9 (.slice (some ⟨g,0,none⟩) n cap)).run Tryz.prog w=.ok (S l) w:=by
 obtain⟨h1,h2,rfl,h4,h5,h6⟩:=h
 refine run_convert_bytes_back (P:=Tryz.prog) w 22 9 5 ⟨g,0,none⟩ cap l Tryz.underlying22 Tryz.underlying5 Tryz.underlying9 (fun j hj=>?_)
 rw[show(⟨g,0,none⟩:Addr).add j=⟨g,j,none⟩ by unfold Addr.add;split<;>simp_all]
 exact(h6 j hj).1
theorem run_bytes (w:World) (s:Bs) (hs:s.length≤1000000):∃cap w1,(convert 9 22 (.string ⟨s.toArray⟩)).run Tryz.prog w=.ok (.slice (some ⟨w.heap.size,0,none⟩) s.length cap) w1∧Buf w1 w.heap.size w.heap.size s.length cap s∧w.grownBy w1 none:=by
 have hr:=run_bytes_of_string (P:=Tryz.prog) w 9 22 5 ⟨s.toArray⟩ Tryz.underlying9 Tryz.underlying22 Tryz.underlying5
 have hsz:(⟨s.toArray⟩:ByteArray).size=s.length:=rfl
 rw[hsz]at hr
 refine⟨_,_,hr,?_,⟨rfl,rfl,rfl,by simp,fun k hk _=>Below.heap_alloc w.drew _ k hk⟩⟩
 have hge:=grownCap_ge w s.length 0 5
 have hcm:=grownCap_le_maxLen w s.length 0 5 (by unfold maxLen;omega)
 generalize grownCap w s.length 0 5=cap at hge hcm
 have hh:(w.drew.alloc (.cells (bytesRow ⟨s.toArray⟩ cap) 5 ((bytesRow ⟨s.toArray⟩ cap).size,(bytesRow ⟨s.toArray⟩ cap).size+1))).heap[w.heap.size]?=some (.cells (bytesRow ⟨s.toArray⟩ cap) 5 ((bytesRow ⟨s.toArray⟩ cap).size,(bytesRow ⟨s.toArray⟩ cap).size+1)):=heap_alloc_new w.drew _
 have hrs:s.length≤(bytesRow ⟨s.toArray⟩ cap).size:=by simp[bytesRow,ByteArray.size]
 refine⟨Nat.le_refl _,by simp,rfl,hge,hcm,fun j hj=>⟨?_,?_⟩⟩
 ·rw[cell_of_row _ w.heap.size j _ _ _ hh]
  unfold bytesRow
  rw[Array.getElem?_append_left (by simpa using hj)]
  simp[hj,U,byteI]
 ·have h1:¬(bytesRow ⟨s.toArray⟩ cap).size≤j:=by omega
  simp only[World.frozen?,hh]
  simp[h1]
theorem step_appendU {ops:Array Oper} {o:Oper} {a:Act} {w:World} {K:Act→World→Prop} {Q:Exit→Act→World→Prop} {E:Prop} (hgd:o.guard=none) (s x:Operand)
  (ho:o.op=.call {callee:=.builtin .append,args:=#[s,x],argTypes:=#[22,22]}) (base g n cap:Nat) (l:Bs) (hs:a.eval s=.slice (some ⟨g,0,none⟩) n cap) (hown:OwnU w base (.slice (some ⟨g,0,none⟩) n cap) l)
  (ad:Addr) (m c:Nat) (l2:Bs) (hx:a.eval x=.slice (some ad) m c) (hm:m=l2.length) (hnews:∀j (hj:j<l2.length),w.cell? (ad.add j)=some (U l2[j])) (hsm:l.length+l2.length≤10000000) (hbase:base≤w.heap.size)
  (h:∀g' cap' w',OwnU w' base (.slice (some ⟨g',0,none⟩) (n+m) cap') (l++l2)→w.grownBy w' (some g)→K (a.put o.dst (.slice (some ⟨g',0,none⟩) (n+m) cap')) w'):if Region.wanted o (yielded ops a.tmps)=true then Oper.wp Tryz.prog o a w K Q else E:=by
 have hw:Region.wanted o (yielded ops a.tmps)=true:=by simp[Region.wanted,hgd]
 rw[if_pos hw]
 obtain⟨i0,hi,hz0,hz1,hz2⟩:=info_parts Tryz.infoU
 have hn:n=l.length:=by
  rcases hown.2 with⟨e,_⟩|⟨g',cap',cur,e,_⟩
  ·cases e
  ·cases e;rfl
 subst hn hm
 have hnews':∀j u,(l2.map U)[j]?=some u→w.cell? (ad.add j)=some u:=by
  intro j u hj
  have hlt:j<l2.length:=by
   rcases Nat.lt_or_ge j l2.length with h|h
   ·exact h
   ·rw[List.getElem?_eq_none (by simpa using h)]at hj;cases hj
  rw[hnews j hlt]
  simpa[hlt]using hj
 have hone:∀u∈l2.map U,u.oneCell'=true:=by
  intro u hu
  obtain⟨b,_,rfl⟩:=List.mem_map.1 hu
  rfl
 obtain⟨v',w',hrun,r1,r2,r3⟩:=run_append_own (P:=Tryz.prog) w base 22 o.type 5 i0 (.int .u8 0) 1 1 Tryz.underlying22 hi hz0 hz1 hz2 rfl (by decide) _ l.length (l.map U) hown ad l2.length c (l2.map U) (by simp) hnews' hone (by unfold maxLen;omega) (by omega) hbase
 have hnil:v'≠.slice none 0 0:=fun e=>by have:=(r3.1 e).1;cases this
 rw[←List.map_append]at r1
 rcases r1.2 with⟨e,_⟩|⟨g',cap',cur,e,rr⟩
 ·exact absurd e hnil
 ·subst e
  unfold Oper.wp
  simp[execOp,ho,resolve,invoke,builtin,hs,hx,hrun,Result.andThen]
  refine h g' cap' w' ?_ r2
  unfold OwnU
  rw[List.length_append]
  exact r1
def DrawnB (w0 w:World) (B c g n cap:Nat) (l:Bs):Prop:=Buf w w0.heap.size g n cap l∧Cur w B c∧w0.grownBy w (some c)∧c<w0.heap.size
theorem DrawnB.draw {w0 w w':World} {B c g n cap:Nat} {l:Bs} (h:DrawnB w0 w B c g n cap l) (C:Cur w' B c) (G:w.grownBy w' (some c)):DrawnB w0 w' B c g n cap l:=
 ⟨h.1.kept G (by have:=h.1.1;have:=h.2.2.2;simp;omega),C,h.2.2.1.trans G,h.2.2.2⟩
theorem DrawnB.put {w0 w:World} {B c g n cap:Nat} {l:Bs} (h:DrawnB w0 w B c g n cap l) (hB:B≤w0.heap.size) (k:Nat) (b:UInt8):DrawnB w0 (w.setCell ⟨g,k,none⟩ (U b)) B c g n cap (l.set k b):=by
 obtain⟨h1,h2,h3,h4⟩:=h
 have hg:=grown_set w g k (U b)
 refine⟨?_,h2.kept hg (by have:=h1.1;simp;omega) (fun j e=>by cases e;have:=h1.1;omega),grown_ownU h3 hg (fun j e=>by cases e;exact h1.1),h4⟩
 obtain⟨g1,g2,g3,g4,g5,g6⟩:=h1
 refine⟨g1,by simpa using g2,by simpa using g3,g4,g5,fun j hj=>?_⟩
 have hj':j<l.length:=by simpa using hj
 rw[World.frozen?_setCell,List.getElem_set]
 refine⟨?_,(g6 j hj').2⟩
 by_cases e:k=j
 ·subst e
  rw[if_pos rfl]
  exact World.cell?_setCell_same' w ⟨g,k,none⟩ (U b) (by rw[(g6 k hj').1];rfl)
 ·rw[if_neg e,←(g6 j hj').1]
  apply World.cell?_setCell_other
  intro h
  cases h
  exact e rfl
theorem Buf.newsD {w:World} {base g n cap:Nat} {l:Bs} (h:Buf w base g n cap l) (k j:Nat) (hj:j<(l.drop k).length):w.cell? ((⟨g,k,none⟩:Addr).add j)=some (U (l.drop k)[j]):=by
 have hj':k+j<l.length:=by simp at hj;omega
 rw[show(⟨g,k,none⟩:Addr).add j=⟨g,k+j,none⟩ by unfold Addr.add;split<;>simp_all,(h.2.2.2.2.2 (k+j) hj').1,List.getElem_drop]
theorem DrawnB.keep {w0 w w':World} {B c g n cap:Nat} {l:Bs} (h:DrawnB w0 w B c g n cap l) (G:w.grownBy w' none):DrawnB w0 w' B c g n cap l:=
 ⟨h.1.kept G (by simp),h.2.1.kept G (by simp) (by simp),grown_ownU h.2.2.1 G (by simp),h.2.2.2⟩
theorem Buf.news {w:World} {base g n cap:Nat} {l:Bs} (h:Buf w base g n cap l) (j:Nat) (hj:j<l.length) (k:Nat) (hk:j<(l.take k).length):w.cell? ((⟨g,0,none⟩:Addr).add j)=some (U (l.take k)[j]):=by
 rw[show(⟨g,0,none⟩:Addr).add j=⟨g,j,none⟩ by unfold Addr.add;split<;>simp_all,(h.2.2.2.2.2 j hj).1,List.getElem_take]
theorem DrawnB.grow {w0 w w':World} {B c g n cap g' n' cap' a:Nat} {l l':Bs} (h:DrawnB w0 w B c g n cap l) (hB:B≤w0.heap.size) (G:w.grownBy w' (some a)) (ha:w0.heap.size≤a) (o:OwnU w' w0.heap.size (.slice (some ⟨g',0,none⟩) n' cap') l'):DrawnB w0 w' B c g' n' cap' l':=
 ⟨Buf.of_own o,h.2.1.kept G (by have:=h.2.2.2;simp;omega) (fun k e=>by cases e;omega),grown_ownU h.2.2.1 G (fun k e=>by cases e;exact ha),h.2.2.2⟩
theorem DrawnB.growKeep {w0 w w':World} {B c g n cap a:Nat} {l:Bs} (h:DrawnB w0 w B c g n cap l) (hB:B≤w0.heap.size) (G:w.grownBy w' (some a)) (ha:w0.heap.size≤a) (hne:g≠a):DrawnB w0 w' B c g n cap l:=
 ⟨h.1.kept G (by simpa using hne),h.2.1.kept G (by have:=h.2.2.2;simp;omega) (fun k e=>by cases e;omega),grown_ownU h.2.2.1 G (fun k e=>by cases e;exact ha),h.2.2.2⟩
theorem OwnU.alloc {w:World} {base:Nat} {v:Value} {l:Bs} (h:OwnU w base v l) (o:Obj):OwnU (w.alloc o) base v l:=World.ownsRow.alloc h o
theorem litU1' (w:World) (b:UInt8) (j:Nat) (hj:j<[b].length):(w.alloc (.cells #[U b] 5)).cell? ((⟨w.heap.size,0,none⟩:Addr).add j)=some (U [b][j]):=by
 have e:j=0:=by simpa using hj
 subst e
 exact litU1 w b 0 _ rfl
theorem framedS_len (t:Bs) (h:t.length≤301):(framedS t).length≤400:=by
 unfold framedS
 split
 ·have h1:=dec_len 2 t.length (by omega)
  have h2:=dec_len 5 (chk t).toNat (by have:=chk_bd t;omega)
  simp[framed];omega
 ·simp
end Go.Proofs.YtpdggofaobmnlaaGreatDoor
