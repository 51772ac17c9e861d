/- Lists are copied: toInt64S and l1Copy answer the same list in new memory, and write nothing that was there. -/
import Derived.Test.YthmnmaemnihkeaaGreatDoorM1
import Derived.OwnWalk
import Derived.Laws.AppendOwnNone
import Derived.WalkSpells
import Derived.Below
set_option maxRecDepth 20000
set_option maxHeartbeats 1000000
namespace Go.Proofs.YthmnmaemnihkeaaGreatDoor
open Go.ChangeShapes Go.WideShapes Go.ChangeAt Go.RowKit
theorem zeros_eq (n:Nat):(madeCells #[Value.int .i64 0] n).toList=(List.replicate n (0:Int)).map (Value.int .i64):=by
 rw[toList_madeCells_one,List.map_replicate]
theorem fill_step (xs:List Int) (j:Nat) (h:j<xs.length):((xs.take j++List.replicate (xs.length-j) 0).set j (xs.getD j 0))=xs.take (j+1)++List.replicate (xs.length-(j+1)) 0:=by
 have hl:(xs.take j).length=j:=by simp;omega
 rw[List.set_append_right _ _ (by omega),hl,Nat.sub_self,take_snoc xs j h,show xs.length-j=(xs.length-(j+1))+1 by omega,List.replicate_succ,List.set_cons_zero]
 simp
theorem to_any (v:Value) (xs:List Int) (w:World) (h:Reads w v xs) (hbig:xs.length≤1099511627776):
  Calls Tryz.prog 106 #[v] w fun e w'=>∃u,e=.returned u∧Own w' w.heap.size u xs∧Below w.heap.size w w':=by
 obtain⟨i0,hi,hz0,hz1,hz2⟩:=info_parts Tryz.infoI
 obtain⟨ao,cap,rfl,hl,⟨hm, -⟩,hc⟩:=h
 obtain⟨n,hn⟩:∃n,n=xs.length:=⟨_,rfl⟩
 rw[←hn]at hl hc hbig⊢
 have HN:Hid (n=xs.length):=hn
 clear hn
 unfold maxLen at hm
 have hcell:∀j,j<n→∃b off,ao=some ⟨b,off,none⟩∧b<w.heap.size∧w.cell? ⟨b,off+j,none⟩=some (.int .i64 (xs.getD j 0)):=by
  intro j hj
  rcases hc with e|⟨b,off,e,h4⟩
  ·have:=HN.out;rw[e]at this;simp at this;omega
  ·exact⟨b,off,e,World.block_lt_of_cell? w _ (h4 j hj),h4 j hj⟩
 clear hc
 go_enter Tryz.func106,Tryz.ntmps106
 go_wp2_with (refine wpList_make_full _ rfl _ _ 28 rfl w.heap.size 2 i0 (.int .i64 0) 1 Tryz.underlying28 hi hz0 hz1 _ _ _ _ n rfl rfl rfl rfl (by rw[hz2];omega) (by unfold maxLen;omega) (Nat.le_refl _) ?_)
 intro w1 hown hgr
 rw[zeros_eq]at hown
 have HO:Hid (Own w1 w.heap.size (.slice (some ⟨w.heap.size,0,none⟩) n n) (List.replicate n 0)∧Below w.heap.size w w1):=by
  refine⟨?_,(Below.refl _ _).grown hgr (Nat.le_refl _) (fun k e=>by cases e)⟩
  unfold Own
  simpa using hown
 clear hown hgr
 go_wp2
 go_loopw [4] (fun i wr=>∃j:Nat,j≤n∧i=.int .i64 j∧Hid (Own wr w.heap.size (.slice (some ⟨w.heap.size,0,none⟩) n n) (xs.take j++List.replicate (xs.length-j) 0)∧Below w.heap.size w wr)) (fun i _=>n-(intOf i).toNat)
 case atStart=>exact⟨0,Nat.zero_le _,rfl,by have this:=HO.out;rw[HN.out]at this⊢;simpa[Hid]using this⟩
 case round=>
  obtain⟨j,hj,rfl,HR⟩:=hrel
  have hn':=HN.out
  have hlen:(xs.take j++List.replicate (xs.length-j) (0:Int)).length=n:=by simp;omega
  by_cases hlt:(j:Int)<(n:Int)
  ·obtain⟨b,off,rfl,hb,hc0⟩:=hcell j (by omega)
   have hc1:=(HR.out.2.cell (p:=⟨b,off+j,none⟩) hb).trans hc0
   obtain⟨x,hx⟩:∃x,x=xs.getD j 0:=⟨_,rfl⟩
   rw[←hx]at hc1
   have hown:wr.ownsRow w.heap.size 2 1 (.slice (some ⟨w.heap.size,0,none⟩) n n) n ((xs.take j++List.replicate (xs.length-j) 0).map (Value.int .i64)):=by
    have:=HR.out.1
    unfold Own at this
    rwa[hlen]at this
   have hfr:=World.ownsRow.frozenAt hown j
   obtain⟨y,hc⟩:∃y,wr.cell? ⟨w.heap.size,j,none⟩=some y:=by
    have:=World.ownsRow.cellAt hown j (by omega)
    rw[this]
    exact⟨_,List.getElem?_eq_getElem (by simp;omega)⟩
   have hst:=World.ownsRow.stored hown j (.int .i64 x)
   have HS:Hid (Own (wr.setCell ⟨w.heap.size,j,none⟩ (.int .i64 x)) w.heap.size (.slice (some ⟨w.heap.size,0,none⟩) n n) (xs.take (j+1)++List.replicate (xs.length-(j+1)) 0)∧Below w.heap.size w (wr.setCell ⟨w.heap.size,j,none⟩ (.int .i64 x))):=by
    refine⟨?_,HR.out.2.setCell (Nat.le_refl _) _⟩
    have:=hst.1
    rw[←List.map_set,hx,fill_step xs j (by omega)]at this
    unfold Own
    rw[←hx]at this
    rwa[show(xs.take (j+1)++List.replicate (xs.length-(j+1)) (0:Int)).length=n by simp;omega]
   clear hst hown HR hlen hn' hcell hc0 hx HO
   go_wp2
   go_roundw
   case rel=>exact⟨j+1,by omega,by go_num,HS⟩
   case measure=>simp[intOf];omega
  ·clear hn' hlen
   go_wp2
   go_ret
   have hjn:j=xs.length:=by have:=HN.out;omega
   have this:=HR.out
   rw[hjn,List.take_length,Nat.sub_self,List.replicate_zero,List.append_nil]at this
   exact⟨_,rfl,this⟩
theorem Own.put {w:World} {base g n cap:Nat} {xs:List Int} (h:Own w base (.slice (some ⟨g,0,none⟩) n cap) xs) (hn:n=xs.length) (j:Nat) (hj:j<n) (x:Int):
  w.frozen? ⟨g,j,none⟩=false∧(∃y,w.cell? ⟨g,j,none⟩=some y)∧Own (w.setCell ⟨g,j,none⟩ (.int .i64 x)) base (.slice (some ⟨g,0,none⟩) n cap) (xs.set j x):=by
 subst hn
 have hown:w.ownsRow base 2 1 (.slice (some ⟨g,0,none⟩) xs.length cap) xs.length (xs.map (Value.int .i64)):=h
 refine⟨World.ownsRow.frozenAt hown j,?_,?_⟩
 ·rw[World.ownsRow.cellAt hown j (by omega)]
  exact⟨_,List.getElem?_eq_getElem (by simpa using hj)⟩
 ·have:=(World.ownsRow.stored hown j (.int .i64 x)).1
  rw[←List.map_set]at this
  unfold Own
  rwa[List.length_set]
theorem copy_any (v:Value) (xs:List Int) (w:World) (h:Reads w v xs) (hbig:xs.length≤1099511627776):
  Calls Tryz.prog 76 #[v] w fun e w'=>∃u,e=.returned u∧Own w' w.heap.size u xs∧Below w.heap.size w w':=by
 obtain⟨i0,hi,hz0,hz1,hz2⟩:=info_parts Tryz.infoI
 obtain⟨ao,cap,rfl,hl,hm,hc⟩:=h
 have hown:(w.alloc (.cells #[] 2)).ownsRow w.heap.size 2 1 (.slice (some ⟨w.heap.size,0,none⟩) 0 0) 0 []:=World.ownsRow_lit w #[] 0 (Nat.le_refl _) (Nat.zero_le _) rfl
 rcases ao with _|ad
 ·have e0:cap=0:=hm.2 rfl
  subst e0
  have e1:xs=[]:=List.eq_nil_of_length_eq_zero (by omega)
  subst e1
  clear hc hm hl
  go_enter Tryz.func76,Tryz.ntmps76
  go_wp2_with (at_builtin;refine wpList_append_own_none rfl _ _ 28 rfl w.heap.size 2 i0 1 Tryz.underlying28 hi _ _ _ rfl hown rfl ?_)
  go_wp2
  go_ret
  exact⟨_,rfl,hown,(Below.refl _ _).alloc (Nat.le_refl _) _⟩
 ·obtain⟨n,hn⟩:∃n,n=xs.length:=⟨_,rfl⟩
  have hnews:∀j u,(xs.map (Value.int .i64))[j]?=some u→(w.alloc (.cells #[] 2)).cell? (ad.add j)=some u:=by
   intro j u hj
   rcases hc with e|⟨b,off,e,h4⟩
   ·subst e;simp at hj
   ·cases e
    have hlt:j<xs.length:=by
     rcases Nat.lt_or_ge j xs.length with h|h
     ·exact h
     ·rw[List.getElem?_eq_none (by simpa using h)]at hj;cases hj
    have h5:=h4 j hlt
    have hb:=World.block_lt_of_cell? w _ h5
    rw[show(⟨b,off,none⟩:Addr).add j=⟨b,off+j,none⟩ by unfold Addr.add;split<;>simp_all]
    rw[World.cell?_of_block (w:=w) (Below.heap_alloc w _ b hb),h5]
    simp[List.getD,hlt]at hj⊢
    exact hj
  have hone:∀u∈xs.map (Value.int .i64),u.oneCell'=true:=by
   intro u hu
   obtain⟨x,_,rfl⟩:=List.mem_map.1 hu
   rfl
  have hll:(xs.map (Value.int .i64)).length=n*1:=by simp[hn]
  rw[←hn]at hbig hl⊢
  have HN:Hid (n=xs.length):=hn
  clear hn hc hm hl
  go_enter Tryz.func76,Tryz.ntmps76
  go_wp2_with (at_builtin;refine wpList_append_own _ rfl _ _ 28 rfl w.heap.size 2 i0 (.int .i64 0) 1 8 Tryz.underlying28 hi hz0 hz1 hz2 rfl (by decide) _ _ _ rfl hown _ n cap (xs.map (Value.int .i64)) rfl hll hnews hone (by unfold maxLen;omega) (by omega) (by simp) ?_)
  intro v' w1 hown' hgrow _
  go_wp2
  go_ret
  refine⟨_,rfl,?_,((Below.refl w.heap.size w).alloc (Nat.le_refl _) _).grown hgrow (by simp) (fun g e=>by simp[Value.ownBlock]at e;omega)⟩
  unfold Own
  have:=HN.out
  simpa[this]using hown'
theorem reads_row {w:World} {a:Option Addr} {len cap:Nat} {zs:List Int} (h:(a=none∧len=0∧cap=0∧zs=[])∨
  ∃x,a=some x∧len≤cap∧cap≤maxLen∧zs.length=cap∧(∀i,i<zs.length→w.cell? (x.add i)=some (.int .i64 (zs.getD i 0)))∧∀n∈zs,(Lit.int .i64 n).wf=true):
  ∃xs:List Int,xs.length=len∧Reads w (.slice a len cap) xs:=by
 rcases h with⟨rfl,rfl,rfl,_⟩|⟨x,rfl,h1,h2,h3,h4,h5⟩
 ·exact⟨[],rfl,none,0,rfl,Nat.le_refl _,⟨Nat.zero_le _,fun _=>rfl⟩,.inl rfl⟩
 ·have hl:(zs.take len).length=len:=by simp;omega
  refine⟨zs.take len,hl,some x,cap,by rw[hl],by omega,⟨h2,fun e=>by cases e⟩,?_⟩
  rcases Nat.eq_zero_or_pos len with rfl|hp
  ·exact .inl (by simp)
  ·obtain⟨b,off,rfl,hc⟩:=ints_at h4 (by omega)
   refine .inr ⟨b,off,rfl,fun j hj=>?_⟩
   rw[hc j (by omega)]
   have hj':j<len:=by omega
   simp[List.getD,hj']
end Go.Proofs.YthmnmaemnihkeaaGreatDoor
set_option maxRecDepth 20000
set_option maxHeartbeats 1000000
namespace Go.Proofs.YthmnmaemnihkeaaGreatDoor
open Go.ChangeShapes Go.WideShapes Go.ChangeAt Go.RowKit
def valOk (x:Int):Bool:=decide (0≤x)&&decide (x≤9999)
def lenOk (n:Nat):Bool:=decide (1≤(n:Int))&&decide ((n:Int)≤8)
def blocksOk (xs:List Int):Bool:=xs.all valOk&&lenOk xs.length
def zerosI (n:Int):List Int:=if 1≤n∧n≤8 then List.replicate n.toNat 0 else[]
def placeOk (xs:List Int) (i v:Int):Bool:=decide (0≤i)&&(decide (i<(xs.length:Int))&&valOk v)
def bothOk (a b:List Int):Bool:=blocksOk a&&(blocksOk b&&decide (a.length=b.length))
def chosenUp (a b:List Int) (s:Int) (k n:Nat):List Int:=(List.range n).map fun j=>if j<k∧inB s j=true then b.getD j 0 else a.getD j 0
def cntOk (n:Int):Bool:=decide (1≤n)&&decide (n≤8)
theorem cntOk_yes {x:Int} (h0:1≤x) (h1:x≤8):cntOk x=true:=by simp[cntOk,h0,h1]
theorem cntOk_no {x:Int} (h:x<1∨8<x):cntOk x=false:=by simp[cntOk];omega
theorem cntOk_len (n:Nat):cntOk n=lenOk n:=rfl
theorem bothOk_yes' {a b:List Int} (h:bothOk a b=true):blocksOk a=true∧blocksOk b=true∧a.length=b.length:=by
 simpa[bothOk]using h
theorem lenOk_yes {n:Nat} (h1:1≤n) (h8:n≤8):lenOk n=true:=by simp[lenOk];omega
theorem lenOk_no {n:Nat} (h:n<1∨8<n):lenOk n=false:=by simp[lenOk];omega
theorem blocksOk_len {xs:List Int} (h:blocksOk xs=true):1≤xs.length∧xs.length≤8:=by
 simp[blocksOk,lenOk]at h;omega
theorem getD_past (xs:List Int) (j:Nat) (h:xs.length≤j):xs.getD j 0=0:=by
 simp[List.getD,List.getElem?_eq_none h]
theorem all_snoc {xs:List Int} {j:Nat} (h:j<xs.length) (h1:(xs.take j).all valOk=true) (h2:valOk (xs.getD j 0)=true):(xs.take (j+1)).all valOk=true:=by
 rw[take_snoc xs j h,List.all_append,h1];simpa using h2
theorem all_not {xs:List Int} {j:Nat} (h:j<xs.length) (h2:valOk (xs.getD j 0)=false):xs.all valOk=false:=by
 rw[List.all_eq_false]
 exact⟨xs.getD j 0,by simp[List.getD,h],by rw[h2];simp⟩
theorem sok_any (v:Value) (xs:List Int) (w:World) (h:Reads w v xs) (hbig:xs.length≤1099511627776):
  Calls Tryz.prog 93 #[v] w fun e w'=>e=.returned (.bool (blocksOk xs))∧w'=w:=by
 obtain⟨ao,cap,rfl,hl,⟨hm, -⟩,hc⟩:=h
 obtain⟨n,hn⟩:∃n,n=xs.length:=⟨_,rfl⟩
 rw[←hn]at hl hc hbig⊢
 have HN:Hid (n=xs.length):=hn
 clear hn
 unfold maxLen at hm
 have hcell:∀j,j<n→∃b off,ao=some ⟨b,off,none⟩∧w.cell? ⟨b,off+j,none⟩=some (.int .i64 (xs.getD j 0)):=by
  intro j hj
  rcases hc with e|⟨b,off,e,h4⟩
  ·have:=HN.out;rw[e]at this;simp at this;omega
  ·exact⟨b,off,e,h4 j hj⟩
 clear hc
 go_enter Tryz.func93,Tryz.ntmps93
 go_wp2
 go_loop [3] (fun i=>∃j:Nat,j≤n∧i=.int .i64 j∧Hid ((xs.take j).all valOk=true)) (fun i=>n-(intOf i).toNat)
 case atStart=>exact⟨0,Nat.zero_le _,rfl,by simp[Hid]⟩
 case round=>
  obtain⟨j,hj,rfl,ht⟩:=hrel
  by_cases hlt:(j:Int)<(n:Int)
  ·obtain⟨b,off,rfl,hc1⟩:=hcell j (by omega)
   clear hcell
   obtain⟨x,hx⟩:∃x,x=xs.getD j 0:=⟨_,rfl⟩
   rw[←hx]at hc1
   have HX:Hid (x=xs.getD j 0):=hx
   clear hx
   by_cases h0:0≤x
   ·by_cases h1:x≤9999
    ·go_wp2
     go_round
     case rel=>exact⟨j+1,by omega,by go_num,all_snoc (by have:=HN.out;omega) ht.out (by rw[←HX.out];simp[valOk,h0,h1])⟩
     case measure=>simp[intOf];omega
    ·go_wp2
     go_ret
     exact⟨ret_bool (by simp[blocksOk,all_not (xs:=xs) (j:=j) (by have:=HN.out;omega) (by rw[←HX.out];simp[valOk];omega)]),rfl⟩
   ·go_wp2
    go_ret
    exact⟨ret_bool (by simp[blocksOk,all_not (xs:=xs) (j:=j) (by have:=HN.out;omega) (by rw[←HX.out];simp[valOk];omega)]),rfl⟩
  ·have hall:Hid (blocksOk xs=lenOk n):=by
    have hn':=HN.out
    have h2:=ht.out
    rw[List.take_of_length_le (by omega)]at h2
    simp[Hid,blocksOk,h2,←hn']
   by_cases h1:1≤(n:Int)
   ·by_cases h8:(n:Int)≤8
    ·go_wp2
     go_ret
     exact⟨ret_bool (by rw[hall.out,lenOk_yes (by omega) (by omega)]),rfl⟩
    ·go_wp2
     go_ret
     exact⟨ret_bool (by rw[hall.out,lenOk_no (by omega)]),rfl⟩
   ·go_wp2
    go_ret
    exact⟨ret_bool (by rw[hall.out,lenOk_no (by omega)]),rfl⟩
end Go.Proofs.YthmnmaemnihkeaaGreatDoor
set_option maxRecDepth 20000
set_option maxHeartbeats 1000000
namespace Go.Proofs.YthmnmaemnihkeaaGreatDoor
open Go.ChangeShapes Go.WideShapes Go.ChangeAt Go.RowKit
def digit (n:Nat):UInt8:=UInt8.ofNat (48+n%10)
def dec (n:Nat):Bs:=if n<10 then[digit n]else dec (n/10)++[digit n]
def decI (n:Int):Bs:=if n<0 then 45::dec n.natAbs else dec n.natAbs
def decZ (n:Nat):Bs:=if n=0 then[]else dec n
theorem decZ_step (n:Nat) (h:n≠0):decZ n=decZ (n/10)++[digit n]:=by
 unfold decZ
 rw[if_neg h,dec]
 by_cases h10:n<10
 ·rw[if_pos h10,if_pos (by omega)];rfl
 ·rw[if_neg h10,if_neg (by omega)]
theorem dec_zero:dec 0=[digit 0]:=by rw[dec];rfl
theorem parts_neg (k:Int) (h:k<0):k.tmod 10= -((k.natAbs%10:Nat):Int)∧k.tdiv 10= -((k.natAbs/10:Nat):Int):=by
 obtain⟨m,rfl⟩:∃m:Nat,k= -(m:Int):=⟨k.natAbs,by omega⟩
 rw[Int.neg_tmod,Int.neg_tdiv,Int.natAbs_neg,Int.natAbs_natCast]
 constructor<;>rfl
theorem parts_pos (k:Int) (h:0≤k):k.tmod 10=((k.natAbs%10:Nat):Int)∧k.tdiv 10=((k.natAbs/10:Nat):Int):=by
 obtain⟨m,rfl⟩:∃m:Nat,k=(m:Int):=⟨k.natAbs,by omega⟩
 rw[Int.natAbs_natCast]
 constructor<;>rfl
theorem digit_at (d:Nat) (h:d≤9):((digit d).toNat:Int)=48+(d:Int):=by
 have:(digit d).toNat=48+d%10:=by unfold digit;rw[UInt8.toNat_ofNat'];omega
 rw[this];omega
theorem conv1 (w:World) (d:Nat) (h:d≤9):(convert 142 9 (.slice (some ⟨w.heap.size,0,none⟩) 1 1)).run Tryz.prog (w.alloc (.cells #[.int .u8 (48+(d:Int))] 5))=.ok (.string ⟨#[digit d]⟩) (w.alloc (.cells #[.int .u8 (48+(d:Int))] 5)):=by
 have:=run_convert_bytes_back (P:=Tryz.prog) (w.alloc (.cells #[.int .u8 (48+(d:Int))] 5)) 142 9 5 ⟨w.heap.size,0,none⟩ 1 [digit d] Tryz.underlying142 Tryz.underlying5 Tryz.underlying9 (by
  intro j hj
  have e:j=0:=by simpa using hj
  subst e
  have h1:(w.alloc (.cells #[.int .u8 (48+(d:Int))] 5)).heap[w.heap.size]?=some (.cells #[.int .u8 (48+(d:Int))] 5):=heap_alloc_new w _
  have h2:=cell_of_row _ w.heap.size 0 _ _ _ h1
  have h3:((([digit d]:List UInt8)[0]).toNat:Int)=48+(d:Int):=digit_at d h
  rw[h3]
  exact h2)
 exact this
theorem digit_mod (n:Nat):digit (n%10)=digit n:=by unfold digit;rw[Nat.mod_mod]
theorem dec_len (k:Nat):∀n,n<10^(k+1)→(dec n).length≤k+1:=by
 induction k with
 |zero=>intro n h;rw[dec,if_pos (by omega)];simp
 |succ k ih=>
  intro n h
  rw[dec]
  split
  ·simp
  ·have:=ih (n/10) (by rw[Nat.pow_succ]at h;omega)
   simp;omega
theorem _root_.ByteArray.mk_append_mk' (a b:List UInt8):(({data:=a.toArray}:ByteArray)++{data:=b.toArray})={data:=(a++b).toArray}:=ByteArray.mk_append_mk a b
def IntInv (n k:Int) (l:Bs):Prop:=(l=[]∧k=n)∨(l≠[]∧decZ k.natAbs++l=dec n.natAbs)
theorem IntInv.step {n k k':Int} {l:Bs} {d:Nat} (h:IntInv n k l) (hg:l=[]∨k≠0) (hd:d=k.natAbs%10) (hk:k'.natAbs=k.natAbs/10):IntInv n k' (digit d::l):=by
 refine .inr ⟨by simp,?_⟩
 rw[hk,hd,digit_mod]
 rcases h with⟨rfl,rfl⟩|⟨h1,h2⟩
 ·by_cases h0:k.natAbs=0
  ·rw[h0];simp[decZ,dec_zero]
  ·rw[←decZ_step _ h0];simp[decZ,h0]
 ·have hk0:k≠0:=by
   rcases hg with h|h
   ·exact absurd h h1
   ·exact h
  rw[←h2,decZ_step k.natAbs (by omega)]
  simp
theorem IntInv.len {n k:Int} {l:Bs} (h:IntInv n k l) (h0: -9223372036854775808≤n) (h1:n≤9223372036854775807):l.length≤20:=by
 rcases h with⟨rfl,_⟩|⟨_,h2⟩
 ·simp
 ·have:=congrArg List.length h2
  have h3:=dec_len 19 n.natAbs (by omega)
  rw[List.length_append]at this
  omega
theorem IntInv.done {n:Int} {l:Bs} (h:IntInv n 0 l) (hl:l≠[]):l=dec n.natAbs:=by
 rcases h with⟨h,_⟩|⟨_,h2⟩
 ·exact absurd h hl
 ·simpa[decZ]using h2
theorem int_meas (k k':Int) (q d:Nat) (l:Bs) (hk':k'.natAbs=q) (h:(q:Int)<k.natAbs∨(q:Int)=k.natAbs∧l=[]):
  2*(intOf (.int .i64 k')).natAbs+(match Value.string (({data:=#[digit d]}:ByteArray)++{data:=l.toArray})with| .string b=>if b.size=0 then 1 else 0|_=>0)<2*(intOf (.int .i64 k)).natAbs+(match Value.string ⟨l.toArray⟩with| .string b=>if b.size=0 then 1 else 0|_=>0):=by
 rw[ByteArray.mk_append_mk' [digit d] l]
 have e1:(⟨([digit d]++l).toArray⟩:ByteArray).size=l.length+1:=by simp[ByteArray.size]
 have e2:(⟨l.toArray⟩:ByteArray).size=l.length:=rfl
 simp only[intOf,e1,e2,hk']
 rcases h with h|⟨h,rfl⟩
 ·split<;>simp<;>omega
 ·simp;omega
theorem sint_any (n:Int) (w:World) (h0: -9223372036854775808≤n) (h1:n≤9223372036854775807):
  Calls Tryz.prog 115 #[.int .i64 n] w fun e w'=>e=.returned (S (decI n))∧Below w.heap.size w w':=by
 unfold S
 go_enter Tryz.func115,Tryz.ntmps115
 go_wp2
 go_loopw [0,3] (fun m s wr=>∃(k:Int) (l:Bs),m=.int .i64 k∧s=.string ⟨l.toArray⟩∧-9223372036854775808≤k∧k≤9223372036854775807∧Hid (IntInv n k l∧Below w.heap.size w wr)) (fun m s _=>2*(intOf m).natAbs+(match s with| .string b=>if b.size=0 then 1 else 0|_=>0))
 case atStart=>exact⟨n,[],rfl,rfl,h0,h1,.inl ⟨rfl,rfl⟩,Below.refl _ _⟩
 case round=>
  obtain⟨k,l,rfl,rfl,hk0,hk1,HI⟩:=hrel
  have hl20:=HI.out.1.len h0 h1
  have hsz:(⟨l.toArray⟩:ByteArray).size=l.length:=rfl
  by_cases hend:l≠[]∧k=0
  ·obtain⟨hl,rfl⟩:=hend
   have HE:Hid (l=dec n.natAbs):=HI.out.1.done hl
   have hie:l.isEmpty=false:=by simpa using hl
   clear hl
   by_cases hneg:n<0
   ·go_wp2
    go_ret
    refine⟨congrArg (fun x=>Ending.returned (Value.string x)) ?_,HI.out.2⟩
    rw[ByteArray.mk_append_mk' [45] l,decI,if_pos hneg,←HE.out]
    rfl
   ·go_wp2
    go_ret
    refine⟨congrArg (fun x=>Ending.returned (Value.string ⟨List.toArray x⟩)) ?_,HI.out.2⟩
    rw[decI,if_neg (by omega),←HE.out]
  ·have hg:l=[]∨k≠0:=by
    by_cases h:l=[]
    ·exact .inl h
    ·exact .inr (fun e=>hend ⟨h,e⟩)
   clear hend
   obtain⟨d,hd⟩:∃d:Nat,d=k.natAbs%10:=⟨_,rfl⟩
   obtain⟨q,hq⟩:∃q:Nat,q=k.natAbs/10:=⟨_,rfl⟩
   have hd9:(d:Int)≤9:=by omega
   have hq9:(q:Int)≤922337203685477580:=by omega
   have hconv:=conv1 wr d (by omega)
   have HM:Hid ((q:Int)<k.natAbs∨(q:Int)=k.natAbs∧l=[]):=by
    rcases hg with h|h
    ·by_cases h0:k=0
     ·exact .inr ⟨by subst h0;simp at hq;omega,h⟩
     ·exact .inl (by omega)
    ·exact .inl (by omega)
   have HS:Hid (∀k':Int,k'.natAbs=q→IntInv n k' (digit d::l)):=fun k' e=>HI.out.1.step hg hd (by rw[e,hq])
   have HB:Hid (Below w.heap.size w (wr.alloc (.cells #[.int .u8 (48+(d:Int))] 5))):=HI.out.2.alloc HI.out.2.size _
   have hgo:l.isEmpty=true∨(l.isEmpty=false∧(k !=0)=true):=by
    by_cases h:l=[]
    ·exact .inl (by simp[h])
    ·refine .inr ⟨by simpa using h,?_⟩
     rcases hg with h'|h'
     ·exact absurd h' h
     ·simpa using h'
   have key:∀k':Int,k'.natAbs=q→(∃(k:Int) (l_1:Bs),Value.int .i64 k'=Value.int .i64 k∧Value.string (({data:=#[digit d]}:ByteArray)++{data:=l.toArray})=.string ⟨l_1.toArray⟩∧-9223372036854775808≤k∧k≤9223372036854775807∧Hid (IntInv n k l_1∧Below w.heap.size w (wr.alloc (.cells #[.int .u8 (48+(d:Int))] 5)))):=fun k' e=>
    ⟨k',digit d::l,rfl,by rw[ByteArray.mk_append_mk' [digit d] l];rfl,by omega,by omega,HS.out k' e,HB.out⟩
   have hlen:Hid ((⟨l.toArray⟩:ByteArray).size=l.length):=rfl
   have kneg:∀e:(k<0),k.tmod 10= -(d:Int)∧k.tdiv 10= -(q:Int):=fun e=>by rw[hd,hq];exact parts_neg k e
   have kpos:∀e:(0≤k),k.tmod 10=(d:Int)∧k.tdiv 10=(q:Int):=fun e=>by rw[hd,hq];exact parts_pos k e
   clear hd hq hg
   rcases hgo with hie|⟨hie,hkn⟩
   all_goals
    by_cases hneg:k<0
    ·obtain⟨hmod,hdiv⟩:=kneg hneg
     clear kneg kpos
     by_cases hd0:0<(d:Int)
     ·go_wp2
      go_roundw
      case rel=>exact key (-(q:Int)) (by omega)
      case measure=>exact int_meas k _ q _ l (by omega) HM.out
     ·obtain rfl:d=0:=by omega
      have e48:(48:Int)+((0:Nat):Int)=48:=rfl
      rw[e48]at hconv
      simp only[e48]at key
      go_wp2
      go_roundw
      case rel=>exact key (-(q:Int)) (by omega)
      case measure=>exact int_meas k _ q _ l (by omega) HM.out
    ·obtain⟨hmod,hdiv⟩:=kpos (by omega)
     clear kneg kpos
     go_wp2
     go_roundw
     case rel=>exact key (q:Int) (by omega)
     case measure=>exact int_meas k _ q _ l (by omega) HM.out
end Go.Proofs.YthmnmaemnihkeaaGreatDoor
