import Derived.Test.YtpdggofaobmnlaaGreatDoorM1
import Derived.OwnWalk
import Derived.Laws.AppendOwnNone
import Derived.WalkSpells
import Derived.Test.YtpdggofaobmnlaaGreatDoorRows
import Derived.WalkKit
import Derived.ProofKit
import Derived.OpenShut
/- Lists are copied: toInt64S and l1Copy answer the same list in new memory, and write nothing that was there. -/
set_option maxRecDepth 20000
set_option maxHeartbeats 1000000
namespace Go.Proofs.YtpdggofaobmnlaaGreatDoor
open Go.ChangeShapes Go.WideShapes Go.ChangeAt Go.RowKit
theorem zeros_eq (n:Nat):(madeCells #[Value.int .i64 0] n).toList=(List.replicate n (0:Int)).map (Value.int .i64):=by
 rw[toList_madeCells_one,List.map_replicate]
theorem fill_step (xs:List Int) (j:Nat) (h:j<xs.length):((xs.take j++List.replicate (xs.length-j) 0).set j (xs.getD j 0))=xs.take (j+1)++List.replicate (xs.length-(j+1)) 0:=by
 have hl:(xs.take j).length=j:=by simp;omega
 rw[List.set_append_right _ _ (by omega),hl,Nat.sub_self,take_snoc xs j h,show xs.length-j=(xs.length-(j+1))+1 by omega,List.replicate_succ,List.set_cons_zero]
 simp
theorem to_any (v:Value) (xs:List Int) (w:World) (h:Reads w v xs) (hbig:xs.length≤1099511627776):
  Calls Tryz.prog 99 #[v] w fun e w'=>∃u,e=.returned u∧Own w' w.heap.size u xs∧Below w.heap.size w w':=by
 obtain⟨i0,hi,hz0,hz1,hz2⟩:=info_parts Tryz.infoI
 obtain⟨ao,cap,rfl,hl,⟨hm, -⟩,hc⟩:=h
 obtain⟨n,hn⟩:∃n,n=xs.length:=⟨_,rfl⟩
 rw[←hn]at hl hc hbig⊢
 have HN:Hid (n=xs.length):=hn
 clear hn
 unfold maxLen at hm
 have hcell:∀j,j<n→∃b off,ao=some ⟨b,off,none⟩∧b<w.heap.size∧w.cell? ⟨b,off+j,none⟩=some (.int .i64 (xs.getD j 0)):=by
  intro j hj
  rcases hc with e|⟨b,off,e,h4⟩
  ·have:=HN.out;rw[e]at this;simp at this;omega
  ·exact⟨b,off,e,World.block_lt_of_cell? w _ (h4 j hj),h4 j hj⟩
 clear hc
 go_enter Tryz.func99,Tryz.ntmps99
 go_wp2_with (refine wpList_make_full _ rfl _ _ 24 rfl w.heap.size 2 i0 (.int .i64 0) 1 Tryz.underlying24 hi hz0 hz1 _ _ _ _ n rfl rfl rfl rfl (by rw[hz2];omega) (by unfold maxLen;omega) (Nat.le_refl _) ?_)
 intro w1 hown hgr
 rw[zeros_eq]at hown
 have HO:Hid (Own w1 w.heap.size (.slice (some ⟨w.heap.size,0,none⟩) n n) (List.replicate n 0)∧Below w.heap.size w w1):=by
  refine⟨?_,(Below.refl _ _).grown hgr (Nat.le_refl _) (fun k e=>by cases e)⟩
  unfold Own
  simpa using hown
 clear hown hgr
 go_wp2
 go_loopw [4] (fun i wr=>∃j:Nat,j≤n∧i=.int .i64 j∧Hid (Own wr w.heap.size (.slice (some ⟨w.heap.size,0,none⟩) n n) (xs.take j++List.replicate (xs.length-j) 0)∧Below w.heap.size w wr)) (fun i _=>n-(intOf i).toNat)
 case atStart=>exact⟨0,Nat.zero_le _,rfl,by have this:=HO.out;rw[HN.out]at this⊢;simpa[Hid]using this⟩
 case round=>
  obtain⟨j,hj,rfl,HR⟩:=hrel
  have hn':=HN.out
  have hlen:(xs.take j++List.replicate (xs.length-j) (0:Int)).length=n:=by simp;omega
  by_cases hlt:(j:Int)<(n:Int)
  ·obtain⟨b,off,rfl,hb,hc0⟩:=hcell j (by omega)
   have hc1:=(HR.out.2.cell (p:=⟨b,off+j,none⟩) hb).trans hc0
   obtain⟨x,hx⟩:∃x,x=xs.getD j 0:=⟨_,rfl⟩
   rw[←hx]at hc1
   have hown:wr.ownsRow w.heap.size 2 1 (.slice (some ⟨w.heap.size,0,none⟩) n n) n ((xs.take j++List.replicate (xs.length-j) 0).map (Value.int .i64)):=by
    have:=HR.out.1
    unfold Own at this
    rwa[hlen]at this
   have hfr:=World.ownsRow.frozenAt hown j
   obtain⟨y,hc⟩:∃y,wr.cell? ⟨w.heap.size,j,none⟩=some y:=by
    have:=World.ownsRow.cellAt hown j (by omega)
    rw[this]
    exact⟨_,List.getElem?_eq_getElem (by simp;omega)⟩
   have hst:=World.ownsRow.stored hown j (.int .i64 x)
   have HS:Hid (Own (wr.setCell ⟨w.heap.size,j,none⟩ (.int .i64 x)) w.heap.size (.slice (some ⟨w.heap.size,0,none⟩) n n) (xs.take (j+1)++List.replicate (xs.length-(j+1)) 0)∧Below w.heap.size w (wr.setCell ⟨w.heap.size,j,none⟩ (.int .i64 x))):=by
    refine⟨?_,HR.out.2.setCell (Nat.le_refl _) _⟩
    have:=hst.1
    rw[←List.map_set,hx,fill_step xs j (by omega)]at this
    unfold Own
    rw[←hx]at this
    rwa[show(xs.take (j+1)++List.replicate (xs.length-(j+1)) (0:Int)).length=n by simp;omega]
   clear hst hown HR hlen hn' hcell hc0 hx HO
   go_wp2
   go_roundw
   case rel=>exact⟨j+1,by omega,by go_num,HS⟩
   case measure=>simp[intOf];omega
  ·clear hn' hlen
   go_wp2
   go_ret
   have hjn:j=xs.length:=by have:=HN.out;omega
   have this:=HR.out
   rw[hjn,List.take_length,Nat.sub_self,List.replicate_zero,List.append_nil]at this
   exact⟨_,rfl,this⟩
theorem Own.put {w:World} {base g n cap:Nat} {xs:List Int} (h:Own w base (.slice (some ⟨g,0,none⟩) n cap) xs) (hn:n=xs.length) (j:Nat) (hj:j<n) (x:Int):
  w.frozen? ⟨g,j,none⟩=false∧(∃y,w.cell? ⟨g,j,none⟩=some y)∧Own (w.setCell ⟨g,j,none⟩ (.int .i64 x)) base (.slice (some ⟨g,0,none⟩) n cap) (xs.set j x):=by
 subst hn
 have hown:w.ownsRow base 2 1 (.slice (some ⟨g,0,none⟩) xs.length cap) xs.length (xs.map (Value.int .i64)):=h
 refine⟨World.ownsRow.frozenAt hown j,?_,?_⟩
 ·rw[World.ownsRow.cellAt hown j (by omega)]
  exact⟨_,List.getElem?_eq_getElem (by simpa using hj)⟩
 ·have:=(World.ownsRow.stored hown j (.int .i64 x)).1
  rw[←List.map_set]at this
  unfold Own
  rwa[List.length_set]
theorem copy_any (v:Value) (xs:List Int) (w:World) (h:Reads w v xs) (hbig:xs.length≤1099511627776):
  Calls Tryz.prog 125 #[v] w fun e w'=>∃u,e=.returned u∧Own w' w.heap.size u xs∧Below w.heap.size w w':=by
 obtain⟨i0,hi,hz0,hz1,hz2⟩:=info_parts Tryz.infoI
 obtain⟨ao,cap,rfl,hl,hm,hc⟩:=h
 have hown:(w.alloc (.cells #[] 2)).ownsRow w.heap.size 2 1 (.slice (some ⟨w.heap.size,0,none⟩) 0 0) 0 []:=World.ownsRow_lit w #[] 0 (Nat.le_refl _) (Nat.zero_le _) rfl
 rcases ao with _|ad
 ·have e0:cap=0:=hm.2 rfl
  subst e0
  have e1:xs=[]:=List.eq_nil_of_length_eq_zero (by omega)
  subst e1
  clear hc hm hl
  go_enter Tryz.func125,Tryz.ntmps125
  go_wp2_with (at_builtin;refine wpList_append_own_none rfl _ _ 24 rfl w.heap.size 2 i0 1 Tryz.underlying24 hi _ _ _ rfl hown rfl ?_)
  go_wp2
  go_ret
  exact⟨_,rfl,hown,(Below.refl _ _).alloc (Nat.le_refl _) _⟩
 ·obtain⟨n,hn⟩:∃n,n=xs.length:=⟨_,rfl⟩
  have hnews:∀j u,(xs.map (Value.int .i64))[j]?=some u→(w.alloc (.cells #[] 2)).cell? (ad.add j)=some u:=by
   intro j u hj
   rcases hc with e|⟨b,off,e,h4⟩
   ·subst e;simp at hj
   ·cases e
    have hlt:j<xs.length:=by
     rcases Nat.lt_or_ge j xs.length with h|h
     ·exact h
     ·rw[List.getElem?_eq_none (by simpa using h)]at hj;cases hj
    have h5:=h4 j hlt
    have hb:=World.block_lt_of_cell? w _ h5
    rw[show(⟨b,off,none⟩:Addr).add j=⟨b,off+j,none⟩ by unfold Addr.add;split<;>simp_all]
    rw[World.cell?_of_block (w:=w) (Below.heap_alloc w _ b hb),h5]
    simp[List.getD,hlt]at hj⊢
    exact hj
  have hone:∀u∈xs.map (Value.int .i64),u.oneCell'=true:=by
   intro u hu
   obtain⟨x,_,rfl⟩:=List.mem_map.1 hu
   rfl
  have hll:(xs.map (Value.int .i64)).length=n*1:=by simp[hn]
  rw[←hn]at hbig hl⊢
  have HN:Hid (n=xs.length):=hn
  clear hn hc hm hl
  go_enter Tryz.func125,Tryz.ntmps125
  go_wp2_with (at_builtin;refine wpList_append_own _ rfl _ _ 24 rfl w.heap.size 2 i0 (.int .i64 0) 1 8 Tryz.underlying24 hi hz0 hz1 hz2 rfl (by decide) _ _ _ rfl hown _ n cap (xs.map (Value.int .i64)) rfl hll hnews hone (by unfold maxLen;omega) (by omega) (by simp) ?_)
  intro v' w1 hown' hgrow _
  go_wp2
  go_ret
  refine⟨_,rfl,?_,((Below.refl w.heap.size w).alloc (Nat.le_refl _) _).grown hgrow (by simp) (fun g e=>by simp[Value.ownBlock]at e;omega)⟩
  unfold Own
  have:=HN.out
  simpa[this]using hown'
theorem reads_row {w:World} {a:Option Addr} {len cap:Nat} {zs:List Int} (h:(a=none∧len=0∧cap=0∧zs=[])∨
  ∃x,a=some x∧len≤cap∧cap≤maxLen∧zs.length=cap∧(∀i,i<zs.length→w.cell? (x.add i)=some (.int .i64 (zs.getD i 0)))∧∀n∈zs,(Lit.int .i64 n).wf=true):
  ∃xs:List Int,xs.length=len∧Reads w (.slice a len cap) xs:=by
 rcases h with⟨rfl,rfl,rfl,_⟩|⟨x,rfl,h1,h2,h3,h4,h5⟩
 ·exact⟨[],rfl,none,0,rfl,Nat.le_refl _,⟨Nat.zero_le _,fun _=>rfl⟩,.inl rfl⟩
 ·have hl:(zs.take len).length=len:=by simp;omega
  refine⟨zs.take len,hl,some x,cap,by rw[hl],by omega,⟨h2,fun e=>by cases e⟩,?_⟩
  rcases Nat.eq_zero_or_pos len with rfl|hp
  ·exact .inl (by simp)
  ·obtain⟨b,off,rfl,hc⟩:=ints_at h4 (by omega)
   refine .inr ⟨b,off,rfl,fun j hj=>?_⟩
   rw[hc j (by omega)]
   have hj':j<len:=by omega
   simp[List.getD,hj']
end Go.Proofs.YtpdggofaobmnlaaGreatDoor
namespace Go.Proofs.YtpdggofaobmnlaaGreatDoor
open Go.ChangeShapes Go.WideShapes Go.ChangeAt Go.RowKit
theorem grownSet (w:World) (g j:Nat) (x:Value):w.grownBy (w.setCell ⟨g,j,none⟩ x) (some g):=
 ⟨rfl,rfl,rfl,by simp,fun k _ hk=>heap_setCell_other w ⟨g,j,none⟩ k x (fun e=>hk (by simp[e]))⟩
theorem Own.keptLt {w w':World} {base g:Nat} {v:Value} {xs:List Int} (h:Own w base v xs) (hg:w.grownBy w' (some g)) (hb:g<base):Own w' base v xs:=
 h.kept hg (by
  by_cases e:v.ownBlock=none
  ·exact .inl e
  ·refine .inr fun e2=>?_
   have:=h.lt g e2
   omega)
theorem Own.setLt {w:World} {base g:Nat} {v:Value} {xs:List Int} (h:Own w base v xs) (hb:g<base) (j:Nat) (x:Value):Own (w.setCell ⟨g,j,none⟩ x) base v xs:=h.keptLt (grownSet w g j x) hb
def szI (k:Int) (n:Nat):Int:=if(n:Int)≤k then k-n else-1
theorem sz_any (v:Value) (xs:List Int) (k:Int) (w:World) (h:Reads w v xs) (h0:0≤k) (h1:k≤1048576):
  Calls Tryz.prog 98 #[v,.int .i64 k] w fun e w'=>e=.returned (.int .i64 (szI k xs.length))∧w'=w:=by
 obtain⟨ao,cap,rfl,hl,⟨hm, -⟩, -⟩:=h
 unfold maxLen at hm
 obtain⟨n,hn⟩:∃n,n=xs.length:=⟨_,rfl⟩
 rw[←hn]at hl⊢
 clear hn
 by_cases hk:(n:Int)≤k
 ·have e:szI k n=k-n:=by simp[szI,hk]
  rw[e]
  clear e
  go_enter Tryz.func98,Tryz.ntmps98
  go_wp2
  go_ret
  exact⟨rfl,rfl⟩
 ·have e:szI k n= -1:=by simp[szI,hk]
  rw[e]
  clear e
  go_enter Tryz.func98,Tryz.ntmps98
  go_wp2
  go_ret
  exact⟨rfl,rfl⟩
end Go.Proofs.YtpdggofaobmnlaaGreatDoor
namespace Go.Proofs.YtpdggofaobmnlaaGreatDoor
open Go.ChangeShapes Go.WideShapes Go.ChangeAt Go.RowKit
def valOk (x:Int):Bool:=decide (0≤x)&&decide (x≤9999)
def lenOk (n:Nat):Bool:=decide (1≤(n:Int))&&decide ((n:Int)≤8)
def blocksOk (xs:List Int):Bool:=xs.all valOk&&lenOk xs.length
def zerosI (n:Int):List Int:=if 1≤n∧n≤8 then List.replicate n.toNat 0 else[]
def placeOk (xs:List Int) (i v:Int):Bool:=decide (0≤i)&&(decide (i<(xs.length:Int))&&valOk v)
def putI (xs:List Int) (i v:Int):List Int:=if blocksOk xs then(if placeOk xs i v then xs.set i.toNat v else xs)else[]
def putB (xs:List Int) (i v:Int):Bool:=blocksOk xs&&placeOk xs i v
def differUp (a b:List Int):Nat→Int
 |0=>0
 |k+1=>if a.getD k 0=b.getD k 0 then differUp a b k else withI (differUp a b k) k
def bothOk (a b:List Int):Bool:=blocksOk a&&(blocksOk b&&decide (a.length=b.length))
def differI (a b:List Int):Int:=if bothOk a b then differUp a b 8 else-1
def chosenUp (a b:List Int) (s:Int) (k n:Nat):List Int:=(List.range n).map fun j=>if j<k∧inB s j=true then b.getD j 0 else a.getD j 0
def chosenI (a b:List Int) (s:Int):List Int:=if bothOk a b&&setOk s then chosenUp a b s 8 a.length else[]
def cntOk (n:Int):Bool:=decide (1≤n)&&decide (n≤8)
theorem cntOk_yes {x:Int} (h0:1≤x) (h1:x≤8):cntOk x=true:=by simp[cntOk,h0,h1]
theorem cntOk_no {x:Int} (h:x<1∨8<x):cntOk x=false:=by simp[cntOk];omega
theorem cntOk_len (n:Nat):cntOk n=lenOk n:=rfl
theorem bothOk_yes' {a b:List Int} (h:bothOk a b=true):blocksOk a=true∧blocksOk b=true∧a.length=b.length:=by
 simpa[bothOk]using h
theorem lenOk_yes {n:Nat} (h1:1≤n) (h8:n≤8):lenOk n=true:=by simp[lenOk];omega
theorem lenOk_no {n:Nat} (h:n<1∨8<n):lenOk n=false:=by simp[lenOk];omega
theorem blocksOk_len {xs:List Int} (h:blocksOk xs=true):1≤xs.length∧xs.length≤8:=by
 simp[blocksOk,lenOk]at h;omega
theorem blocksOk_val {xs:List Int} (h:blocksOk xs=true):∀x∈xs,0≤x∧x≤9999:=by
 simp[blocksOk,valOk]at h;exact h.1
theorem withI_lim_all:∀n:Nat,n<256→∀k:Nat,k<8→(n|||2^k)<256:=by decide+kernel
theorem withI_lim {s i:Int} (h0:0≤s) (h1:s<256) (h2:0≤i) (h3:i<8):0≤withI s i∧withI s i<256:=by
 simp only[withI,setOk_pos h0 h1,itemOk_pos h2 h3,if_true]
 have:=withI_lim_all s.toNat (by omega) i.toNat (by omega)
 omega
theorem differUp_bd (a b:List Int):∀k,k≤8→0≤differUp a b k∧differUp a b k<256
 |0,_=>by simp[differUp]
 |k+1,h=>by
  have ih:=differUp_bd a b k (by omega)
  rw[differUp]
  split
  ·exact ih
  ·exact withI_lim ih.1 ih.2 (by omega) (by omega)
theorem differUp_more (a b:List Int) (i:Nat) (h:∀j,i≤j→a.getD j 0=b.getD j 0):∀m,differUp a b (i+m)=differUp a b i
 |0=>rfl
 |m+1=>by rw[←Nat.add_assoc,differUp,if_pos (h _ (by omega)),differUp_more a b i h m]
theorem getD_past (xs:List Int) (j:Nat) (h:xs.length≤j):xs.getD j 0=0:=by
 simp[List.getD,List.getElem?_eq_none h]
theorem differUp_full (a b:List Int) (hl:a.length=b.length) (h8:a.length≤8):differUp a b a.length=differUp a b 8:=by
 have:=differUp_more a b a.length (fun j hj=>by rw[getD_past a j hj,getD_past b j (by omega)]) (8-a.length)
 rw[←this];congr 1;omega
theorem chosenUp_len (a b:List Int) (s:Int) (k n:Nat):(chosenUp a b s k n).length=n:=by simp[chosenUp]
theorem chosenUp_zero (a b:List Int) (s:Int):chosenUp a b s 0 a.length=a:=by
 apply List.ext_getElem
 ·simp[chosenUp]
 ·intro j h1 h2
  simp[chosenUp,List.getD,h2]
theorem chosenUp_getD (a b:List Int) (s:Int) (k n j:Nat) (h:j<n):(chosenUp a b s k n).getD j 0=if j<k∧inB s j=true then b.getD j 0 else a.getD j 0:=by
 simp[chosenUp,List.getD,h]
theorem chosenUp_no {a b:List Int} {s:Int} {k n:Nat} (h:inB s k=false):chosenUp a b s (k+1) n=chosenUp a b s k n:=by
 unfold chosenUp
 apply List.map_congr_left
 intro j _
 by_cases e:j=k
 ·subst e;simp[h]
 ·have:j<k+1↔j<k:=by omega
  simp[this]
theorem chosenUp_yes {a b:List Int} {s:Int} {k n:Nat} (h:inB s k=true):(chosenUp a b s k n).set k (b.getD k 0)=chosenUp a b s (k+1) n:=by
 apply List.ext_getElem
 ·simp[chosenUp]
 ·intro j h1 h2
  rw[List.getElem_set]
  by_cases e:k=j
  ·subst e;simp[chosenUp,h]
  ·have:j<k+1↔j<k:=by omega
   simp[chosenUp,e,this]
theorem chosenUp_full {a b:List Int} {s:Int} {n:Nat} (h:n≤8):chosenUp a b s n n=chosenUp a b s 8 n:=by
 unfold chosenUp
 apply List.map_congr_left
 intro j hj
 have:=List.mem_range.1 hj
 have e1:j<n:=this
 have e2:j<8:=by omega
 simp[e1,e2]
theorem putI_len (xs:List Int) (i v:Int) {n:Nat} (h:xs.length≤n):(putI xs i v).length≤n:=by
 unfold putI;split
 ·split
  ·rwa[List.length_set]
  ·exact h
 ·simp
theorem chosenI_len (a b:List Int) (s:Int):(chosenI a b s).length≤a.length:=by
 unfold chosenI;split
 ·rw[chosenUp_len];exact Nat.le_refl _
 ·simp
theorem all_snoc {xs:List Int} {j:Nat} (h:j<xs.length) (h1:(xs.take j).all valOk=true) (h2:valOk (xs.getD j 0)=true):(xs.take (j+1)).all valOk=true:=by
 rw[take_snoc xs j h,List.all_append,h1];simpa using h2
theorem all_not {xs:List Int} {j:Nat} (h:j<xs.length) (h2:valOk (xs.getD j 0)=false):xs.all valOk=false:=by
 rw[List.all_eq_false]
 exact⟨xs.getD j 0,by simp[List.getD,h],by rw[h2];simp⟩
theorem sok_any (v:Value) (xs:List Int) (w:World) (h:Reads w v xs) (hbig:xs.length≤1099511627776):
  Calls Tryz.prog 92 #[v] w fun e w'=>e=.returned (.bool (blocksOk xs))∧w'=w:=by
 obtain⟨ao,cap,rfl,hl,⟨hm, -⟩,hc⟩:=h
 obtain⟨n,hn⟩:∃n,n=xs.length:=⟨_,rfl⟩
 rw[←hn]at hl hc hbig⊢
 have HN:Hid (n=xs.length):=hn
 clear hn
 unfold maxLen at hm
 have hcell:∀j,j<n→∃b off,ao=some ⟨b,off,none⟩∧w.cell? ⟨b,off+j,none⟩=some (.int .i64 (xs.getD j 0)):=by
  intro j hj
  rcases hc with e|⟨b,off,e,h4⟩
  ·have:=HN.out;rw[e]at this;simp at this;omega
  ·exact⟨b,off,e,h4 j hj⟩
 clear hc
 go_enter Tryz.func92,Tryz.ntmps92
 go_wp2
 go_loop [3] (fun i=>∃j:Nat,j≤n∧i=.int .i64 j∧Hid ((xs.take j).all valOk=true)) (fun i=>n-(intOf i).toNat)
 case atStart=>exact⟨0,Nat.zero_le _,rfl,by simp[Hid]⟩
 case round=>
  obtain⟨j,hj,rfl,ht⟩:=hrel
  by_cases hlt:(j:Int)<(n:Int)
  ·obtain⟨b,off,rfl,hc1⟩:=hcell j (by omega)
   clear hcell
   obtain⟨x,hx⟩:∃x,x=xs.getD j 0:=⟨_,rfl⟩
   rw[←hx]at hc1
   have HX:Hid (x=xs.getD j 0):=hx
   clear hx
   by_cases h0:0≤x
   ·by_cases h1:x≤9999
    ·go_wp2
     go_round
     case rel=>exact⟨j+1,by omega,by go_num,all_snoc (by have:=HN.out;omega) ht.out (by rw[←HX.out];simp[valOk,h0,h1])⟩
     case measure=>simp[intOf];omega
    ·go_wp2
     go_ret
     exact⟨ret_bool (by simp[blocksOk,all_not (xs:=xs) (j:=j) (by have:=HN.out;omega) (by rw[←HX.out];simp[valOk];omega)]),rfl⟩
   ·go_wp2
    go_ret
    exact⟨ret_bool (by simp[blocksOk,all_not (xs:=xs) (j:=j) (by have:=HN.out;omega) (by rw[←HX.out];simp[valOk];omega)]),rfl⟩
  ·have hall:Hid (blocksOk xs=lenOk n):=by
    have hn':=HN.out
    have h2:=ht.out
    rw[List.take_of_length_le (by omega)]at h2
    simp[Hid,blocksOk,h2,←hn']
   by_cases h1:1≤(n:Int)
   ·by_cases h8:(n:Int)≤8
    ·go_wp2
     go_ret
     exact⟨ret_bool (by rw[hall.out,lenOk_yes (by omega) (by omega)]),rfl⟩
    ·go_wp2
     go_ret
     exact⟨ret_bool (by rw[hall.out,lenOk_no (by omega)]),rfl⟩
   ·go_wp2
    go_ret
    exact⟨ret_bool (by rw[hall.out,lenOk_no (by omega)]),rfl⟩
theorem ownEmpty (w:World):Own (w.alloc (.cells #[] 2)) w.heap.size (.slice (some ⟨w.heap.size,0,none⟩) 0 0) []:=World.ownsRow_lit w #[] 0 (Nat.le_refl _) (Nat.zero_le _) rfl
theorem belowNew (w:World) (o:Obj):Below w.heap.size w (w.alloc o):=(Below.refl _ _).alloc (Nat.le_refl _) _
end Go.Proofs.YtpdggofaobmnlaaGreatDoor
namespace Go.Proofs.YtpdggofaobmnlaaGreatDoor
open Go.ChangeShapes Go.WideShapes Go.ChangeAt Go.RowKit
end Go.Proofs.YtpdggofaobmnlaaGreatDoor
namespace Go.Proofs.YtpdggofaobmnlaaGreatDoor
open Go.ChangeShapes Go.WideShapes Go.ChangeAt Go.RowKit
theorem valOk_eq (x:Int):(decide (0≤x)&&decide (x≤9999))=valOk x:=rfl
theorem valOk_yes {x:Int} (h0:0≤x) (h1:x≤9999):valOk x=true:=by simp[valOk,h0,h1]
theorem valOk_no {x:Int} (h:x<0∨9999<x):valOk x=false:=by simp[valOk];omega
theorem sval_any (x:Int) (w:World):
  Calls Tryz.prog 134 #[.int .i64 x] w fun e w'=>e=.returned (.bool (valOk x))∧w'=w:=by
 by_cases h0:0≤x
 ·by_cases h1:x≤9999
  ·rw[valOk_yes h0 h1]
   go_enter Tryz.func134,Tryz.ntmps134
   go_wp2
   go_ret
   exact⟨ret_bool (by simp),rfl⟩
  ·rw[valOk_no (by omega)]
   go_enter Tryz.func134,Tryz.ntmps134
   go_wp2
   go_ret
   exact⟨ret_bool (by simp),rfl⟩
 ·rw[valOk_no (by omega)]
  go_enter Tryz.func134,Tryz.ntmps134
  go_wp2
  go_ret
  exact⟨ret_bool (by simp),rfl⟩
theorem Reads.cellOf {w:World} {ao:Option Addr} {n cap:Nat} {xs:List Int} (h:Reads w (.slice ao n cap) xs):n=xs.length∧n≤cap∧cap≤maxLen∧∀j,j<n→∃b off,ao=some ⟨b,off,none⟩∧b<w.heap.size∧w.cell? ⟨b,off+j,none⟩=some (.int .i64 (xs.getD j 0)):=by
 obtain⟨ao',cap',e,hl,⟨hm, -⟩,hc⟩:=h
 simp only[Value.slice.injEq]at e
 obtain⟨rfl,rfl,rfl⟩:=e
 refine⟨rfl,hl,hm,fun j hj=>?_⟩
 rcases hc with e|⟨b,off,e,h4⟩
 ·rw[e]at hj;simp at hj
 ·exact⟨b,off,e,World.block_lt_of_cell? w _ (h4 j hj),h4 j hj⟩
theorem Reads.form {w:World} {v:Value} {xs:List Int} (h:Reads w v xs):∃ao cap,v=.slice ao xs.length cap:=by
 obtain⟨ao,cap,e,_⟩:=h
 exact⟨ao,cap,e⟩
theorem bothOk_yes {a b:List Int} (h:bothOk a b=true):blocksOk a=true∧blocksOk b=true∧a.length=b.length:=by
 simpa[bothOk]using h
theorem setOk_bd {s:Int} (h:setOk s=true):0≤s∧s<256:=by simpa[setOk]using h
end Go.Proofs.YtpdggofaobmnlaaGreatDoor
