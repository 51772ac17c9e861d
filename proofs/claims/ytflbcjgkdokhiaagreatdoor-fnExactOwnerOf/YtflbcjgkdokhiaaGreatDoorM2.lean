/- Lists of int64 in memory: 'Reads' (whoever's it is), 'Own' (new memory of the call), how they stay behind other calls, and what eqInt64S, markInt64S, heldInt64S answer. -/
import Derived.Test.YtflbcjgkdokhiaaGreatDoorRows
import Derived.Test.YtflbcjgkdokhiaaGreatDoorM1
import Derived.WalkKit
import Derived.ProofKit
import Derived.OpenShut
import Derived.Laws.OwnMore
import Derived.Deep.AppendLies
import Derived.Deep.QuietTactic
import Derived.BigQuiet
import Derived.WalkSmall
import Derived.OwnWalk
import Derived.Laws.AppendOwnNone
import Derived.WalkSpells
set_option maxRecDepth 20000
set_option maxHeartbeats 400000
namespace Go.Proofs.YtflbcjgkdokhiaaGreatDoor
open Go.ChangeShapes Go.WideShapes Go.ChangeAt Go.RowKit
def Reads (w:World) (v:Value) (xs:List Int):Prop:=
 ∃ao cap,v=.slice ao xs.length cap∧xs.length≤cap∧(cap≤maxLen∧(ao=none→cap=0))∧
  (xs=[]∨∃b off,ao=some ⟨b,off,none⟩∧∀j,j<xs.length→w.cell? ⟨b,off+j,none⟩=some (.int .i64 (xs.getD j 0)))
def Own (w:World) (base:Nat) (v:Value) (xs:List Int):Prop:=
 w.ownsRow base 2 1 v xs.length (xs.map (Value.int .i64))
theorem Own.nil (w:World) (base:Nat):Own w base (.slice none 0 0) []:=World.ownsRow_nil w base _ _
theorem Own.reads {w:World} {base:Nat} {v:Value} {xs:List Int} (h:Own w base v xs):Reads w v xs:=by
 rcases h.2 with⟨rfl,h0⟩|⟨g,cap,cur,rfl,hb,hg,hnc,hcm,hcs,ht⟩
 ·have e:xs=[]:=List.eq_nil_of_length_eq_zero h0
  subst e
  exact⟨none,0,rfl,Nat.le_refl _,⟨Nat.zero_le _,fun _=>rfl⟩,.inl rfl⟩
 ·refine⟨_,cap,rfl,hnc,⟨hcm,fun e=>by cases e⟩,.inr ⟨g,0,rfl,fun j hj=>?_⟩⟩
  have:=World.ownsRow.cellAt (w:=w) h j (by omega)
  rw[Nat.zero_add,this]
  simp[List.getD,hj]
theorem Own.le {w:World} {base:Nat} {v:Value} {xs:List Int} (h:Own w base v xs):xs.length≤maxLen:=by
 obtain⟨_,cap,_,h1,h2,_⟩:=h.reads
 omega
theorem Own.mono {w:World} {base base':Nat} {v:Value} {xs:List Int} (h:Own w base v xs) (hb:base'≤base):Own w base' v xs:=by
 refine⟨h.1,?_⟩
 rcases h.2 with h'|⟨g,cap,cur,e,hg,r⟩
 ·exact .inl h'
 ·exact .inr ⟨g,cap,cur,e,Nat.le_trans hb hg,r⟩
theorem Own.lt {w:World} {base:Nat} {v:Value} {xs:List Int} (h:Own w base v xs):∀k,v.ownBlock=some k→base≤k∧k<w.heap.size:=World.ownsRow.lt h
theorem Own.below {w w':World} {base:Nat} {v:Value} {xs:List Int} (h:Own w base v xs) (hb:Below w.heap.size w w'):Own w' base v xs:=by
 refine⟨h.1,?_⟩
 rcases h.2 with h'|⟨g,cap,cur,e,hg,hh,r⟩
 ·exact .inl h'
 ·have hlt:g<w.heap.size:=by
   rcases Nat.lt_or_ge g w.heap.size with hlt|hge
   ·exact hlt
   ·rw[Array.getElem?_eq_none hge]at hh;cases hh
  exact .inr ⟨g,cap,cur,e,hg,(hb.block g hlt).trans hh,r⟩
theorem Own.drew_eq {w w':World} {base:Nat} {v:Value} {xs:List Int} {n:Nat} (h:Own w base v xs) (e:w'=w.drewN n):Own w' base v xs:=by subst e;exact h
theorem Own.apart {w1 w2:World} {b1 b2:Nat} {v0 v1:Value} {xs ys:List Int} (h:Own w1 b1 v0 xs) (k:Own w2 b2 v1 ys) (hb:w1.heap.size≤b2):v0.ownBlock=none∨v0.ownBlock≠v1.ownBlock:=by
 by_cases e:v0.ownBlock=none
 ·exact .inl e
 ·refine .inr fun e2=>?_
  obtain⟨g,hg⟩:=Option.ne_none_iff_exists'.1 e
  have a:=h.lt g hg
  have b:=k.lt g (e2▸hg)
  omega
theorem Own.apart' {w1 w2:World} {b1 b2:Nat} {v0 v1:Value} {xs ys:List Int} (h:Own w1 b1 v0 xs) (k:Own w2 b2 v1 ys) (hb:w1.heap.size≤b2):v1.ownBlock=none∨v1.ownBlock≠v0.ownBlock:=by
 by_cases e:v1.ownBlock=none
 ·exact .inl e
 ·refine .inr fun e2=>?_
  obtain⟨g,hg⟩:=Option.ne_none_iff_exists'.1 e
  have a:=k.lt g hg
  have b:=h.lt g (e2▸hg)
  omega
theorem Own.kept {w w':World} {base:Nat} {v:Value} {row:Option Nat} {xs:List Int} (h:Own w base v xs) (hg:w.grownBy w' row) (hne:v.ownBlock=none∨v.ownBlock≠row):Own w' base v xs:=
 World.ownsRow.kept h hg hne
theorem Reads.below {w w':World} {B:Nat} {v:Value} {xs:List Int} (h:Reads w v xs) (hb:Below B w w') (hB:w.heap.size≤B):Reads w' v xs:=by
 obtain⟨ao,cap,rfl,h1,h2,h3⟩:=h
 refine⟨ao,cap,rfl,h1,h2,?_⟩
 rcases h3 with h3|⟨b,off,rfl,h4⟩
 ·exact .inl h3
 ·refine .inr ⟨b,off,rfl,fun j hj=>?_⟩
  have h5:=h4 j hj
  have h6:=World.block_lt_of_cell? w _ h5
  rw[hb.cell (p:=⟨b,off+j,none⟩) (Nat.lt_of_lt_of_le h6 hB)]
  exact h5
def marks (k:Int) (n:Nat):List Int:=(List.range n).map fun j=>k+(j:Nat)
theorem take_snoc (xs:List Int) (j:Nat) (h:j<xs.length):xs.take (j+1)=xs.take j++[xs.getD j 0]:=by
 rw[List.take_succ_eq_append_getElem h];simp[List.getD,h]
theorem take_step {xs ys:List Int} {j:Nat} (h:xs.take j=ys.take j) (hx:j<xs.length) (hy:j<ys.length) (e:xs.getD j 0=ys.getD j 0):xs.take (j+1)=ys.take (j+1):=by
 rw[take_snoc xs j hx,take_snoc ys j hy,h,e]
theorem ne_of_getD {xs ys:List Int} {j:Nat} (e:xs.getD j 0≠ys.getD j 0):xs≠ys:=fun h=>e (by rw[h])
theorem eq_any (va vb:Value) (xs ys:List Int) (w:World) (ha:Reads w va xs) (hb:Reads w vb ys) (hbig:xs.length≤1099511627776):
  Calls Tryz.prog 91 #[va,vb] w fun e w'=>e=.returned (.bool (decide (xs=ys)))∧∃n,w'=w.drewN n:=by
 obtain⟨ao,ca,rfl,hla,⟨hma, -⟩,hca⟩:=ha
 obtain⟨bo,cb,rfl,hlb,⟨hmb, -⟩,hcb⟩:=hb
 by_cases hlen:xs.length=ys.length
 ·obtain⟨n,hn⟩:∃n,n=xs.length:=⟨_,rfl⟩
  rw[←hlen]at hlb hcb⊢
  rw[←hn]at hla hlb hca hcb hbig⊢
  have HN:Hid (n=xs.length∧n=ys.length):=⟨hn,hn.trans hlen⟩
  clear hn hlen hma hmb
  have hcell:∀j,j<n→∃b off b' off',ao=some ⟨b,off,none⟩∧bo=some ⟨b',off',none⟩∧w.cell? ⟨b,off+j,none⟩=some (.int .i64 (xs.getD j 0))∧w.cell? ⟨b',off'+j,none⟩=some (.int .i64 (ys.getD j 0)):=by
   intro j hj
   rcases hca with e|⟨b,off,e,h4⟩
   ·have:=HN.out.1;rw[e]at this;simp at this;omega
   ·rcases hcb with e'|⟨b',off',e',h4'⟩
    ·have:=HN.out.2;rw[e']at this;simp at this;omega
    ·exact⟨b,off,b',off',e,e',h4 j hj,h4' j hj⟩
  clear hca hcb
  go_enter Tryz.func91,Tryz.ntmps91
  go_wp2
  go_loopw [5] (fun i wr=>∃j q:Nat,j≤n∧i=.int .i64 j∧Hid (xs.take j=ys.take j)∧wr=w.drewN q) (fun i _=>n-(intOf i).toNat)
  case atStart=>exact⟨0,0,Nat.zero_le _,rfl,by simp[Hid],rfl⟩
  case round=>
   obtain⟨j,q,hj,rfl,ht,rfl⟩:=hrel
   by_cases hlt:(j:Int)<(n:Int)
   ·obtain⟨b,off,b',off',rfl,rfl,hc1,hc2⟩:=hcell j (by omega)
    clear hcell
    obtain⟨x,hx⟩:∃x,x=xs.getD j 0:=⟨_,rfl⟩
    obtain⟨y,hy⟩:∃y,y=ys.getD j 0:=⟨_,rfl⟩
    rw[←hx]at hc1
    rw[←hy]at hc2
    have HX:Hid (x=xs.getD j 0∧y=ys.getD j 0):=⟨hx,hy⟩
    clear hx hy
    by_cases hxy:(x !=y)=true
    ·go_wp2
     go_quiet (fail)
     go_wp2
     go_ret
     exact⟨ret_bool (by
      have h1:x≠y:=by simpa using hxy
      have h2:xs≠ys:=ne_of_getD (j:=j) (by rw[←HX.out.1,←HX.out.2];exact h1)
      simp[h2]),⟨_,World.drewN_drewN ..⟩⟩
    ·go_wp2
     go_quiet (fail)
     go_wp2
     go_roundw
     case rel=>
      have h1:x=y:=by simpa using hxy
      exact⟨j+1,_,by omega,by go_num,take_step ht (by have:=HN.out.1;omega) (by have:=HN.out.2;omega) (by rw[←HX.out.1,←HX.out.2];exact h1),rfl⟩
     case measure=>simp[intOf];omega
   ·go_wp2
    go_ret
    exact⟨ret_bool (by
     have h1:xs=ys:=by
      have h2:=ht.out
      rw[List.take_of_length_le (by have:=HN.out.1;omega),List.take_of_length_le (by have:=HN.out.2;omega)]at h2
      exact h2
     simp[h1]),⟨_,rfl⟩⟩
 ·have hne:((xs.length:Int) !=(ys.length:Int))=true:=by simp;omega
  have he:decide (xs=ys)=false:=by
   have:xs≠ys:=fun h=>hlen (by rw[h])
   simp[this]
  rw[he]
  clear he hlen hca hcb
  go_enter Tryz.func91,Tryz.ntmps91
  go_wp2
  go_ret
  exact⟨rfl,0,rfl⟩
theorem Tryz.infoI:(Tryz.prog.info? 2).map (fun i=>(i.zero,i.size,i.bytes))=some (some (.int .i64 0),1,8):=by kernel_rfl
end Go.Proofs.YtflbcjgkdokhiaaGreatDoor
set_option maxRecDepth 20000
set_option maxHeartbeats 1000000
namespace Go.Proofs.YtflbcjgkdokhiaaGreatDoor
open Go.ChangeShapes Go.WideShapes Go.ChangeAt Go.RowKit
theorem zeros_eq (n:Nat):(madeCells #[Value.int .i64 0] n).toList=(List.replicate n (0:Int)).map (Value.int .i64):=by
 rw[toList_madeCells_one,List.map_replicate]
theorem fill_step (xs:List Int) (j:Nat) (h:j<xs.length):((xs.take j++List.replicate (xs.length-j) 0).set j (xs.getD j 0))=xs.take (j+1)++List.replicate (xs.length-(j+1)) 0:=by
 have hl:(xs.take j).length=j:=by simp;omega
 rw[List.set_append_right _ _ (by omega),hl,Nat.sub_self,take_snoc xs j h,show xs.length-j=(xs.length-(j+1))+1 by omega,List.replicate_succ,List.set_cons_zero]
 simp
theorem to_any (v:Value) (xs:List Int) (w:World) (h:Reads w v xs) (hbig:xs.length≤1099511627776):
  Calls Tryz.prog 82 #[v] w fun e w'=>∃u,e=.returned u∧Own w' w.heap.size u xs∧Below w.heap.size w w':=by
 obtain⟨i0,hi,hz0,hz1,hz2⟩:=info_parts Tryz.infoI
 obtain⟨ao,cap,rfl,hl,⟨hm, -⟩,hc⟩:=h
 obtain⟨n,hn⟩:∃n,n=xs.length:=⟨_,rfl⟩
 rw[←hn]at hl hc hbig⊢
 have HN:Hid (n=xs.length):=hn
 clear hn
 unfold maxLen at hm
 have hcell:∀j,j<n→∃b off,ao=some ⟨b,off,none⟩∧b<w.heap.size∧w.cell? ⟨b,off+j,none⟩=some (.int .i64 (xs.getD j 0)):=by
  intro j hj
  rcases hc with e|⟨b,off,e,h4⟩
  ·have:=HN.out;rw[e]at this;simp at this;omega
  ·exact⟨b,off,e,World.block_lt_of_cell? w _ (h4 j hj),h4 j hj⟩
 clear hc
 go_enter Tryz.func82,Tryz.ntmps82
 go_wp2_with (refine wpList_make_full _ rfl _ _ 44 rfl w.heap.size 2 i0 (.int .i64 0) 1 Tryz.underlying44 hi hz0 hz1 _ _ _ _ n rfl rfl rfl rfl (by rw[hz2];omega) (by unfold maxLen;omega) (Nat.le_refl _) ?_)
 intro w1 hown hgr
 rw[zeros_eq]at hown
 have HO:Hid (Own w1 w.heap.size (.slice (some ⟨w.heap.size,0,none⟩) n n) (List.replicate n 0)∧Below w.heap.size w w1):=by
  refine⟨?_,(Below.refl _ _).grown hgr (Nat.le_refl _) (fun k e=>by cases e)⟩
  unfold Own
  simpa using hown
 clear hown hgr
 go_wp2
 go_loopw [4] (fun i wr=>∃j:Nat,j≤n∧i=.int .i64 j∧Hid (Own wr w.heap.size (.slice (some ⟨w.heap.size,0,none⟩) n n) (xs.take j++List.replicate (xs.length-j) 0)∧Below w.heap.size w wr)) (fun i _=>n-(intOf i).toNat)
 case atStart=>exact⟨0,Nat.zero_le _,rfl,by have this:=HO.out;rw[HN.out]at this⊢;simpa[Hid]using this⟩
 case round=>
  obtain⟨j,hj,rfl,HR⟩:=hrel
  have hn':=HN.out
  have hlen:(xs.take j++List.replicate (xs.length-j) (0:Int)).length=n:=by simp;omega
  by_cases hlt:(j:Int)<(n:Int)
  ·obtain⟨b,off,rfl,hb,hc0⟩:=hcell j (by omega)
   have hc1:=(HR.out.2.cell (p:=⟨b,off+j,none⟩) hb).trans hc0
   obtain⟨x,hx⟩:∃x,x=xs.getD j 0:=⟨_,rfl⟩
   rw[←hx]at hc1
   have hown:wr.ownsRow w.heap.size 2 1 (.slice (some ⟨w.heap.size,0,none⟩) n n) n ((xs.take j++List.replicate (xs.length-j) 0).map (Value.int .i64)):=by
    have:=HR.out.1
    unfold Own at this
    rwa[hlen]at this
   have hfr:=World.ownsRow.frozenAt hown j
   obtain⟨y,hc⟩:∃y,wr.cell? ⟨w.heap.size,j,none⟩=some y:=by
    have:=World.ownsRow.cellAt hown j (by omega)
    rw[this]
    exact⟨_,List.getElem?_eq_getElem (by simp;omega)⟩
   have hst:=World.ownsRow.stored hown j (.int .i64 x)
   have HS:Hid (Own (wr.setCell ⟨w.heap.size,j,none⟩ (.int .i64 x)) w.heap.size (.slice (some ⟨w.heap.size,0,none⟩) n n) (xs.take (j+1)++List.replicate (xs.length-(j+1)) 0)∧Below w.heap.size w (wr.setCell ⟨w.heap.size,j,none⟩ (.int .i64 x))):=by
    refine⟨?_,HR.out.2.setCell (Nat.le_refl _) _⟩
    have:=hst.1
    rw[←List.map_set,hx,fill_step xs j (by omega)]at this
    unfold Own
    rw[←hx]at this
    rwa[show(xs.take (j+1)++List.replicate (xs.length-(j+1)) (0:Int)).length=n by simp;omega]
   clear hst hown HR hlen hn' hcell hc0 hx HO
   go_wp2
   go_roundw
   case rel=>exact⟨j+1,by omega,by go_num,HS⟩
   case measure=>simp[intOf];omega
  ·clear hn' hlen
   go_wp2
   go_ret
   have hjn:j=xs.length:=by have:=HN.out;omega
   have this:=HR.out
   rw[hjn,List.take_length,Nat.sub_self,List.replicate_zero,List.append_nil]at this
   exact⟨_,rfl,this⟩
theorem Own.put {w:World} {base g n cap:Nat} {xs:List Int} (h:Own w base (.slice (some ⟨g,0,none⟩) n cap) xs) (hn:n=xs.length) (j:Nat) (hj:j<n) (x:Int):
  w.frozen? ⟨g,j,none⟩=false∧(∃y,w.cell? ⟨g,j,none⟩=some y)∧Own (w.setCell ⟨g,j,none⟩ (.int .i64 x)) base (.slice (some ⟨g,0,none⟩) n cap) (xs.set j x):=by
 subst hn
 have hown:w.ownsRow base 2 1 (.slice (some ⟨g,0,none⟩) xs.length cap) xs.length (xs.map (Value.int .i64)):=h
 refine⟨World.ownsRow.frozenAt hown j,?_,?_⟩
 ·rw[World.ownsRow.cellAt hown j (by omega)]
  exact⟨_,List.getElem?_eq_getElem (by simpa using hj)⟩
 ·have:=(World.ownsRow.stored hown j (.int .i64 x)).1
  rw[←List.map_set]at this
  unfold Own
  rwa[List.length_set]
theorem reads_row {w:World} {a:Option Addr} {len cap:Nat} {zs:List Int} (h:(a=none∧len=0∧cap=0∧zs=[])∨
  ∃x,a=some x∧len≤cap∧cap≤maxLen∧zs.length=cap∧(∀i,i<zs.length→w.cell? (x.add i)=some (.int .i64 (zs.getD i 0)))∧∀n∈zs,(Lit.int .i64 n).wf=true):
  ∃xs:List Int,xs.length=len∧Reads w (.slice a len cap) xs:=by
 rcases h with⟨rfl,rfl,rfl,_⟩|⟨x,rfl,h1,h2,h3,h4,h5⟩
 ·exact⟨[],rfl,none,0,rfl,Nat.le_refl _,⟨Nat.zero_le _,fun _=>rfl⟩,.inl rfl⟩
 ·have hl:(zs.take len).length=len:=by simp;omega
  refine⟨zs.take len,hl,some x,cap,by rw[hl],by omega,⟨h2,fun e=>by cases e⟩,?_⟩
  rcases Nat.eq_zero_or_pos len with rfl|hp
  ·exact .inl (by simp)
  ·obtain⟨b,off,rfl,hc⟩:=ints_at h4 (by omega)
   refine .inr ⟨b,off,rfl,fun j hj=>?_⟩
   rw[hc j (by omega)]
   have hj':j<len:=by omega
   simp[List.getD,hj']
end Go.Proofs.YtflbcjgkdokhiaaGreatDoor
set_option maxRecDepth 20000
set_option maxHeartbeats 1000000
namespace Go.Proofs.YtflbcjgkdokhiaaGreatDoor
open Go.ChangeShapes Go.WideShapes Go.ChangeAt Go.RowKit
def valOk (x:Int):Bool:=decide (0≤x)&&decide (x≤9999)
def lenOk (n:Nat):Bool:=decide (1≤(n:Int))&&decide ((n:Int)≤8)
def blocksOk (xs:List Int):Bool:=xs.all valOk&&lenOk xs.length
def zerosI (n:Int):List Int:=if 1≤n∧n≤8 then List.replicate n.toNat 0 else[]
def placeOk (xs:List Int) (i v:Int):Bool:=decide (0≤i)&&(decide (i<(xs.length:Int))&&valOk v)
def bothOk (a b:List Int):Bool:=blocksOk a&&(blocksOk b&&decide (a.length=b.length))
def chosenUp (a b:List Int) (s:Int) (k n:Nat):List Int:=(List.range n).map fun j=>if j<k∧inB s j=true then b.getD j 0 else a.getD j 0
def cntOk (n:Int):Bool:=decide (1≤n)&&decide (n≤8)
theorem cntOk_yes {x:Int} (h0:1≤x) (h1:x≤8):cntOk x=true:=by simp[cntOk,h0,h1]
theorem cntOk_no {x:Int} (h:x<1∨8<x):cntOk x=false:=by simp[cntOk];omega
theorem cntOk_len (n:Nat):cntOk n=lenOk n:=rfl
theorem bothOk_yes' {a b:List Int} (h:bothOk a b=true):blocksOk a=true∧blocksOk b=true∧a.length=b.length:=by
 simpa[bothOk]using h
theorem lenOk_yes {n:Nat} (h1:1≤n) (h8:n≤8):lenOk n=true:=by simp[lenOk];omega
theorem lenOk_no {n:Nat} (h:n<1∨8<n):lenOk n=false:=by simp[lenOk];omega
theorem blocksOk_len {xs:List Int} (h:blocksOk xs=true):1≤xs.length∧xs.length≤8:=by
 simp[blocksOk,lenOk]at h;omega
theorem getD_past (xs:List Int) (j:Nat) (h:xs.length≤j):xs.getD j 0=0:=by
 simp[List.getD,List.getElem?_eq_none h]
theorem all_snoc {xs:List Int} {j:Nat} (h:j<xs.length) (h1:(xs.take j).all valOk=true) (h2:valOk (xs.getD j 0)=true):(xs.take (j+1)).all valOk=true:=by
 rw[take_snoc xs j h,List.all_append,h1];simpa using h2
theorem all_not {xs:List Int} {j:Nat} (h:j<xs.length) (h2:valOk (xs.getD j 0)=false):xs.all valOk=false:=by
 rw[List.all_eq_false]
 exact⟨xs.getD j 0,by simp[List.getD,h],by rw[h2];simp⟩
theorem sok_any (v:Value) (xs:List Int) (w:World) (h:Reads w v xs) (hbig:xs.length≤1099511627776):
  Calls Tryz.prog 69 #[v] w fun e w'=>e=.returned (.bool (blocksOk xs))∧w'=w:=by
 obtain⟨ao,cap,rfl,hl,⟨hm, -⟩,hc⟩:=h
 obtain⟨n,hn⟩:∃n,n=xs.length:=⟨_,rfl⟩
 rw[←hn]at hl hc hbig⊢
 have HN:Hid (n=xs.length):=hn
 clear hn
 unfold maxLen at hm
 have hcell:∀j,j<n→∃b off,ao=some ⟨b,off,none⟩∧w.cell? ⟨b,off+j,none⟩=some (.int .i64 (xs.getD j 0)):=by
  intro j hj
  rcases hc with e|⟨b,off,e,h4⟩
  ·have:=HN.out;rw[e]at this;simp at this;omega
  ·exact⟨b,off,e,h4 j hj⟩
 clear hc
 go_enter Tryz.func69,Tryz.ntmps69
 go_wp2
 go_loop [3] (fun i=>∃j:Nat,j≤n∧i=.int .i64 j∧Hid ((xs.take j).all valOk=true)) (fun i=>n-(intOf i).toNat)
 case atStart=>exact⟨0,Nat.zero_le _,rfl,by simp[Hid]⟩
 case round=>
  obtain⟨j,hj,rfl,ht⟩:=hrel
  by_cases hlt:(j:Int)<(n:Int)
  ·obtain⟨b,off,rfl,hc1⟩:=hcell j (by omega)
   clear hcell
   obtain⟨x,hx⟩:∃x,x=xs.getD j 0:=⟨_,rfl⟩
   rw[←hx]at hc1
   have HX:Hid (x=xs.getD j 0):=hx
   clear hx
   by_cases h0:0≤x
   ·by_cases h1:x≤9999
    ·go_wp2
     go_round
     case rel=>exact⟨j+1,by omega,by go_num,all_snoc (by have:=HN.out;omega) ht.out (by rw[←HX.out];simp[valOk,h0,h1])⟩
     case measure=>simp[intOf];omega
    ·go_wp2
     go_ret
     exact⟨ret_bool (by simp[blocksOk,all_not (xs:=xs) (j:=j) (by have:=HN.out;omega) (by rw[←HX.out];simp[valOk];omega)]),rfl⟩
   ·go_wp2
    go_ret
    exact⟨ret_bool (by simp[blocksOk,all_not (xs:=xs) (j:=j) (by have:=HN.out;omega) (by rw[←HX.out];simp[valOk];omega)]),rfl⟩
  ·have hall:Hid (blocksOk xs=lenOk n):=by
    have hn':=HN.out
    have h2:=ht.out
    rw[List.take_of_length_le (by omega)]at h2
    simp[Hid,blocksOk,h2,←hn']
   by_cases h1:1≤(n:Int)
   ·by_cases h8:(n:Int)≤8
    ·go_wp2
     go_ret
     exact⟨ret_bool (by rw[hall.out,lenOk_yes (by omega) (by omega)]),rfl⟩
    ·go_wp2
     go_ret
     exact⟨ret_bool (by rw[hall.out,lenOk_no (by omega)]),rfl⟩
   ·go_wp2
    go_ret
    exact⟨ret_bool (by rw[hall.out,lenOk_no (by omega)]),rfl⟩
end Go.Proofs.YtflbcjgkdokhiaaGreatDoor
