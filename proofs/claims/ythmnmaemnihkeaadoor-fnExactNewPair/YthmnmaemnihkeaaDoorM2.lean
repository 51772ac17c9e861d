/- Lists are copied: toInt64S and l1Copy answer the same list in new memory, and write nothing that was there. -/
import Derived.Test.YthmnmaemnihkeaaDoorMem
import Derived.OwnWalk
import Derived.Laws.AppendOwnNone
import Derived.WalkSpells
import Derived.Test.YthmnmaemnihkeaaDoorM1
import Derived.Below
namespace Go.Proofs.YthmnmaemnihkeaaDoor
open Go.ChangeShapes Go.WideShapes Go.ChangeAt Go.RowKit
theorem zeros_eq (n:Nat):(madeCells #[Value.int .i64 0] n).toList=(List.replicate n (0:Int)).map (Value.int .i64):=by
 rw[toList_madeCells_one,List.map_replicate]
theorem Own.put {w:World} {base g n cap:Nat} {xs:List Int} (h:Own w base (.slice (some ⟨g,0,none⟩) n cap) xs) (hn:n=xs.length) (j:Nat) (hj:j<n) (x:Int):
  w.frozen? ⟨g,j,none⟩=false∧(∃y,w.cell? ⟨g,j,none⟩=some y)∧Own (w.setCell ⟨g,j,none⟩ (.int .i64 x)) base (.slice (some ⟨g,0,none⟩) n cap) (xs.set j x):=by
 subst hn
 have hown:w.ownsRow base 2 1 (.slice (some ⟨g,0,none⟩) xs.length cap) xs.length (xs.map (Value.int .i64)):=h
 refine⟨World.ownsRow.frozenAt hown j,?_,?_⟩
 ·rw[World.ownsRow.cellAt hown j (by omega)]
  exact⟨_,List.getElem?_eq_getElem (by simpa using hj)⟩
 ·have:=(World.ownsRow.stored hown j (.int .i64 x)).1
  rw[←List.map_set]at this
  unfold Own
  rwa[List.length_set]
end Go.Proofs.YthmnmaemnihkeaaDoor
namespace Go.Proofs.YthmnmaemnihkeaaDoor
open Go.ChangeShapes Go.WideShapes Go.ChangeAt Go.RowKit
def valOk (x:Int):Bool:=decide (0≤x)&&decide (x≤9999)
def lenOk (n:Nat):Bool:=decide (1≤(n:Int))&&decide ((n:Int)≤8)
def blocksOk (xs:List Int):Bool:=xs.all valOk&&lenOk xs.length
def zerosI (n:Int):List Int:=if 1≤n∧n≤8 then List.replicate n.toNat 0 else[]
def placeOk (xs:List Int) (i v:Int):Bool:=decide (0≤i)&&(decide (i<(xs.length:Int))&&valOk v)
def bothOk (a b:List Int):Bool:=blocksOk a&&(blocksOk b&&decide (a.length=b.length))
def chosenUp (a b:List Int) (s:Int) (k n:Nat):List Int:=(List.range n).map fun j=>if j<k∧inB s j=true then b.getD j 0 else a.getD j 0
def cntOk (n:Int):Bool:=decide (1≤n)&&decide (n≤8)
theorem cntOk_yes {x:Int} (h0:1≤x) (h1:x≤8):cntOk x=true:=by simp[cntOk,h0,h1]
theorem cntOk_no {x:Int} (h:x<1∨8<x):cntOk x=false:=by simp[cntOk];omega
theorem bothOk_yes' {a b:List Int} (h:bothOk a b=true):blocksOk a=true∧blocksOk b=true∧a.length=b.length:=by
 simpa[bothOk]using h
theorem blocksOk_len {xs:List Int} (h:blocksOk xs=true):1≤xs.length∧xs.length≤8:=by
 simp[blocksOk,lenOk]at h;omega
theorem ownEmpty (w:World):Own (w.alloc (.cells #[] 2)) w.heap.size (.slice (some ⟨w.heap.size,0,none⟩) 0 0) []:=World.ownsRow_lit w #[] 0 (Nat.le_refl _) (Nat.zero_le _) rfl
theorem belowNew (w:World) (o:Obj):Below w.heap.size w (w.alloc o):=(Below.refl _ _).alloc (Nat.le_refl _) _
end Go.Proofs.YthmnmaemnihkeaaDoor
set_option maxRecDepth 20000
set_option maxHeartbeats 1000000
namespace Go.Proofs.YthmnmaemnihkeaaDoor
open Go.ChangeShapes Go.WideShapes Go.ChangeAt Go.RowKit
def digit (n:Nat):UInt8:=UInt8.ofNat (48+n%10)
def dec (n:Nat):Bs:=if n<10 then[digit n]else dec (n/10)++[digit n]
def decI (n:Int):Bs:=if n<0 then 45::dec n.natAbs else dec n.natAbs
def decZ (n:Nat):Bs:=if n=0 then[]else dec n
theorem decZ_step (n:Nat) (h:n≠0):decZ n=decZ (n/10)++[digit n]:=by
 unfold decZ
 rw[if_neg h,dec]
 by_cases h10:n<10
 ·rw[if_pos h10,if_pos (by omega)];rfl
 ·rw[if_neg h10,if_neg (by omega)]
theorem dec_zero:dec 0=[digit 0]:=by rw[dec];rfl
theorem parts_neg (k:Int) (h:k<0):k.tmod 10= -((k.natAbs%10:Nat):Int)∧k.tdiv 10= -((k.natAbs/10:Nat):Int):=by
 obtain⟨m,rfl⟩:∃m:Nat,k= -(m:Int):=⟨k.natAbs,by omega⟩
 rw[Int.neg_tmod,Int.neg_tdiv,Int.natAbs_neg,Int.natAbs_natCast]
 constructor<;>rfl
theorem parts_pos (k:Int) (h:0≤k):k.tmod 10=((k.natAbs%10:Nat):Int)∧k.tdiv 10=((k.natAbs/10:Nat):Int):=by
 obtain⟨m,rfl⟩:∃m:Nat,k=(m:Int):=⟨k.natAbs,by omega⟩
 rw[Int.natAbs_natCast]
 constructor<;>rfl
theorem digit_at (d:Nat) (h:d≤9):((digit d).toNat:Int)=48+(d:Int):=by
 have:(digit d).toNat=48+d%10:=by unfold digit;rw[UInt8.toNat_ofNat'];omega
 rw[this];omega
theorem conv1 (w:World) (d:Nat) (h:d≤9):(convert 83 9 (.slice (some ⟨w.heap.size,0,none⟩) 1 1)).run Tryd.prog (w.alloc (.cells #[.int .u8 (48+(d:Int))] 5))=.ok (.string ⟨#[digit d]⟩) (w.alloc (.cells #[.int .u8 (48+(d:Int))] 5)):=by
 have:=run_convert_bytes_back (P:=Tryd.prog) (w.alloc (.cells #[.int .u8 (48+(d:Int))] 5)) 83 9 5 ⟨w.heap.size,0,none⟩ 1 [digit d] Tryd.underlying83 Tryd.underlying5 Tryd.underlying9 (by
  intro j hj
  have e:j=0:=by simpa using hj
  subst e
  have h1:(w.alloc (.cells #[.int .u8 (48+(d:Int))] 5)).heap[w.heap.size]?=some (.cells #[.int .u8 (48+(d:Int))] 5):=heap_alloc_new w _
  have h2:=cell_of_row _ w.heap.size 0 _ _ _ h1
  have h3:((([digit d]:List UInt8)[0]).toNat:Int)=48+(d:Int):=digit_at d h
  rw[h3]
  exact h2)
 exact this
theorem digit_mod (n:Nat):digit (n%10)=digit n:=by unfold digit;rw[Nat.mod_mod]
theorem dec_len (k:Nat):∀n,n<10^(k+1)→(dec n).length≤k+1:=by
 induction k with
 |zero=>intro n h;rw[dec,if_pos (by omega)];simp
 |succ k ih=>
  intro n h
  rw[dec]
  split
  ·simp
  ·have:=ih (n/10) (by rw[Nat.pow_succ]at h;omega)
   simp;omega
theorem _root_.ByteArray.mk_append_mk' (a b:List UInt8):(({data:=a.toArray}:ByteArray)++{data:=b.toArray})={data:=(a++b).toArray}:=ByteArray.mk_append_mk a b
def IntInv (n k:Int) (l:Bs):Prop:=(l=[]∧k=n)∨(l≠[]∧decZ k.natAbs++l=dec n.natAbs)
theorem IntInv.step {n k k':Int} {l:Bs} {d:Nat} (h:IntInv n k l) (hg:l=[]∨k≠0) (hd:d=k.natAbs%10) (hk:k'.natAbs=k.natAbs/10):IntInv n k' (digit d::l):=by
 refine .inr ⟨by simp,?_⟩
 rw[hk,hd,digit_mod]
 rcases h with⟨rfl,rfl⟩|⟨h1,h2⟩
 ·by_cases h0:k.natAbs=0
  ·rw[h0];simp[decZ,dec_zero]
  ·rw[←decZ_step _ h0];simp[decZ,h0]
 ·have hk0:k≠0:=by
   rcases hg with h|h
   ·exact absurd h h1
   ·exact h
  rw[←h2,decZ_step k.natAbs (by omega)]
  simp
theorem IntInv.len {n k:Int} {l:Bs} (h:IntInv n k l) (h0: -9223372036854775808≤n) (h1:n≤9223372036854775807):l.length≤20:=by
 rcases h with⟨rfl,_⟩|⟨_,h2⟩
 ·simp
 ·have:=congrArg List.length h2
  have h3:=dec_len 19 n.natAbs (by omega)
  rw[List.length_append]at this
  omega
theorem IntInv.done {n:Int} {l:Bs} (h:IntInv n 0 l) (hl:l≠[]):l=dec n.natAbs:=by
 rcases h with⟨h,_⟩|⟨_,h2⟩
 ·exact absurd h hl
 ·simpa[decZ]using h2
theorem int_meas (k k':Int) (q d:Nat) (l:Bs) (hk':k'.natAbs=q) (h:(q:Int)<k.natAbs∨(q:Int)=k.natAbs∧l=[]):
  2*(intOf (.int .i64 k')).natAbs+(match Value.string (({data:=#[digit d]}:ByteArray)++{data:=l.toArray})with| .string b=>if b.size=0 then 1 else 0|_=>0)<2*(intOf (.int .i64 k)).natAbs+(match Value.string ⟨l.toArray⟩with| .string b=>if b.size=0 then 1 else 0|_=>0):=by
 rw[ByteArray.mk_append_mk' [digit d] l]
 have e1:(⟨([digit d]++l).toArray⟩:ByteArray).size=l.length+1:=by simp[ByteArray.size]
 have e2:(⟨l.toArray⟩:ByteArray).size=l.length:=rfl
 simp only[intOf,e1,e2,hk']
 rcases h with h|⟨h,rfl⟩
 ·split<;>simp<;>omega
 ·simp;omega
theorem sint_any (n:Int) (w:World) (h0: -9223372036854775808≤n) (h1:n≤9223372036854775807):
  Calls Tryd.prog 49 #[.int .i64 n] w fun e w'=>e=.returned (S (decI n))∧Below w.heap.size w w':=by
 unfold S
 go_enter Tryd.func49,Tryd.ntmps49
 go_wp2
 go_loopw [0,3] (fun m s wr=>∃(k:Int) (l:Bs),m=.int .i64 k∧s=.string ⟨l.toArray⟩∧-9223372036854775808≤k∧k≤9223372036854775807∧Hid (IntInv n k l∧Below w.heap.size w wr)) (fun m s _=>2*(intOf m).natAbs+(match s with| .string b=>if b.size=0 then 1 else 0|_=>0))
 case atStart=>exact⟨n,[],rfl,rfl,h0,h1,.inl ⟨rfl,rfl⟩,Below.refl _ _⟩
 case round=>
  obtain⟨k,l,rfl,rfl,hk0,hk1,HI⟩:=hrel
  have hl20:=HI.out.1.len h0 h1
  have hsz:(⟨l.toArray⟩:ByteArray).size=l.length:=rfl
  by_cases hend:l≠[]∧k=0
  ·obtain⟨hl,rfl⟩:=hend
   have HE:Hid (l=dec n.natAbs):=HI.out.1.done hl
   have hie:l.isEmpty=false:=by simpa using hl
   clear hl
   by_cases hneg:n<0
   ·go_wp2
    go_ret
    refine⟨congrArg (fun x=>Ending.returned (Value.string x)) ?_,HI.out.2⟩
    rw[ByteArray.mk_append_mk' [45] l,decI,if_pos hneg,←HE.out]
    rfl
   ·go_wp2
    go_ret
    refine⟨congrArg (fun x=>Ending.returned (Value.string ⟨List.toArray x⟩)) ?_,HI.out.2⟩
    rw[decI,if_neg (by omega),←HE.out]
  ·have hg:l=[]∨k≠0:=by
    by_cases h:l=[]
    ·exact .inl h
    ·exact .inr (fun e=>hend ⟨h,e⟩)
   clear hend
   obtain⟨d,hd⟩:∃d:Nat,d=k.natAbs%10:=⟨_,rfl⟩
   obtain⟨q,hq⟩:∃q:Nat,q=k.natAbs/10:=⟨_,rfl⟩
   have hd9:(d:Int)≤9:=by omega
   have hq9:(q:Int)≤922337203685477580:=by omega
   have hconv:=conv1 wr d (by omega)
   have HM:Hid ((q:Int)<k.natAbs∨(q:Int)=k.natAbs∧l=[]):=by
    rcases hg with h|h
    ·by_cases h0:k=0
     ·exact .inr ⟨by subst h0;simp at hq;omega,h⟩
     ·exact .inl (by omega)
    ·exact .inl (by omega)
   have HS:Hid (∀k':Int,k'.natAbs=q→IntInv n k' (digit d::l)):=fun k' e=>HI.out.1.step hg hd (by rw[e,hq])
   have HB:Hid (Below w.heap.size w (wr.alloc (.cells #[.int .u8 (48+(d:Int))] 5))):=HI.out.2.alloc HI.out.2.size _
   have hgo:l.isEmpty=true∨(l.isEmpty=false∧(k !=0)=true):=by
    by_cases h:l=[]
    ·exact .inl (by simp[h])
    ·refine .inr ⟨by simpa using h,?_⟩
     rcases hg with h'|h'
     ·exact absurd h' h
     ·simpa using h'
   have key:∀k':Int,k'.natAbs=q→(∃(k:Int) (l_1:Bs),Value.int .i64 k'=Value.int .i64 k∧Value.string (({data:=#[digit d]}:ByteArray)++{data:=l.toArray})=.string ⟨l_1.toArray⟩∧-9223372036854775808≤k∧k≤9223372036854775807∧Hid (IntInv n k l_1∧Below w.heap.size w (wr.alloc (.cells #[.int .u8 (48+(d:Int))] 5)))):=fun k' e=>
    ⟨k',digit d::l,rfl,by rw[ByteArray.mk_append_mk' [digit d] l];rfl,by omega,by omega,HS.out k' e,HB.out⟩
   have hlen:Hid ((⟨l.toArray⟩:ByteArray).size=l.length):=rfl
   have kneg:∀e:(k<0),k.tmod 10= -(d:Int)∧k.tdiv 10= -(q:Int):=fun e=>by rw[hd,hq];exact parts_neg k e
   have kpos:∀e:(0≤k),k.tmod 10=(d:Int)∧k.tdiv 10=(q:Int):=fun e=>by rw[hd,hq];exact parts_pos k e
   clear hd hq hg
   rcases hgo with hie|⟨hie,hkn⟩
   all_goals
    by_cases hneg:k<0
    ·obtain⟨hmod,hdiv⟩:=kneg hneg
     clear kneg kpos
     by_cases hd0:0<(d:Int)
     ·go_wp2
      go_roundw
      case rel=>exact key (-(q:Int)) (by omega)
      case measure=>exact int_meas k _ q _ l (by omega) HM.out
     ·obtain rfl:d=0:=by omega
      have e48:(48:Int)+((0:Nat):Int)=48:=rfl
      rw[e48]at hconv
      simp only[e48]at key
      go_wp2
      go_roundw
      case rel=>exact key (-(q:Int)) (by omega)
      case measure=>exact int_meas k _ q _ l (by omega) HM.out
    ·obtain⟨hmod,hdiv⟩:=kpos (by omega)
     clear kneg kpos
     go_wp2
     go_roundw
     case rel=>exact key (q:Int) (by omega)
     case measure=>exact int_meas k _ q _ l (by omega) HM.out
end Go.Proofs.YthmnmaemnihkeaaDoor
