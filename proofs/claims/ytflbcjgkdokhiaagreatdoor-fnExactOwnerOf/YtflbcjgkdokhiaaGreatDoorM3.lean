/- Numbers in decimal digits: what l1Int of the model answers. -/
import Derived.Test.YtflbcjgkdokhiaaGreatDoorM1
import Derived.Below
import Derived.Test.YtflbcjgkdokhiaaGreatDoorM2
import Derived.Laws.OwnMore
import Derived.Deep.AppendLies
import Derived.Deep.QuietTactic
import Derived.OwnWalk
import Derived.Deep.RegionHeld3
set_option maxRecDepth 20000
set_option maxHeartbeats 1000000
namespace Go.Proofs.YtflbcjgkdokhiaaGreatDoor
open Go.ChangeShapes Go.WideShapes Go.ChangeAt Go.RowKit
def digit (n:Nat):UInt8:=UInt8.ofNat (48+n%10)
def dec (n:Nat):Bs:=if n<10 then[digit n]else dec (n/10)++[digit n]
def decI (n:Int):Bs:=if n<0 then 45::dec n.natAbs else dec n.natAbs
def decZ (n:Nat):Bs:=if n=0 then[]else dec n
theorem decZ_step (n:Nat) (h:n≠0):decZ n=decZ (n/10)++[digit n]:=by
 unfold decZ
 rw[if_neg h,dec]
 by_cases h10:n<10
 ·rw[if_pos h10,if_pos (by omega)];rfl
 ·rw[if_neg h10,if_neg (by omega)]
theorem dec_zero:dec 0=[digit 0]:=by rw[dec];rfl
theorem parts_neg (k:Int) (h:k<0):k.tmod 10= -((k.natAbs%10:Nat):Int)∧k.tdiv 10= -((k.natAbs/10:Nat):Int):=by
 obtain⟨m,rfl⟩:∃m:Nat,k= -(m:Int):=⟨k.natAbs,by omega⟩
 rw[Int.neg_tmod,Int.neg_tdiv,Int.natAbs_neg,Int.natAbs_natCast]
 constructor<;>rfl
theorem parts_pos (k:Int) (h:0≤k):k.tmod 10=((k.natAbs%10:Nat):Int)∧k.tdiv 10=((k.natAbs/10:Nat):Int):=by
 obtain⟨m,rfl⟩:∃m:Nat,k=(m:Int):=⟨k.natAbs,by omega⟩
 rw[Int.natAbs_natCast]
 constructor<;>rfl
theorem digit_at (d:Nat) (h:d≤9):((digit d).toNat:Int)=48+(d:Int):=by
 have:(digit d).toNat=48+d%10:=by unfold digit;rw[UInt8.toNat_ofNat'];omega
 rw[this];omega
theorem conv1 (w:World) (d:Nat) (h:d≤9):(convert 146 9 (.slice (some ⟨w.heap.size,0,none⟩) 1 1)).run Tryz.prog (w.alloc (.cells #[.int .u8 (48+(d:Int))] 5))=.ok (.string ⟨#[digit d]⟩) (w.alloc (.cells #[.int .u8 (48+(d:Int))] 5)):=by
 have:=run_convert_bytes_back (P:=Tryz.prog) (w.alloc (.cells #[.int .u8 (48+(d:Int))] 5)) 146 9 5 ⟨w.heap.size,0,none⟩ 1 [digit d] Tryz.underlying146 Tryz.underlying5 Tryz.underlying9 (by
  intro j hj
  have e:j=0:=by simpa using hj
  subst e
  have h1:(w.alloc (.cells #[.int .u8 (48+(d:Int))] 5)).heap[w.heap.size]?=some (.cells #[.int .u8 (48+(d:Int))] 5):=heap_alloc_new w _
  have h2:=cell_of_row _ w.heap.size 0 _ _ _ h1
  have h3:((([digit d]:List UInt8)[0]).toNat:Int)=48+(d:Int):=digit_at d h
  rw[h3]
  exact h2)
 exact this
theorem digit_mod (n:Nat):digit (n%10)=digit n:=by unfold digit;rw[Nat.mod_mod]
theorem dec_len (k:Nat):∀n,n<10^(k+1)→(dec n).length≤k+1:=by
 induction k with
 |zero=>intro n h;rw[dec,if_pos (by omega)];simp
 |succ k ih=>
  intro n h
  rw[dec]
  split
  ·simp
  ·have:=ih (n/10) (by rw[Nat.pow_succ]at h;omega)
   simp;omega
theorem _root_.ByteArray.mk_append_mk' (a b:List UInt8):(({data:=a.toArray}:ByteArray)++{data:=b.toArray})={data:=(a++b).toArray}:=ByteArray.mk_append_mk a b
def IntInv (n k:Int) (l:Bs):Prop:=(l=[]∧k=n)∨(l≠[]∧decZ k.natAbs++l=dec n.natAbs)
theorem IntInv.step {n k k':Int} {l:Bs} {d:Nat} (h:IntInv n k l) (hg:l=[]∨k≠0) (hd:d=k.natAbs%10) (hk:k'.natAbs=k.natAbs/10):IntInv n k' (digit d::l):=by
 refine .inr ⟨by simp,?_⟩
 rw[hk,hd,digit_mod]
 rcases h with⟨rfl,rfl⟩|⟨h1,h2⟩
 ·by_cases h0:k.natAbs=0
  ·rw[h0];simp[decZ,dec_zero]
  ·rw[←decZ_step _ h0];simp[decZ,h0]
 ·have hk0:k≠0:=by
   rcases hg with h|h
   ·exact absurd h h1
   ·exact h
  rw[←h2,decZ_step k.natAbs (by omega)]
  simp
theorem IntInv.len {n k:Int} {l:Bs} (h:IntInv n k l) (h0: -9223372036854775808≤n) (h1:n≤9223372036854775807):l.length≤20:=by
 rcases h with⟨rfl,_⟩|⟨_,h2⟩
 ·simp
 ·have:=congrArg List.length h2
  have h3:=dec_len 19 n.natAbs (by omega)
  rw[List.length_append]at this
  omega
theorem IntInv.done {n:Int} {l:Bs} (h:IntInv n 0 l) (hl:l≠[]):l=dec n.natAbs:=by
 rcases h with⟨h,_⟩|⟨_,h2⟩
 ·exact absurd h hl
 ·simpa[decZ]using h2
theorem int_meas (k k':Int) (q d:Nat) (l:Bs) (hk':k'.natAbs=q) (h:(q:Int)<k.natAbs∨(q:Int)=k.natAbs∧l=[]):
  2*(intOf (.int .i64 k')).natAbs+(match Value.string (({data:=#[digit d]}:ByteArray)++{data:=l.toArray})with| .string b=>if b.size=0 then 1 else 0|_=>0)<2*(intOf (.int .i64 k)).natAbs+(match Value.string ⟨l.toArray⟩with| .string b=>if b.size=0 then 1 else 0|_=>0):=by
 rw[ByteArray.mk_append_mk' [digit d] l]
 have e1:(⟨([digit d]++l).toArray⟩:ByteArray).size=l.length+1:=by simp[ByteArray.size]
 have e2:(⟨l.toArray⟩:ByteArray).size=l.length:=rfl
 simp only[intOf,e1,e2,hk']
 rcases h with h|⟨h,rfl⟩
 ·split<;>simp<;>omega
 ·simp;omega
theorem sint_any (n:Int) (w:World) (h0: -9223372036854775808≤n) (h1:n≤9223372036854775807):
  Calls Tryz.prog 93 #[.int .i64 n] w fun e w'=>e=.returned (S (decI n))∧Below w.heap.size w w':=by
 unfold S
 go_enter Tryz.func93,Tryz.ntmps93
 go_wp2
 go_loopw [0,3] (fun m s wr=>∃(k:Int) (l:Bs),m=.int .i64 k∧s=.string ⟨l.toArray⟩∧-9223372036854775808≤k∧k≤9223372036854775807∧Hid (IntInv n k l∧Below w.heap.size w wr)) (fun m s _=>2*(intOf m).natAbs+(match s with| .string b=>if b.size=0 then 1 else 0|_=>0))
 case atStart=>exact⟨n,[],rfl,rfl,h0,h1,.inl ⟨rfl,rfl⟩,Below.refl _ _⟩
 case round=>
  obtain⟨k,l,rfl,rfl,hk0,hk1,HI⟩:=hrel
  have hl20:=HI.out.1.len h0 h1
  have hsz:(⟨l.toArray⟩:ByteArray).size=l.length:=rfl
  by_cases hend:l≠[]∧k=0
  ·obtain⟨hl,rfl⟩:=hend
   have HE:Hid (l=dec n.natAbs):=HI.out.1.done hl
   have hie:l.isEmpty=false:=by simpa using hl
   clear hl
   by_cases hneg:n<0
   ·go_wp2
    go_ret
    refine⟨congrArg (fun x=>Ending.returned (Value.string x)) ?_,HI.out.2⟩
    rw[ByteArray.mk_append_mk' [45] l,decI,if_pos hneg,←HE.out]
    rfl
   ·go_wp2
    go_ret
    refine⟨congrArg (fun x=>Ending.returned (Value.string ⟨List.toArray x⟩)) ?_,HI.out.2⟩
    rw[decI,if_neg (by omega),←HE.out]
  ·have hg:l=[]∨k≠0:=by
    by_cases h:l=[]
    ·exact .inl h
    ·exact .inr (fun e=>hend ⟨h,e⟩)
   clear hend
   obtain⟨d,hd⟩:∃d:Nat,d=k.natAbs%10:=⟨_,rfl⟩
   obtain⟨q,hq⟩:∃q:Nat,q=k.natAbs/10:=⟨_,rfl⟩
   have hd9:(d:Int)≤9:=by omega
   have hq9:(q:Int)≤922337203685477580:=by omega
   have hconv:=conv1 wr d (by omega)
   have HM:Hid ((q:Int)<k.natAbs∨(q:Int)=k.natAbs∧l=[]):=by
    rcases hg with h|h
    ·by_cases h0:k=0
     ·exact .inr ⟨by subst h0;simp at hq;omega,h⟩
     ·exact .inl (by omega)
    ·exact .inl (by omega)
   have HS:Hid (∀k':Int,k'.natAbs=q→IntInv n k' (digit d::l)):=fun k' e=>HI.out.1.step hg hd (by rw[e,hq])
   have HB:Hid (Below w.heap.size w (wr.alloc (.cells #[.int .u8 (48+(d:Int))] 5))):=HI.out.2.alloc HI.out.2.size _
   have hgo:l.isEmpty=true∨(l.isEmpty=false∧(k !=0)=true):=by
    by_cases h:l=[]
    ·exact .inl (by simp[h])
    ·refine .inr ⟨by simpa using h,?_⟩
     rcases hg with h'|h'
     ·exact absurd h' h
     ·simpa using h'
   have key:∀k':Int,k'.natAbs=q→(∃(k:Int) (l_1:Bs),Value.int .i64 k'=Value.int .i64 k∧Value.string (({data:=#[digit d]}:ByteArray)++{data:=l.toArray})=.string ⟨l_1.toArray⟩∧-9223372036854775808≤k∧k≤9223372036854775807∧Hid (IntInv n k l_1∧Below w.heap.size w (wr.alloc (.cells #[.int .u8 (48+(d:Int))] 5)))):=fun k' e=>
    ⟨k',digit d::l,rfl,by rw[ByteArray.mk_append_mk' [digit d] l];rfl,by omega,by omega,HS.out k' e,HB.out⟩
   have hlen:Hid ((⟨l.toArray⟩:ByteArray).size=l.length):=rfl
   have kneg:∀e:(k<0),k.tmod 10= -(d:Int)∧k.tdiv 10= -(q:Int):=fun e=>by rw[hd,hq];exact parts_neg k e
   have kpos:∀e:(0≤k),k.tmod 10=(d:Int)∧k.tdiv 10=(q:Int):=fun e=>by rw[hd,hq];exact parts_pos k e
   clear hd hq hg
   rcases hgo with hie|⟨hie,hkn⟩
   all_goals
    by_cases hneg:k<0
    ·obtain⟨hmod,hdiv⟩:=kneg hneg
     clear kneg kpos
     by_cases hd0:0<(d:Int)
     ·go_wp2
      go_roundw
      case rel=>exact key (-(q:Int)) (by omega)
      case measure=>exact int_meas k _ q _ l (by omega) HM.out
     ·obtain rfl:d=0:=by omega
      have e48:(48:Int)+((0:Nat):Int)=48:=rfl
      rw[e48]at hconv
      simp only[e48]at key
      go_wp2
      go_roundw
      case rel=>exact key (-(q:Int)) (by omega)
      case measure=>exact int_meas k _ q _ l (by omega) HM.out
    ·obtain⟨hmod,hdiv⟩:=kpos (by omega)
     clear kneg kpos
     go_wp2
     go_roundw
     case rel=>exact key (q:Int) (by omega)
     case measure=>exact int_meas k _ q _ l (by omega) HM.out
end Go.Proofs.YtflbcjgkdokhiaaGreatDoor
namespace Go.Proofs.YtflbcjgkdokhiaaGreatDoor
open Go.RowKit
structure An where
 st:Int
 tx:Bs
def anA (x:An):Array Value:=#[.int .i64 x.st,S x.tx]
def AV (x:An):Value:=.agg (anA x)
def rangeI (ys:List Int) (c:Cm):Bool:=decide ((ys.length:Int)≤c.p)||(decide (c.o=2)&& !valOk c.a)||(decide (c.o=3)&& !valOk c.b)
def atI (ys:List Int) (c:Cm):Int:=ys.getD c.p.toNat 0
def didI (xs ys:List Int) (c:Cm):List Int×List Int×An:=
 if c.o=5 then(ys,ys,⟨0,[]⟩)
 else if rangeI ys c then(xs,ys,⟨1,[]⟩)
 else if c.o=1 then(xs,ys,⟨0,decI (atI ys c)⟩)
 else if c.o=2 then(xs,ys.set c.p.toNat c.a,⟨0,[]⟩)
 else if c.o=3 then(if atI ys c=c.a then(xs,ys.set c.p.toNat c.b,⟨0,[]⟩)else(xs,ys,⟨2,decI (atI ys c)⟩))
 else(xs,ys.set c.p.toNat 0,⟨0,[]⟩)
def didD (xs ys:List Int) (c:Cm):List Int×List Int×An:=
 if bothOk xs ys then(if c.ok&&decide (c.o≤5)then didI xs ys c else(xs,ys,⟨7,[]⟩))else([],[],⟨7,[]⟩)
theorem Cm.ok_vol {c:Cm} (h:c.ok=true) (h5:c.o≤5):(c.o=1∨c.o=2∨c.o=3∨c.o=4∨c.o=5)∧0≤c.p:=by
 obtain⟨o,p,a,b,k⟩:=c
 have hb:=Cm.ok_byt h
 unfold Cm.ok Cm.told at h
 dsimp only at h h5
 simp only[Bool.and_eq_true,inI_iff]at h
 unfold Cm.Byt at hb
 dsimp only at hb
 dsimp only
 omega
end Go.Proofs.YtflbcjgkdokhiaaGreatDoor
namespace Go.Proofs.YtflbcjgkdokhiaaGreatDoor
open Go.ChangeShapes Go.WideShapes Go.ChangeAt Go.RowKit
def ReadsS (w:World) (v:Value) (xs:List Bs):Prop:=
 ∃ao cap,v=.slice ao xs.length cap∧xs.length≤cap∧(cap≤maxLen∧(ao=none→cap=0))∧
  (xs=[]∨∃b off,ao=some ⟨b,off,none⟩∧∀j,j<xs.length→w.cell? ⟨b,off+j,none⟩=some (S (xs.getD j [])))
def OwnS (w:World) (base:Nat) (v:Value) (xs:List Bs):Prop:=
 w.ownsRow base 9 1 v xs.length (xs.map S)
theorem OwnS.nil (w:World) (base:Nat):OwnS w base (.slice none 0 0) []:=World.ownsRow_nil w base _ _
theorem OwnS.reads {w:World} {base:Nat} {v:Value} {xs:List Bs} (h:OwnS w base v xs):ReadsS w v xs:=by
 rcases h.2 with⟨rfl,h0⟩|⟨g,cap,cur,rfl,hb,hg,hnc,hcm,hcs,ht⟩
 ·have e:xs=[]:=List.eq_nil_of_length_eq_zero h0
  subst e
  exact⟨none,0,rfl,Nat.le_refl _,⟨Nat.zero_le _,fun _=>rfl⟩,.inl rfl⟩
 ·refine⟨_,cap,rfl,hnc,⟨hcm,fun e=>by cases e⟩,.inr ⟨g,0,rfl,fun j hj=>?_⟩⟩
  have:=World.ownsRow.cellAt (w:=w) h j (by omega)
  rw[Nat.zero_add,this]
  simp[List.getD,hj]
theorem OwnS.mono {w:World} {base base':Nat} {v:Value} {xs:List Bs} (h:OwnS w base v xs) (hb:base'≤base):OwnS w base' v xs:=by
 refine⟨h.1,?_⟩
 rcases h.2 with h'|⟨g,cap,cur,e,hg,r⟩
 ·exact .inl h'
 ·exact .inr ⟨g,cap,cur,e,Nat.le_trans hb hg,r⟩
theorem OwnS.lt {w:World} {base:Nat} {v:Value} {xs:List Bs} (h:OwnS w base v xs):∀k,v.ownBlock=some k→base≤k∧k<w.heap.size:=World.ownsRow.lt h
theorem OwnS.frame {w w':World} {base:Nat} {v:Value} {xs:List Bs} (h:OwnS w base v xs) (e:∀b∈v.ownBlock.toList,w'.heap[b]?=w.heap[b]?):OwnS w' base v xs:=by
 refine⟨h.1,?_⟩
 rcases h.2 with h'|⟨g,cap,cur,rfl,hb,hg,r⟩
 ·exact .inl h'
 ·exact .inr ⟨g,cap,cur,rfl,hb,(e g (by simp[Value.ownBlock])).trans hg,r⟩
theorem OwnS.below {w w':World} {base:Nat} {v:Value} {xs:List Bs} (h:OwnS w base v xs) (hb:Below w.heap.size w w'):OwnS w' base v xs:=
 h.frame (fun b hm=>hb.block b (h.lt b (by simpa using hm)).2)
theorem OwnS.kept {w w':World} {base:Nat} {v:Value} {row:Option Nat} {xs:List Bs} (h:OwnS w base v xs) (hg:w.grownBy w' row) (hne:v.ownBlock=none∨v.ownBlock≠row):OwnS w' base v xs:=
 World.ownsRow.kept h hg hne
theorem ReadsS.below {w w':World} {B:Nat} {v:Value} {xs:List Bs} (h:ReadsS w v xs) (hb:Below B w w') (hB:w.heap.size≤B):ReadsS w' v xs:=by
 obtain⟨ao,cap,rfl,h1,h2,h3⟩:=h
 refine⟨ao,cap,rfl,h1,h2,?_⟩
 rcases h3 with h3|⟨b,off,rfl,h4⟩
 ·exact .inl h3
 ·refine .inr ⟨b,off,rfl,fun j hj=>?_⟩
  have h5:=h4 j hj
  have h6:=World.block_lt_of_cell? w _ h5
  rw[hb.cell (p:=⟨b,off+j,none⟩) (Nat.lt_of_lt_of_le h6 hB)]
  exact h5
theorem takeS_snoc (xs:List Bs) (j:Nat) (h:j<xs.length):xs.take (j+1)=xs.take j++[xs.getD j []]:=by
 rw[List.take_succ_eq_append_getElem h];simp[List.getD,h]
end Go.Proofs.YtflbcjgkdokhiaaGreatDoor
namespace Go.Proofs.YtflbcjgkdokhiaaGreatDoor
open Go.ChangeShapes Go.WideShapes Go.ChangeAt Go.RowKit
theorem OwnS.put {w:World} {base g n cap:Nat} {xs:List Bs} (h:OwnS w base (.slice (some ⟨g,0,none⟩) n cap) xs) (hn:n=xs.length) (j:Nat) (hj:j<n) (x:Bs):
  w.frozen? ⟨g,j,none⟩=false∧(∃y,w.cell? ⟨g,j,none⟩=some y)∧OwnS (w.setCell ⟨g,j,none⟩ (S x)) base (.slice (some ⟨g,0,none⟩) n cap) (xs.set j x):=by
 subst hn
 have hown:w.ownsRow base 9 1 (.slice (some ⟨g,0,none⟩) xs.length cap) xs.length (xs.map S):=h
 refine⟨World.ownsRow.frozenAt hown j,?_,?_⟩
 ·rw[World.ownsRow.cellAt hown j (by omega)]
  exact⟨_,List.getElem?_eq_getElem (by simpa using hj)⟩
 ·have:=(World.ownsRow.stored hown j (S x)).1
  rw[←List.map_set]at this
  unfold OwnS
  rwa[List.length_set]
theorem grownSetS (w:World) (g j:Nat) (x:Value):w.grownBy (w.setCell ⟨g,j,none⟩ x) (some g):=
 ⟨rfl,rfl,rfl,by simp,fun k _ hk=>heap_setCell_other w ⟨g,j,none⟩ k x (fun e=>hk (by simp[e]))⟩
end Go.Proofs.YtflbcjgkdokhiaaGreatDoor
set_option maxRecDepth 20000
set_option maxHeartbeats 1000000
namespace Go.Proofs.YtflbcjgkdokhiaaGreatDoor
open Go.ChangeShapes Go.WideShapes Go.ChangeAt Go.RowKit
def ahead (a:Bs):List Bs→List Bs
 |[]=>[a]
 |p::ps=>(a++p)::ps
def splitB (c:UInt8):Bs→List Bs
 |[]=>[[]]
 |b::t=>if b=c then[]::splitB c t else ahead [b] (splitB c t)
theorem ahead_ahead (a b:Bs) (l:List Bs) (h:l≠[]):ahead a (ahead b l)=ahead (a++b) l:=by
 cases l with
 |nil=>exact absurd rfl h
 |cons p ps=>simp[ahead]
theorem ahead_nil (l:List Bs) (h:l≠[]):ahead [] l=l:=by
 cases l with
 |nil=>exact absurd rfl h
 |cons p ps=>rfl
theorem ahead_ne (a:Bs) (l:List Bs):ahead a l≠[]:=by cases l<;>simp[ahead]
theorem splitB_ne (c:UInt8) (l:Bs):splitB c l≠[]:=by
 cases l with
 |nil=>simp[splitB]
 |cons b t=>rw[splitB];split;simp;exact ahead_ne _ _
def cutB (l:Bs) (a b:Nat):Bs:=(l.take b).drop a
theorem cutB_len (l:Bs) (a b:Nat) (h:b≤l.length):(cutB l a b).length=b-a:=by simp[cutB];omega
theorem cutB_snoc (l:Bs) (a b:Nat) (h:a≤b) (hb:b<l.length):cutB l a (b+1)=cutB l a b++[l[b]]:=by
 unfold cutB
 rw[take_snocB l b hb,List.drop_append_of_le_length (by simp;omega)]
theorem cutB_self (l:Bs) (a:Nat):cutB l a a=[]:=by
 unfold cutB
 rw[List.drop_eq_nil_of_le (by simp;omega)]
theorem extract_cut (l:Bs) (a b:Nat):(⟨l.toArray⟩:ByteArray).extract a b=⟨(cutB l a b).toArray⟩:=by
 apply ByteArray.ext
 rw[ByteArray.data_extract]
 simp[cutB,List.extract_toArray,List.drop_take]
def SplitInv (c:UInt8) (l:Bs) (out:List Bs) (a i:Nat):Prop:=a≤i∧splitB c l=out++ahead (cutB l a i) (splitB c (l.drop i))
theorem SplitInv.start (c:UInt8) (l:Bs):SplitInv c l [] 0 0:=⟨Nat.le_refl _,by rw[cutB_self,List.drop_zero,ahead_nil _ (splitB_ne _ _)];rfl⟩
theorem SplitInv.hit {c:UInt8} {l:Bs} {out:List Bs} {a i:Nat} (h:SplitInv c l out a i) (hi:i<l.length) (hc:l[i]=c):SplitInv c l (out++[cutB l a i]) (i+1) (i+1):=by
 refine⟨Nat.le_refl _,?_⟩
 rw[h.2,List.drop_eq_getElem_cons hi,splitB,if_pos hc,cutB_self,ahead_nil _ (splitB_ne _ _)]
 simp[ahead]
theorem SplitInv.miss {c:UInt8} {l:Bs} {out:List Bs} {a i:Nat} (h:SplitInv c l out a i) (hi:i<l.length) (hc:l[i]≠c):SplitInv c l out a (i+1):=by
 refine⟨by have:=h.1;omega,?_⟩
 rw[h.2,List.drop_eq_getElem_cons hi,splitB,if_neg hc,ahead_ahead _ _ _ (splitB_ne _ _),cutB_snoc l a i h.1 hi]
theorem SplitInv.done {c:UInt8} {l:Bs} {out:List Bs} {a:Nat} (h:SplitInv c l out a l.length):splitB c l=out++[cutB l a l.length]:=by
 rw[h.2]
 simp[splitB,ahead]
theorem Tryz.infoS:(Tryz.prog.info? 9).map (fun i=>(i.zero,i.size,i.bytes))=some (some (.string ⟨#[]⟩),1,16):=by kernel_rfl
theorem litS1 (w:World) (x:Bs):∀j u,([S x])[j]?=some u→(w.alloc (.cells #[S x] 9)).cell? ((⟨w.heap.size,0,none⟩:Addr).add j)=some u:=by
 intro j u hj
 match j,hj with
 |0,hj=>simp at hj;subst hj;simp[Addr.add]
theorem mapS_one (xs:List Bs) (a:Bs):xs.map S++[S a]=(xs++[a]).map S:=by simp
theorem appendS {w wr w':World} {o v':Value} {out:List Bs} {x:Bs} {ob:Obj} (hO:OwnS wr w.heap.size o out) (hB:Below w.heap.size w wr)
  (hown:w'.ownsRow w.heap.size 9 1 v' (out.length+1) (out.map S++[S x])) (hg:(wr.alloc ob).grownBy w' o.ownBlock):OwnS w' w.heap.size v' (out++[x])∧Below w.heap.size w w':=by
 refine⟨?_,(hB.alloc hB.size ob).grown hg (by simp;have:=hB.size;omega) (fun k e=>(hO.lt k e).1)⟩
 unfold OwnS
 rw[←mapS_one]
 simpa using hown
theorem ssplit_any (l:Bs) (c:UInt8) (w:World) (hl:l.length≤1048576):
  Calls Tryz.prog 95 #[S l,.int .u8 (byteI c)] w fun e w'=>∃u,e=.returned u∧OwnS w' w.heap.size u (splitB c l)∧Below w.heap.size w w':=by
 obtain⟨i0,hi,hz0,hz1,hz2⟩:=info_parts Tryz.infoS
 unfold S
 go_enter Tryz.func95,Tryz.ntmps95
 go_wp2
 go_loopw [5,6,7] (fun o f i wr=>∃(j a:Nat) (out:List Bs),i=.int .i64 j∧f=.int .i64 a∧(a:Int)≤j∧(j:Int)≤l.length+1∧out.length≤j∧Hid (OwnS wr w.heap.size o out∧Below w.heap.size w wr∧((j≤l.length→SplitInv c l out a j)∧(j=l.length+1→out=splitB c l)))) (fun _ _ i _=>l.length+1-(intOf i).toNat)
 case atStart=>exact⟨0,0,[],rfl,rfl,by omega,by omega,by simp,World.ownsRow_lit w #[] 0 (Nat.le_refl _) (Nat.zero_le _) rfl,(Below.refl _ _).alloc (Nat.le_refl _) _,fun _=>SplitInv.start c l,fun h=>by omega⟩
 case round=>
  obtain⟨j,a,out,rfl,rfl,haj,hj,hol,HR⟩:=hrel
  have hsz:(⟨l.toArray⟩:ByteArray).size=l.length:=rfl
  by_cases hend:(j:Int)≤(l.length:Int)
  ·have hinv:=HR.out.2.2.1 (by omega)
   have hown:=HR.out.1
   have hbs:=HR.out.2.1.size
   unfold OwnS at hown
   have hex:=extract_cut l a j
   by_cases hl2:(j:Int)=(l.length:Int)
   ·obtain rfl:j=l.length:=by omega
    have HI:Hid (splitB c l=out++[cutB l a l.length]):=hinv.done
    clear hinv hl2
    go_wp2_with (at_builtin;refine wpList_append_own _ rfl _ _ 124 rfl w.heap.size 9 i0 (.string ⟨#[]⟩) 1 16 Tryz.underlying124 hi hz0 hz1 hz2 rfl (by decide) _ _ _ rfl (hown.alloc _) _ 1 1 [S (cutB l a l.length)] rfl rfl (litS1 wr (cutB l a l.length)) (by simp[Value.oneCell',S]) (by unfold maxLen;omega) (by omega) (by simp;omega) ?_)
    intro v' w2 hown' hgrow _
    have HO:Hid (OwnS w2 w.heap.size v' (out++[cutB l a l.length])∧Below w.heap.size w w2):=appendS HR.out.1 HR.out.2.1 hown' hgrow
    clear hown hown' hgrow HR
    go_wp2
    go_roundw
    case rel=>exact⟨l.length+1,l.length+1,out++[cutB l a l.length],by go_num,by go_num,by omega,by omega,by simp;omega,HO.out.1,HO.out.2,fun h=>by omega,fun _=>HI.out.symm⟩
    case measure=>simp[intOf]
   ·have h1:j<l.length:=by omega
    have hjl:((j:Int)==(l.length:Int))=false:=by simpa using hl2
    have ht:=byteAt_is l j h1 c (byteI c) rfl
    by_cases hc:l[j]=c
    ·rw[show decide (l[j]=c)=true by simp[hc]]at ht
     have HI:Hid (SplitInv c l (out++[cutB l a j]) (j+1) (j+1)):=hinv.hit h1 hc
     clear hinv hc
     go_wp2_with (at_builtin;refine wpList_append_own _ rfl _ _ 124 rfl w.heap.size 9 i0 (.string ⟨#[]⟩) 1 16 Tryz.underlying124 hi hz0 hz1 hz2 rfl (by decide) _ _ _ rfl (hown.alloc _) _ 1 1 [S (cutB l a j)] rfl rfl (litS1 wr (cutB l a j)) (by simp[Value.oneCell',S]) (by unfold maxLen;omega) (by omega) (by simp;omega) ?_)
     intro v' w2 hown' hgrow _
     have HO:Hid (OwnS w2 w.heap.size v' (out++[cutB l a j])∧Below w.heap.size w w2):=appendS HR.out.1 HR.out.2.1 hown' hgrow
     clear hown hown' hgrow HR
     go_wp2
     go_roundw
     case rel=>exact⟨j+1,j+1,out++[cutB l a j],by go_num,by go_num,by omega,by omega,by simp;omega,HO.out.1,HO.out.2,fun _=>HI.out,fun h=>by omega⟩
     case measure=>simp[intOf];omega
    ·rw[show decide (l[j]=c)=false by simp[hc]]at ht
     have HI:Hid (SplitInv c l out a (j+1)):=hinv.miss h1 hc
     clear hinv hc hown
     go_wp2
     go_roundw
     case rel=>exact⟨j+1,a,out,by go_num,rfl,by omega,by omega,by omega,HR.out.1,HR.out.2.1,fun _=>HI.out,fun h=>by omega⟩
     case measure=>simp[intOf];omega
  ·go_wp2
   go_ret
   have e:j=l.length+1:=by omega
   have h2:=HR.out.2.2.2 e
   rw[←h2]
   exact⟨_,rfl,HR.out.1,HR.out.2.1⟩
end Go.Proofs.YtflbcjgkdokhiaaGreatDoor
