import Derived.Test.YtpdggofaobmnlaaGreatDoorM4
import Derived.Below
import Derived.Test.YtpdggofaobmnlaaGreatDoorM3
import Derived.Laws.OwnMore
import Derived.OwnWalk
import Derived.Test.YtpdggofaobmnlaaGreatDoorM6
/- Numbers in decimal digits: what l1Int of the model answers. -/
set_option maxRecDepth 20000
set_option maxHeartbeats 4000000
namespace Go.Proofs.YtpdggofaobmnlaaGreatDoor
open Go.ChangeShapes Go.WideShapes Go.ChangeAt Go.RowKit
def digit (n:Nat):UInt8:=UInt8.ofNat (48+n%10)
def dec (n:Nat):Bs:=if n<10 then[digit n]else dec (n/10)++[digit n]
def decI (n:Int):Bs:=if n<0 then 45::dec n.natAbs else dec n.natAbs
def decZ (n:Nat):Bs:=if n=0 then[]else dec n
theorem decZ_step (n:Nat) (h:n≠0):decZ n=decZ (n/10)++[digit n]:=by
 unfold decZ
 rw[if_neg h,dec]
 by_cases h10:n<10
 ·rw[if_pos h10,if_pos (by omega)];rfl
 ·rw[if_neg h10,if_neg (by omega)]
theorem dec_zero:dec 0=[digit 0]:=by rw[dec];rfl
theorem parts_neg (k:Int) (h:k<0):k.tmod 10= -((k.natAbs%10:Nat):Int)∧k.tdiv 10= -((k.natAbs/10:Nat):Int):=by
 obtain⟨m,rfl⟩:∃m:Nat,k= -(m:Int):=⟨k.natAbs,by omega⟩
 rw[Int.neg_tmod,Int.neg_tdiv,Int.natAbs_neg,Int.natAbs_natCast]
 constructor<;>rfl
theorem parts_pos (k:Int) (h:0≤k):k.tmod 10=((k.natAbs%10:Nat):Int)∧k.tdiv 10=((k.natAbs/10:Nat):Int):=by
 obtain⟨m,rfl⟩:∃m:Nat,k=(m:Int):=⟨k.natAbs,by omega⟩
 rw[Int.natAbs_natCast]
 constructor<;>rfl
theorem digit_at (d:Nat) (h:d≤9):((digit d).toNat:Int)=48+(d:Int):=by
 have:(digit d).toNat=48+d%10:=by unfold digit;rw[UInt8.toNat_ofNat'];omega
 rw[this];omega
theorem conv1 (w:World) (d:Nat) (h:d≤9):(convert 22 9 (.slice (some ⟨w.heap.size,0,none⟩) 1 1)).run Tryz.prog (w.alloc (.cells #[.int .u8 (48+(d:Int))] 5))=.ok (.string ⟨#[digit d]⟩) (w.alloc (.cells #[.int .u8 (48+(d:Int))] 5)):=by
 have:=run_convert_bytes_back (P:=Tryz.prog) (w.alloc (.cells #[.int .u8 (48+(d:Int))] 5)) 22 9 5 ⟨w.heap.size,0,none⟩ 1 [digit d] Tryz.underlying22 Tryz.underlying5 Tryz.underlying9 (by
  intro j hj
  have e:j=0:=by simpa using hj
  subst e
  have h1:(w.alloc (.cells #[.int .u8 (48+(d:Int))] 5)).heap[w.heap.size]?=some (.cells #[.int .u8 (48+(d:Int))] 5):=heap_alloc_new w _
  have h2:=cell_of_row _ w.heap.size 0 _ _ _ h1
  have h3:((([digit d]:List UInt8)[0]).toNat:Int)=48+(d:Int):=digit_at d h
  rw[h3]
  exact h2)
 exact this
theorem digit_mod (n:Nat):digit (n%10)=digit n:=by unfold digit;rw[Nat.mod_mod]
theorem dec_len (k:Nat):∀n,n<10^(k+1)→(dec n).length≤k+1:=by
 induction k with
 |zero=>intro n h;rw[dec,if_pos (by omega)];simp
 |succ k ih=>
  intro n h
  rw[dec]
  split
  ·simp
  ·have:=ih (n/10) (by rw[Nat.pow_succ]at h;omega)
   simp;omega
theorem _root_.ByteArray.mk_append_mk' (a b:List UInt8):(({data:=a.toArray}:ByteArray)++{data:=b.toArray})={data:=(a++b).toArray}:=ByteArray.mk_append_mk a b
def IntInv (n k:Int) (l:Bs):Prop:=(l=[]∧k=n)∨(l≠[]∧decZ k.natAbs++l=dec n.natAbs)
theorem IntInv.step {n k k':Int} {l:Bs} {d:Nat} (h:IntInv n k l) (hg:l=[]∨k≠0) (hd:d=k.natAbs%10) (hk:k'.natAbs=k.natAbs/10):IntInv n k' (digit d::l):=by
 refine .inr ⟨by simp,?_⟩
 rw[hk,hd,digit_mod]
 rcases h with⟨rfl,rfl⟩|⟨h1,h2⟩
 ·by_cases h0:k.natAbs=0
  ·rw[h0];simp[decZ,dec_zero]
  ·rw[←decZ_step _ h0];simp[decZ,h0]
 ·have hk0:k≠0:=by
   rcases hg with h|h
   ·exact absurd h h1
   ·exact h
  rw[←h2,decZ_step k.natAbs (by omega)]
  simp
theorem IntInv.len {n k:Int} {l:Bs} (h:IntInv n k l) (h0: -9223372036854775808≤n) (h1:n≤9223372036854775807):l.length≤20:=by
 rcases h with⟨rfl,_⟩|⟨_,h2⟩
 ·simp
 ·have:=congrArg List.length h2
  have h3:=dec_len 19 n.natAbs (by omega)
  rw[List.length_append]at this
  omega
theorem IntInv.done {n:Int} {l:Bs} (h:IntInv n 0 l) (hl:l≠[]):l=dec n.natAbs:=by
 rcases h with⟨h,_⟩|⟨_,h2⟩
 ·exact absurd h hl
 ·simpa[decZ]using h2
theorem int_meas (k k':Int) (q d:Nat) (l:Bs) (hk':k'.natAbs=q) (h:(q:Int)<k.natAbs∨(q:Int)=k.natAbs∧l=[]):
  2*(intOf (.int .i64 k')).natAbs+(match Value.string (({data:=#[digit d]}:ByteArray)++{data:=l.toArray})with| .string b=>if b.size=0 then 1 else 0|_=>0)<2*(intOf (.int .i64 k)).natAbs+(match Value.string ⟨l.toArray⟩with| .string b=>if b.size=0 then 1 else 0|_=>0):=by
 rw[ByteArray.mk_append_mk' [digit d] l]
 have e1:(⟨([digit d]++l).toArray⟩:ByteArray).size=l.length+1:=by simp[ByteArray.size]
 have e2:(⟨l.toArray⟩:ByteArray).size=l.length:=rfl
 simp only[intOf,e1,e2,hk']
 rcases h with h|⟨h,rfl⟩
 ·split<;>simp<;>omega
 ·simp;omega
theorem sint_any (n:Int) (w:World) (h0: -9223372036854775808≤n) (h1:n≤9223372036854775807):
  Calls Tryz.prog 135 #[.int .i64 n] w fun e w'=>e=.returned (S (decI n))∧Below w.heap.size w w':=by
 unfold S
 go_enter Tryz.func135,Tryz.ntmps135
 go_wp2
 go_loopw [0,3] (fun m s wr=>∃(k:Int) (l:Bs),m=.int .i64 k∧s=.string ⟨l.toArray⟩∧-9223372036854775808≤k∧k≤9223372036854775807∧Hid (IntInv n k l∧Below w.heap.size w wr)) (fun m s _=>2*(intOf m).natAbs+(match s with| .string b=>if b.size=0 then 1 else 0|_=>0))
 case atStart=>exact⟨n,[],rfl,rfl,h0,h1,.inl ⟨rfl,rfl⟩,Below.refl _ _⟩
 case round=>
  obtain⟨k,l,rfl,rfl,hk0,hk1,HI⟩:=hrel
  have hl20:=HI.out.1.len h0 h1
  have hsz:(⟨l.toArray⟩:ByteArray).size=l.length:=rfl
  by_cases hend:l≠[]∧k=0
  ·obtain⟨hl,rfl⟩:=hend
   have HE:Hid (l=dec n.natAbs):=HI.out.1.done hl
   have hie:l.isEmpty=false:=by simpa using hl
   clear hl
   by_cases hneg:n<0
   ·go_wp2
    go_ret
    refine⟨congrArg (fun x=>Ending.returned (Value.string x)) ?_,HI.out.2⟩
    rw[ByteArray.mk_append_mk' [45] l,decI,if_pos hneg,←HE.out]
    rfl
   ·go_wp2
    go_ret
    refine⟨congrArg (fun x=>Ending.returned (Value.string ⟨List.toArray x⟩)) ?_,HI.out.2⟩
    rw[decI,if_neg (by omega),←HE.out]
  ·have hg:l=[]∨k≠0:=by
    by_cases h:l=[]
    ·exact .inl h
    ·exact .inr (fun e=>hend ⟨h,e⟩)
   clear hend
   obtain⟨d,hd⟩:∃d:Nat,d=k.natAbs%10:=⟨_,rfl⟩
   obtain⟨q,hq⟩:∃q:Nat,q=k.natAbs/10:=⟨_,rfl⟩
   have hd9:(d:Int)≤9:=by omega
   have hq9:(q:Int)≤922337203685477580:=by omega
   have hconv:=conv1 wr d (by omega)
   have HM:Hid ((q:Int)<k.natAbs∨(q:Int)=k.natAbs∧l=[]):=by
    rcases hg with h|h
    ·by_cases h0:k=0
     ·exact .inr ⟨by subst h0;simp at hq;omega,h⟩
     ·exact .inl (by omega)
    ·exact .inl (by omega)
   have HS:Hid (∀k':Int,k'.natAbs=q→IntInv n k' (digit d::l)):=fun k' e=>HI.out.1.step hg hd (by rw[e,hq])
   have HB:Hid (Below w.heap.size w (wr.alloc (.cells #[.int .u8 (48+(d:Int))] 5))):=HI.out.2.alloc HI.out.2.size _
   have hgo:l.isEmpty=true∨(l.isEmpty=false∧(k !=0)=true):=by
    by_cases h:l=[]
    ·exact .inl (by simp[h])
    ·refine .inr ⟨by simpa using h,?_⟩
     rcases hg with h'|h'
     ·exact absurd h' h
     ·simpa using h'
   have key:∀k':Int,k'.natAbs=q→(∃(k:Int) (l_1:Bs),Value.int .i64 k'=Value.int .i64 k∧Value.string (({data:=#[digit d]}:ByteArray)++{data:=l.toArray})=.string ⟨l_1.toArray⟩∧-9223372036854775808≤k∧k≤9223372036854775807∧Hid (IntInv n k l_1∧Below w.heap.size w (wr.alloc (.cells #[.int .u8 (48+(d:Int))] 5)))):=fun k' e=>
    ⟨k',digit d::l,rfl,by rw[ByteArray.mk_append_mk' [digit d] l];rfl,by omega,by omega,HS.out k' e,HB.out⟩
   have hlen:Hid ((⟨l.toArray⟩:ByteArray).size=l.length):=rfl
   have kneg:∀e:(k<0),k.tmod 10= -(d:Int)∧k.tdiv 10= -(q:Int):=fun e=>by rw[hd,hq];exact parts_neg k e
   have kpos:∀e:(0≤k),k.tmod 10=(d:Int)∧k.tdiv 10=(q:Int):=fun e=>by rw[hd,hq];exact parts_pos k e
   clear hd hq hg
   rcases hgo with hie|⟨hie,hkn⟩
   all_goals
    by_cases hneg:k<0
    ·obtain⟨hmod,hdiv⟩:=kneg hneg
     clear kneg kpos
     by_cases hd0:0<(d:Int)
     ·go_wp2
      go_roundw
      case rel=>exact key (-(q:Int)) (by omega)
      case measure=>exact int_meas k _ q _ l (by omega) HM.out
     ·obtain rfl:d=0:=by omega
      have e48:(48:Int)+((0:Nat):Int)=48:=rfl
      rw[e48]at hconv
      simp only[e48]at key
      go_wp2
      go_roundw
      case rel=>exact key (-(q:Int)) (by omega)
      case measure=>exact int_meas k _ q _ l (by omega) HM.out
    ·obtain⟨hmod,hdiv⟩:=kpos (by omega)
     clear kneg kpos
     go_wp2
     go_roundw
     case rel=>exact key (q:Int) (by omega)
     case measure=>exact int_meas k _ q _ l (by omega) HM.out
end Go.Proofs.YtpdggofaobmnlaaGreatDoor
namespace Go.Proofs.YtpdggofaobmnlaaGreatDoor
open Go.ChangeShapes Go.WideShapes Go.ChangeAt Go.RowKit
def framed (l:Bs):Bs:=dec l.length++[32]++dec (chk l).toNat++[32]++l++[10]
def framedS (l:Bs):Bs:=if plainB l then framed l else[]
theorem decI_nat (n:Nat):decI n=dec n:=by simp[decI]
theorem chk_cast (l:Bs):((chk l).toNat:Int)=chk l:=by have:=(chk_bd l).1;omega
theorem app (a b:Bs):(({data:=a.toArray}:ByteArray)++{data:=b.toArray})={data:=(a++b).toArray}:=ByteArray.mk_append_mk a b
theorem bsize (a:Bs):({data:=a.toArray}:ByteArray).size=a.length:=rfl
end Go.Proofs.YtpdggofaobmnlaaGreatDoor
namespace Go.Proofs.YtpdggofaobmnlaaGreatDoor
open Go.ChangeShapes Go.WideShapes Go.ChangeAt Go.RowKit
def U (b:UInt8):Value:=.int .u8 (byteI b)
def OwnU (w:World) (base:Nat) (v:Value) (l:Bs):Prop:=w.ownsRow base 5 1 v l.length (l.map U)
theorem Tryz.infoU:(Tryz.prog.info? 5).map (fun i=>(i.zero,i.size,i.bytes))=some (some (.int .u8 0),1,1):=by kernel_rfl
theorem OwnU.lt {w:World} {base:Nat} {v:Value} {xs:Bs} (h:OwnU w base v xs):∀k,v.ownBlock=some k→base≤k∧k<w.heap.size:=World.ownsRow.lt h
theorem OwnU.frame {w w':World} {base:Nat} {v:Value} {xs:Bs} (h:OwnU w base v xs) (e:∀b∈v.ownBlock.toList,w'.heap[b]?=w.heap[b]?):OwnU w' base v xs:=by
 refine⟨h.1,?_⟩
 rcases h.2 with h'|⟨g,cap,cur,rfl,hb,hg,r⟩
 ·exact .inl h'
 ·exact .inr ⟨g,cap,cur,rfl,hb,(e g (by simp[Value.ownBlock])).trans hg,r⟩
theorem OwnU.raise {w:World} {base base':Nat} {v:Value} {xs:Bs} (h:OwnU w base v xs) (hb:∀k,v.ownBlock=some k→base'≤k):OwnU w base' v xs:=by
 refine⟨h.1,?_⟩
 rcases h.2 with h'|⟨g,cap,cur,rfl,_,r⟩
 ·exact .inl h'
 ·exact .inr ⟨g,cap,cur,rfl,hb g rfl,r⟩
theorem mapU_one (l:Bs) (b:UInt8):l.map U++[U b]=(l++[b]).map U:=by simp
theorem litU1 (w:World) (b:UInt8):∀j u,([U b])[j]?=some u→(w.alloc (.cells #[U b] 5)).cell? ((⟨w.heap.size,0,none⟩:Addr).add j)=some u:=by
 intro j u hj
 match j,hj with
 |0,hj=>simp at hj;subst hj;simp[Addr.add]
theorem OwnU.kept {w w':World} {base:Nat} {v:Value} {row:Option Nat} {xs:Bs} (h:OwnU w base v xs) (hg:w.grownBy w' row) (hne:v.ownBlock=none∨v.ownBlock≠row):OwnU w' base v xs:=
 World.ownsRow.kept h hg hne
theorem OwnU.notAt {w:World} {base c:Nat} {v:Value} {xs:Bs} (h:OwnU w base v xs) (hc:c<base):v.ownBlock=none∨v.ownBlock≠some c:=by
 by_cases e:v.ownBlock=none
 ·exact .inl e
 ·refine .inr fun e2=>?_
  have:=(h.lt c e2).1
  omega
theorem grown_ownU {o a b:World} {c:Nat} {row:Option Nat} (h:o.grownBy a (some c)) (g:a.grownBy b row) (hr:∀k,row=some k→o.heap.size≤k):o.grownBy b (some c):=
 ⟨g.os.trans h.os,g.tape.trans h.tape,g.output.trans h.output,Nat.le_trans h.size g.size,fun k hk hne=>(g.block k (Nat.lt_of_lt_of_le hk h.size) (fun e=>by have:=hr k e.symm;omega)).trans (h.block k hk hne)⟩
def DrawnU (w0 w:World) (B c:Nat) (v:Value) (l:Bs):Prop:=OwnU w w0.heap.size v l∧Cur w B c∧w0.grownBy w (some c)∧c<w0.heap.size
theorem DrawnU.draw {w0 w w':World} {B c:Nat} {v:Value} {l:Bs} (h:DrawnU w0 w B c v l) (C:Cur w' B c) (G:w.grownBy w' (some c)):DrawnU w0 w' B c v l:=
 ⟨h.1.kept G (h.1.notAt h.2.2.2),C,h.2.2.1.trans G,h.2.2.2⟩
theorem DrawnU.append {w0 w w':World} {B c:Nat} {v v':Value} {l:Bs} {b:UInt8} {o:Obj} (h:DrawnU w0 w B c v l) (hB:B≤w0.heap.size)
  (hown:w'.ownsRow w0.heap.size 5 1 v' (l.length+1) (l.map U++[U b])) (hg:(w.alloc o).grownBy w' v.ownBlock):DrawnU w0 w' B c v' (l++[b]):=by
 obtain⟨h1,h2,h3,h4⟩:=h
 have ga:w.grownBy (w.alloc o) (some c):=World.grownBy_alloc w o _
 have hrow:∀k,v.ownBlock=some k→w0.heap.size≤k:=fun k e=>(h1.lt k e).1
 refine⟨?_,?_,grown_ownU (h3.trans ga) hg hrow,h4⟩
 ·unfold OwnU
  rw[←mapU_one]
  simpa using hown
 ·exact(h2.kept (World.grownBy_alloc w o none) (by simp) (by simp)).kept hg (by rcases h1.notAt h4 with e|e;rw[e];simp;exact e) (fun k e=>by have:=hrow k e;omega)
theorem DrawnU.new {w0 w w':World} {B c:Nat} {v v':Value} {l l':Bs} (h:DrawnU w0 w B c v l) (hown:OwnU w' w.heap.size v' l') (G:w.grownBy w' none):DrawnU w0 w' B c v' l':=
 ⟨OwnU.raise hown (fun k hk=>Nat.le_trans h.2.2.1.size (hown.lt k hk).1),h.2.1.kept G (by simp) (by simp),grown_ownU h.2.2.1 G (by simp),h.2.2.2⟩
theorem run_str (w:World) (base:Nat) (v:Value) (l:Bs) (h:OwnU w base v l) (hv:v≠.slice none 0 0):(convert 22 9 v).run Tryz.prog w=.ok (S l) w:=by
 rcases h.2 with⟨e,_⟩|⟨g,cap,cur,rfl,hb,hg,hnc,hcm,hcs,ht⟩
 ·exact absurd e hv
 ·refine run_convert_bytes_back (P:=Tryz.prog) w 22 9 5 ⟨g,0,none⟩ cap l Tryz.underlying22 Tryz.underlying5 Tryz.underlying9 (fun j hj=>?_)
  have:=World.ownsRow.cellAt (w:=w) h j (by omega)
  rw[show(⟨g,0,none⟩:Addr).add j=⟨g,j,none⟩ by unfold Addr.add;split<;>simp_all,this]
  simp[hj,U,byteI]
theorem zerosU_eq (n:Nat):(madeCells #[Value.int .u8 0] n).toList=(List.replicate n (0:UInt8)).map U:=by
 rw[toList_madeCells_one,List.map_replicate];rfl
end Go.Proofs.YtpdggofaobmnlaaGreatDoor
namespace Go.Proofs.YtpdggofaobmnlaaGreatDoor
open Go.ChangeShapes Go.WideShapes Go.ChangeAt Go.RowKit
def zeroH:Array Value:=#[.slice none 0 0,.int .i64 0,.int .i64 0,.int .i64 0]
def DH (w wx:World) (B c g k q n cap:Nat) (h:Hd):Prop:=
 Cur wx B c∧w.grownBy wx (some c)∧StB wx g 28 zeroH∧StB wx k 28 (hdA (.slice (some ⟨q,0,none⟩) n cap) h)∧Own wx w.heap.size (.slice (some ⟨q,0,none⟩) n cap) h.ks∧
 (w.heap.size≤g∧w.heap.size≤k∧w.heap.size≤q∧g≠k∧g≠q∧k≠q∧c<w.heap.size∧B≤w.heap.size∧n=h.ks.length)
theorem DH.draw {w wx wy:World} {B c g k q n cap:Nat} {h:Hd} (d:DH w wx B c g k q n cap h) (C:Cur wy B c) (G:wx.grownBy wy (some c)):DH w wy B c g k q n cap h:=by
 obtain⟨h1,h2,h3,h4,h5,h6⟩:=d
 refine⟨C,h2.trans G,h3.kept G ?_,h4.kept G ?_,h5.kept G (.inr ?_),h6⟩
 ·intro e;have:=Option.some.inj e;omega
 ·intro e;have:=Option.some.inj e;omega
 ·intro e;have:q=c:=Option.some.inj e;omega
theorem DH.drew {w wx:World} {B c g k q n cap:Nat} {h:Hd} (d:DH w wx B c g k q n cap h):DH w wx.drew B c g k q n cap h:=by
 obtain⟨h1,h2,h3,h4,h5,h6⟩:=d
 exact⟨h1,⟨h2.os,h2.tape,h2.output,h2.size,h2.block⟩,h3,h4,h5,h6⟩
theorem DH.alloc {w wx:World} {B c g k q n cap:Nat} {h:Hd} (d:DH w wx B c g k q n cap h) (o:Obj):DH w (wx.alloc o) B c g k q n cap h:=by
 obtain⟨h1,h2,h3,h4,h5,h6⟩:=d
 exact⟨h1.kept (World.grownBy_alloc wx o none) (by simp) (by simp),h2.trans (World.grownBy_alloc wx o _),h3.alloc o,h4.alloc o,h5.below ((Below.refl _ _).alloc (Nat.le_refl _) _),h6⟩
theorem DH.put {w wx:World} {B c g k q n cap:Nat} {h:Hd} (d:DH w wx B c g k q n cap h) (j:Nat) (x:Int) (f:Hd) (hk:f.ks=h.ks) (e:(hdA (.slice (some ⟨q,0,none⟩) n cap) h).setIfInBounds j (.int .i64 x)=hdA (.slice (some ⟨q,0,none⟩) n cap) f):DH w (wx.setCell ⟨k,j,none⟩ (.int .i64 x)) B c g k q n cap f:=by
 obtain⟨h1,h2,h3,h4,h5,h6⟩:=d
 have G:=grownSet wx k j (.int .i64 x)
 refine⟨h1.kept G ?_ (fun y e=>by cases e;omega),grown_ownU h2 G (fun y e=>by cases e;omega),h3.kept G ?_,h4.put j _ e,?_,?_⟩
 ·intro e;have:=Option.some.inj e;omega
 ·intro e;have:=Option.some.inj e;omega
 ·rw[hk];exact h5.kept G (.inr (by intro e;have:q=k:=Option.some.inj e;omega))
 ·rw[hk];exact h6
theorem DH.key {w wx:World} {B c g k q n cap:Nat} {h:Hd} (d:DH w wx B c g k q n cap h) (j:Nat) (hj:j<n) (x:Int):
  wx.frozen? ⟨q,j,none⟩=false∧(∃y,wx.cell? ⟨q,j,none⟩=some y)∧DH w (wx.setCell ⟨q,j,none⟩ (.int .i64 x)) B c g k q n cap ⟨h.ks.set j x,h.kd,h.ho,h.tu⟩:=by
 obtain⟨h1,h2,h3,h4,h5,h6⟩:=d
 obtain⟨f,y,o⟩:=h5.put h6.2.2.2.2.2.2.2.2 j hj x
 have G:=grownSet wx q j (.int .i64 x)
 refine⟨f,y,h1.kept G ?_ (fun y e=>by cases e;omega),grown_ownU h2 G (fun y e=>by cases e;omega),h3.kept G ?_,h4.kept G ?_,o,?_⟩
 ·intro e;have:=Option.some.inj e;omega
 ·intro e;have:=Option.some.inj e;omega
 ·intro e;have:=Option.some.inj e;omega
 ·simpa using h6
theorem DH.keyAt {w wx:World} {B c g k q n cap:Nat} {h:Hd} (d:DH w wx B c g k q n cap h) (j:Nat) (hj:j<n):wx.cell? ⟨q,j,none⟩=some (.int .i64 (h.ks.getD j 0)):=by
 obtain⟨h1,h2,h3,h4,h5,h6⟩:=d
 obtain⟨-, -, -,hc⟩:=reads_cells h5.reads
 obtain⟨b,off,e,hcell⟩:=hc j hj
 simp only[Option.some.injEq,Addr.mk.injEq]at e
 obtain⟨rfl,rfl, -⟩:=e
 simpa using hcell
theorem DH.fin {w wx wy:World} {B c g k q n cap:Nat} {h:Hd} (d:DH w wx B c g k q n cap h) (G:wx.grownBy wy (some g)):Own wy w.heap.size (.slice (some ⟨q,0,none⟩) n cap) h.ks∧Cur wy B c∧w.grownBy wy (some c):=by
 obtain⟨h1,h2,h3,h4,h5,h6⟩:=d
 refine⟨h5.kept G (.inr ?_),h1.kept G ?_ (fun x e=>by cases e;omega),grown_ownU h2 G (fun x e=>by cases e;omega)⟩
 ·intro e;have:q=g:=Option.some.inj e;omega
 ·intro e;have:=Option.some.inj e;omega
theorem l8draw_any (B c:Nat) (w:World) (hcur:Cur w B c):
  Calls Tryz.prog 64 #[.pointer (some ⟨c,0,none⟩)] w fun e w'=>∃(h:Hd) (q cap:Nat),e=.returned (HV (.slice (some ⟨q,0,none⟩) 4 cap) h)∧h.ks.length=4∧w.heap.size≤q∧Own w' w.heap.size (.slice (some ⟨q,0,none⟩) 4 cap) h.ks∧Cur w' B c∧w.grownBy w' (some c):=by
 have hlt:=hcur.lt
 have C0:Cur (w.alloc (.cells zeroH 28)) B c:=hcur.kept (World.grownBy_alloc w _ none) (by simp) (by simp)
 have S0:StB (w.alloc (.cells zeroH 28)) w.heap.size 28 zeroH:=StB.new w _ _
 have HC0:Hid (Cur (w.alloc (.cells zeroH 28)) B c∧StB (w.alloc (.cells zeroH 28)) w.heap.size 28 zeroH):=⟨C0,S0⟩
 clear hcur C0 S0
 go_enter Tryz.func64,Tryz.ntmps64
 go_wp2_with fail
 refine(snewH_any _).mono ?_
 rintro e w1 ⟨u,rfl,o1,b1⟩
 obtain⟨q,cap,rfl,hq0,hq1⟩:=World.ownsRow.form o1 (by simp[Hd.new])
 have hq2:w.heap.size<q:=by simp at hq0;omega
 have HD:Hid (DH w (w1.alloc (.cells (hdA (.slice (some ⟨q,0,none⟩) 4 cap) Hd.new) 28)) B c w.heap.size w1.heap.size q 4 cap Hd.new):=by
  have b2:Below w1.heap.size w1 (w1.alloc (.cells (hdA (.slice (some ⟨q,0,none⟩) 4 cap) Hd.new) 28)):=(Below.refl _ _).alloc (Nat.le_refl _) _
  have bs:=b1.size
  simp at bs
  refine⟨(HC0.out.1.below b1).below b2,?_,(HC0.out.2.below b1).below b2,StB.new w1 _ _,(Own.below o1 b2).mono (by simp),by omega,by omega,by omega,by omega,by omega,by omega,by omega,by omega,rfl⟩
  exact(World.grownBy_alloc w _ _).trans ⟨(b1.trans (b2.mono b1.size)).os,(b1.trans (b2.mono b1.size)).tape,(b1.trans (b2.mono b1.size)).output,(b1.trans (b2.mono b1.size)).size,fun x hx _=>(b1.trans (b2.mono b1.size)).block x hx⟩
 clear o1 b1 HC0
 unfold HV hdA Hd.new
 dsimp only
 have hs1:w.heap.size<w1.heap.size:=by omega
 have hne1:w.heap.size≠w1.heap.size:=by omega
 have hne2:w1.heap.size≠q:=by omega
 have hne3:w.heap.size≠q:=by omega
 clear hq0
 go_wp2
 go_loopw [4] (fun i wr=>∃(j:Nat) (ks:List Int),(j:Int)≤4∧i=.int .i64 j∧Hid (ks.length=4)∧Hid (DH w wr B c w.heap.size w1.heap.size q 4 cap ⟨ks,0, -1,0⟩)) (fun i _=>4-(intOf i).toNat)
 case atStart=>exact⟨0,[0,0,0,0],by omega,rfl,rfl,HD⟩
 case round=>
  obtain⟨j,ks,hj,rfl,HL,HR⟩:=hrel
  clear HD
  by_cases hlt4:(j:Int)<4
  ·have k0:wr.cell? ⟨w1.heap.size,0,none⟩=some (.slice (some ⟨q,0,none⟩) 4 cap):=HR.out.2.2.2.1.cell 0 rfl
   go_wp2_with fail
   go_region_held3 (fun w'=>w'.cell? ⟨w1.heap.size,0,none⟩=some (.slice (some ⟨q,0,none⟩) 4 cap)) (go_keep)
    (first|(go_at_call 67;refine(below_any B c 3 _ HR.out.drew.1 (by omega)).mono ?_;rintro e wA ⟨x,rfl,lx,ux, -,CA,GA⟩;have vx:=ux (by omega);have HA:Hid (DH w wA B c w.heap.size w1.heap.size q 4 cap ⟨ks,0, -1,0⟩):=HR.out.drew.draw CA GA;clear ux CA GA;have ka:wA.cell? ⟨w1.heap.size,0,none⟩=some (.slice (some ⟨q,0,none⟩) 4 cap):=HA.out.2.2.2.1.cell 0 rfl;obtain⟨fj,⟨yj,cj⟩,HK⟩:=HA.out.key j (by omega) x;have kb:(wA.setCell ⟨q,j,none⟩ (.int .i64 x)).cell? ⟨w1.heap.size,0,none⟩=some (.slice (some ⟨q,0,none⟩) 4 cap):=HK.2.2.2.1.cell 0 rfl;have HK2:Hid _:=HK;clear HK HA))
   go_wp2
   refine⟨⟨_,_,_,_,_,_,_,_,_,_,_,?_,rfl⟩,?_⟩
   ·exact⟨j+1,ks.set j x,by omega,by go_num,by rw[Hid,List.length_set];exact HL.out,HK2⟩
   ·simp[intOf];omega
  ·go_wp2_with fail
   refine(below_any B c 5 _ HR.out.1 (by omega)).mono ?_
   rintro e w2 ⟨t2,rfl,l2,u2, -,C2,G2⟩
   have y2:=u2 (by omega)
   have H2:Hid (DH w w2 B c w.heap.size w1.heap.size q 4 cap ⟨ks,0, -1,0⟩):=HR.out.draw C2 G2
   clear u2 C2 G2 HR
   have k2:w2.cell? ⟨w1.heap.size,3,none⟩=some (.int .i64 0):=H2.out.2.2.2.1.cell 3 rfl
   have f2:=H2.out.2.2.2.1.frozen 3
   have s2:=H2.out.2.2.2.1.lt
   have J2:Hid (DH w (w2.setCell ⟨w1.heap.size,3,none⟩ (.int .i64 t2)) B c w.heap.size w1.heap.size q 4 cap ⟨ks,0, -1,t2⟩):=H2.out.put 3 t2 ⟨ks,0, -1,t2⟩ rfl rfl
   clear H2
   go_wp2_with fail
   refine(once_any B c 20 _ J2.out.1 (by omega)).mono ?_
   rintro e w3 ⟨b3,rfl,C3,G3⟩
   have H3:Hid (DH w w3 B c w.heap.size w1.heap.size q 4 cap ⟨ks,0, -1,t2⟩):=J2.out.draw C3 G3
   clear C3 G3 J2 k2 f2 s2
   have s3:=H3.out.2.2.2.1.lt
   cases b3 with
   |false=>
    go_wp2_with fail
    refine(below_any B c 6 _ H3.out.1 (by omega)).mono ?_
    rintro e w5 ⟨x5,rfl,l5,u5, -,C5,G5⟩
    have y5:=u5 (by omega)
    have H5:Hid (DH w w5 B c w.heap.size w1.heap.size q 4 cap ⟨ks,0, -1,t2⟩):=H3.out.draw C5 G5
    clear u5 C5 G5 H3
    go_wp2_with fail
    refine(below_any B c 4 _ H5.out.1 (by omega)).mono ?_
    rintro e w6 ⟨x6,rfl,l6,u6, -,C6,G6⟩
    have y6:=u6 (by omega)
    have H6:Hid (DH w w6 B c w.heap.size w1.heap.size q 4 cap ⟨ks,0, -1,t2⟩):=H5.out.draw C6 G6
    clear u6 C6 G6 H5
    obtain⟨i6,rfl⟩:∃i6:Nat,x6=i6:=⟨x6.toNat,by omega⟩
    have k0:w6.cell? ⟨w1.heap.size,0,none⟩=some (.slice (some ⟨q,0,none⟩) 4 cap):=H6.out.2.2.2.1.cell 0 rfl
    have kq:=H6.out.keyAt i6 (by omega)
    obtain⟨y,hy⟩:∃y,y=ks.getD i6 0:=⟨_,rfl⟩
    dsimp only at kq
    rw[←hy]at kq
    clear hy
    have cf:=fun wx=>sall_any (1+x5) wx
    obtain⟨bf,hbf⟩:∃bf,bf=allI (1+x5):=⟨_,rfl⟩
    simp only[←hbf]at cf
    clear hbf
    have s6:=H6.out.2.2.2.1.lt
    by_cases hy0:y=0
    ·clear cf
     have zq:StB w6 w1.heap.size 28 (hdA (.slice (some ⟨q,0,none⟩) 4 cap) ⟨ks,0, -1,t2⟩):=H6.out.2.2.2.1
     have zz:StB w6 w.heap.size 28 zeroH:=H6.out.2.2.1
     go_wp2_with (first|(refine wpList_getS Tryz.isH rfl _ rfl w1.heap.size rfl (hdA (.slice (some ⟨q,0,none⟩) 4 cap) ⟨ks,0, -1,t2⟩) rfl zq ?_)|(refine wpList_putS Tryz.isH rfl _ _ rfl w.heap.size (hdA (.slice (some ⟨q,0,none⟩) 4 cap) ⟨ks,0, -1,t2⟩) zeroH rfl rfl rfl rfl (hdA_one _ rfl) zz ?_;intro we se ge))
     refine bodyPost_ret (results_S Tryz.isH rfl _ _ w.heap.size _ rfl rfl se) rfl ?_
     exact⟨⟨ks,0, -1,t2⟩,q,cap,rfl,HL.out,by omega,H6.out.fin ge⟩
    ·have hyn:(y !=0)=true:=by simpa using hy0
     go_wp2_with fail
     refine(once_any B c 4 _ H6.out.1 (by omega)).mono ?_
     rintro e w7 ⟨b7,rfl,C7,G7⟩
     have H7:Hid (DH w w7 B c w.heap.size w1.heap.size q 4 cap ⟨ks,0, -1,t2⟩):=H6.out.draw C7 G7
     clear C7 G7 H6 k0 kq
     have s7:=H7.out.2.2.2.1.lt
     cases b7 with
     |true=>
      clear cf
      have zq:StB w7 w1.heap.size 28 (hdA (.slice (some ⟨q,0,none⟩) 4 cap) ⟨ks,0, -1,t2⟩):=H7.out.2.2.2.1
      have zz:StB w7 w.heap.size 28 zeroH:=H7.out.2.2.1
      go_wp2_with (first|(refine wpList_getS Tryz.isH rfl _ rfl w1.heap.size rfl (hdA (.slice (some ⟨q,0,none⟩) 4 cap) ⟨ks,0, -1,t2⟩) rfl zq ?_)|(refine wpList_putS Tryz.isH rfl _ _ rfl w.heap.size (hdA (.slice (some ⟨q,0,none⟩) 4 cap) ⟨ks,0, -1,t2⟩) zeroH rfl rfl rfl rfl (hdA_one _ rfl) zz ?_;intro we se ge))
      refine bodyPost_ret (results_S Tryz.isH rfl _ _ w.heap.size _ rfl rfl se) rfl ?_
      exact⟨⟨ks,0, -1,t2⟩,q,cap,rfl,HL.out,by omega,H7.out.fin ge⟩
     |false=>
      have k7:w7.cell? ⟨w1.heap.size,1,none⟩=some (.int .i64 0):=H7.out.2.2.2.1.cell 1 rfl
      have f7:=H7.out.2.2.2.1.frozen 1
      have J7:Hid (DH w (w7.setCell ⟨w1.heap.size,1,none⟩ (.int .i64 (1+x5))) B c w.heap.size w1.heap.size q 4 cap ⟨ks,1+x5, -1,t2⟩):=H7.out.put 1 (1+x5) ⟨ks,1+x5, -1,t2⟩ rfl rfl
      clear H7
      go_wp2_with fail
      refine(cf _).mono ?_
      rintro e w' ⟨rfl,hw'⟩;subst w'
      clear cf
      obtain⟨w8,hw8⟩:∃w8,w8=(w7.setCell ⟨w1.heap.size,1,none⟩ (.int .i64 (1+x5))):=⟨_,rfl⟩
      rw[←hw8]at J7⊢
      have s8:=J7.out.2.2.2.1.lt
      clear hw8 k7 f7
      cases bf with
      |true=>
       have zq:StB w8 w1.heap.size 28 (hdA (.slice (some ⟨q,0,none⟩) 4 cap) ⟨ks,1+x5, -1,t2⟩):=J7.out.2.2.2.1
       have zz:StB w8 w.heap.size 28 zeroH:=J7.out.2.2.1
       go_wp2_with (first|(refine wpList_getS Tryz.isH rfl _ rfl w1.heap.size rfl (hdA (.slice (some ⟨q,0,none⟩) 4 cap) ⟨ks,1+x5, -1,t2⟩) rfl zq ?_)|(refine wpList_putS Tryz.isH rfl _ _ rfl w.heap.size (hdA (.slice (some ⟨q,0,none⟩) 4 cap) ⟨ks,1+x5, -1,t2⟩) zeroH rfl rfl rfl rfl (hdA_one _ rfl) zz ?_;intro we se ge))
       refine bodyPost_ret (results_S Tryz.isH rfl _ _ w.heap.size _ rfl rfl se) rfl ?_
       exact⟨⟨ks,1+x5, -1,t2⟩,q,cap,rfl,HL.out,by omega,J7.out.fin ge⟩
      |false=>
       have k8:w8.cell? ⟨w1.heap.size,2,none⟩=some (.int .i64 (-1)):=J7.out.2.2.2.1.cell 2 rfl
       have f8:=J7.out.2.2.2.1.frozen 2
       have J8:Hid (DH w (w8.setCell ⟨w1.heap.size,2,none⟩ (.int .i64 (i6:Int))) B c w.heap.size w1.heap.size q 4 cap ⟨ks,1+x5,(i6:Int),t2⟩):=J7.out.put 2 (i6:Int) ⟨ks,1+x5,(i6:Int),t2⟩ rfl rfl
       clear J7
       have zq:StB (w8.setCell ⟨w1.heap.size,2,none⟩ (.int .i64 (i6:Int))) w1.heap.size 28 (hdA (.slice (some ⟨q,0,none⟩) 4 cap) ⟨ks,1+x5,(i6:Int),t2⟩):=J8.out.2.2.2.1
       have zz:StB (w8.setCell ⟨w1.heap.size,2,none⟩ (.int .i64 (i6:Int))) w.heap.size 28 zeroH:=J8.out.2.2.1
       go_wp2_with (first|(refine wpList_getS Tryz.isH rfl _ rfl w1.heap.size rfl (hdA (.slice (some ⟨q,0,none⟩) 4 cap) ⟨ks,1+x5,(i6:Int),t2⟩) rfl zq ?_)|(refine wpList_putS Tryz.isH rfl _ _ rfl w.heap.size (hdA (.slice (some ⟨q,0,none⟩) 4 cap) ⟨ks,1+x5,(i6:Int),t2⟩) zeroH rfl rfl rfl rfl (hdA_one _ rfl) zz ?_;intro we se ge))
       refine bodyPost_ret (results_S Tryz.isH rfl _ _ w.heap.size _ rfl rfl se) rfl ?_
       exact⟨⟨ks,1+x5,(i6:Int),t2⟩,q,cap,rfl,HL.out,by omega,J8.out.fin ge⟩
   |true=>
    have k3:w3.cell? ⟨w1.heap.size,3,none⟩=some (.int .i64 t2):=H3.out.2.2.2.1.cell 3 rfl
    have f3:=H3.out.2.2.2.1.frozen 3
    have J3:Hid (DH w (w3.setCell ⟨w1.heap.size,3,none⟩ (.int .i64 1000000000)) B c w.heap.size w1.heap.size q 4 cap ⟨ks,0, -1,1000000000⟩):=H3.out.put 3 1000000000 ⟨ks,0, -1,1000000000⟩ rfl rfl
    clear H3
    go_wp2_with fail
    refine(below_any B c 6 _ J3.out.1 (by omega)).mono ?_
    rintro e w5 ⟨x5,rfl,l5,u5, -,C5,G5⟩
    have y5:=u5 (by omega)
    have H5:Hid (DH w w5 B c w.heap.size w1.heap.size q 4 cap ⟨ks,0, -1,1000000000⟩):=J3.out.draw C5 G5
    clear u5 C5 G5 J3
    go_wp2_with fail
    refine(below_any B c 4 _ H5.out.1 (by omega)).mono ?_
    rintro e w6 ⟨x6,rfl,l6,u6, -,C6,G6⟩
    have y6:=u6 (by omega)
    have H6:Hid (DH w w6 B c w.heap.size w1.heap.size q 4 cap ⟨ks,0, -1,1000000000⟩):=H5.out.draw C6 G6
    clear u6 C6 G6 H5
    obtain⟨i6,rfl⟩:∃i6:Nat,x6=i6:=⟨x6.toNat,by omega⟩
    have k0:w6.cell? ⟨w1.heap.size,0,none⟩=some (.slice (some ⟨q,0,none⟩) 4 cap):=H6.out.2.2.2.1.cell 0 rfl
    have kq:=H6.out.keyAt i6 (by omega)
    obtain⟨y,hy⟩:∃y,y=ks.getD i6 0:=⟨_,rfl⟩
    dsimp only at kq
    rw[←hy]at kq
    clear hy
    have cf:=fun wx=>sall_any (1+x5) wx
    obtain⟨bf,hbf⟩:∃bf,bf=allI (1+x5):=⟨_,rfl⟩
    simp only[←hbf]at cf
    clear hbf
    have s6:=H6.out.2.2.2.1.lt
    by_cases hy0:y=0
    ·clear cf
     have zq:StB w6 w1.heap.size 28 (hdA (.slice (some ⟨q,0,none⟩) 4 cap) ⟨ks,0, -1,1000000000⟩):=H6.out.2.2.2.1
     have zz:StB w6 w.heap.size 28 zeroH:=H6.out.2.2.1
     go_wp2_with (first|(refine wpList_getS Tryz.isH rfl _ rfl w1.heap.size rfl (hdA (.slice (some ⟨q,0,none⟩) 4 cap) ⟨ks,0, -1,1000000000⟩) rfl zq ?_)|(refine wpList_putS Tryz.isH rfl _ _ rfl w.heap.size (hdA (.slice (some ⟨q,0,none⟩) 4 cap) ⟨ks,0, -1,1000000000⟩) zeroH rfl rfl rfl rfl (hdA_one _ rfl) zz ?_;intro we se ge))
     refine bodyPost_ret (results_S Tryz.isH rfl _ _ w.heap.size _ rfl rfl se) rfl ?_
     exact⟨⟨ks,0, -1,1000000000⟩,q,cap,rfl,HL.out,by omega,H6.out.fin ge⟩
    ·have hyn:(y !=0)=true:=by simpa using hy0
     go_wp2_with fail
     refine(once_any B c 4 _ H6.out.1 (by omega)).mono ?_
     rintro e w7 ⟨b7,rfl,C7,G7⟩
     have H7:Hid (DH w w7 B c w.heap.size w1.heap.size q 4 cap ⟨ks,0, -1,1000000000⟩):=H6.out.draw C7 G7
     clear C7 G7 H6 k0 kq
     have s7:=H7.out.2.2.2.1.lt
     cases b7 with
     |true=>
      clear cf
      have zq:StB w7 w1.heap.size 28 (hdA (.slice (some ⟨q,0,none⟩) 4 cap) ⟨ks,0, -1,1000000000⟩):=H7.out.2.2.2.1
      have zz:StB w7 w.heap.size 28 zeroH:=H7.out.2.2.1
      go_wp2_with (first|(refine wpList_getS Tryz.isH rfl _ rfl w1.heap.size rfl (hdA (.slice (some ⟨q,0,none⟩) 4 cap) ⟨ks,0, -1,1000000000⟩) rfl zq ?_)|(refine wpList_putS Tryz.isH rfl _ _ rfl w.heap.size (hdA (.slice (some ⟨q,0,none⟩) 4 cap) ⟨ks,0, -1,1000000000⟩) zeroH rfl rfl rfl rfl (hdA_one _ rfl) zz ?_;intro we se ge))
      refine bodyPost_ret (results_S Tryz.isH rfl _ _ w.heap.size _ rfl rfl se) rfl ?_
      exact⟨⟨ks,0, -1,1000000000⟩,q,cap,rfl,HL.out,by omega,H7.out.fin ge⟩
     |false=>
      have k7:w7.cell? ⟨w1.heap.size,1,none⟩=some (.int .i64 0):=H7.out.2.2.2.1.cell 1 rfl
      have f7:=H7.out.2.2.2.1.frozen 1
      have J7:Hid (DH w (w7.setCell ⟨w1.heap.size,1,none⟩ (.int .i64 (1+x5))) B c w.heap.size w1.heap.size q 4 cap ⟨ks,1+x5, -1,1000000000⟩):=H7.out.put 1 (1+x5) ⟨ks,1+x5, -1,1000000000⟩ rfl rfl
      clear H7
      go_wp2_with fail
      refine(cf _).mono ?_
      rintro e w' ⟨rfl,hw'⟩;subst w'
      clear cf
      obtain⟨w8,hw8⟩:∃w8,w8=(w7.setCell ⟨w1.heap.size,1,none⟩ (.int .i64 (1+x5))):=⟨_,rfl⟩
      rw[←hw8]at J7⊢
      have s8:=J7.out.2.2.2.1.lt
      clear hw8 k7 f7
      cases bf with
      |true=>
       have zq:StB w8 w1.heap.size 28 (hdA (.slice (some ⟨q,0,none⟩) 4 cap) ⟨ks,1+x5, -1,1000000000⟩):=J7.out.2.2.2.1
       have zz:StB w8 w.heap.size 28 zeroH:=J7.out.2.2.1
       go_wp2_with (first|(refine wpList_getS Tryz.isH rfl _ rfl w1.heap.size rfl (hdA (.slice (some ⟨q,0,none⟩) 4 cap) ⟨ks,1+x5, -1,1000000000⟩) rfl zq ?_)|(refine wpList_putS Tryz.isH rfl _ _ rfl w.heap.size (hdA (.slice (some ⟨q,0,none⟩) 4 cap) ⟨ks,1+x5, -1,1000000000⟩) zeroH rfl rfl rfl rfl (hdA_one _ rfl) zz ?_;intro we se ge))
       refine bodyPost_ret (results_S Tryz.isH rfl _ _ w.heap.size _ rfl rfl se) rfl ?_
       exact⟨⟨ks,1+x5, -1,1000000000⟩,q,cap,rfl,HL.out,by omega,J7.out.fin ge⟩
      |false=>
       have k8:w8.cell? ⟨w1.heap.size,2,none⟩=some (.int .i64 (-1)):=J7.out.2.2.2.1.cell 2 rfl
       have f8:=J7.out.2.2.2.1.frozen 2
       have J8:Hid (DH w (w8.setCell ⟨w1.heap.size,2,none⟩ (.int .i64 (i6:Int))) B c w.heap.size w1.heap.size q 4 cap ⟨ks,1+x5,(i6:Int),1000000000⟩):=J7.out.put 2 (i6:Int) ⟨ks,1+x5,(i6:Int),1000000000⟩ rfl rfl
       clear J7
       have zq:StB (w8.setCell ⟨w1.heap.size,2,none⟩ (.int .i64 (i6:Int))) w1.heap.size 28 (hdA (.slice (some ⟨q,0,none⟩) 4 cap) ⟨ks,1+x5,(i6:Int),1000000000⟩):=J8.out.2.2.2.1
       have zz:StB (w8.setCell ⟨w1.heap.size,2,none⟩ (.int .i64 (i6:Int))) w.heap.size 28 zeroH:=J8.out.2.2.1
       go_wp2_with (first|(refine wpList_getS Tryz.isH rfl _ rfl w1.heap.size rfl (hdA (.slice (some ⟨q,0,none⟩) 4 cap) ⟨ks,1+x5,(i6:Int),1000000000⟩) rfl zq ?_)|(refine wpList_putS Tryz.isH rfl _ _ rfl w.heap.size (hdA (.slice (some ⟨q,0,none⟩) 4 cap) ⟨ks,1+x5,(i6:Int),1000000000⟩) zeroH rfl rfl rfl rfl (hdA_one _ rfl) zz ?_;intro we se ge))
       refine bodyPost_ret (results_S Tryz.isH rfl _ _ w.heap.size _ rfl rfl se) rfl ?_
       exact⟨⟨ks,1+x5,(i6:Int),1000000000⟩,q,cap,rfl,HL.out,by omega,J8.out.fin ge⟩
end Go.Proofs.YtpdggofaobmnlaaGreatDoor
