/- How the laws take a holding over, compare two, mark one and look at the marks; a new holding. -/
import Derived.Test.YtfngkbogcjodaaaGreatDoorM5
import Derived.Test.YtfngkbogcjodaaaGreatDoorM2
import Derived.Deep.DeepCutAuto
import Derived.Test.YtfngkbogcjodaaaGreatDoorM4
import Derived.Below
import Derived.Test.YtfngkbogcjodaaaGreatDoorM1
import Derived.Laws.OwnMore
import Derived.OwnWalk
import Derived.Laws.IdiomStrings
import Derived.Deep.RegionHeld3
import Derived.Test.YtfngkbogcjodaaaGreatDoorM3
set_option maxRecDepth 20000
set_option maxHeartbeats 1000000
namespace Go.Proofs.YtfngkbogcjodaaaGreatDoor
open Go.ChangeShapes Go.WideShapes Go.ChangeAt Go.RowKit
theorem hdA_one {v:Value} (h:Hd) (hv:v.oneCell'=true):(hdA v h).all (·.oneCell')=true:=by
 unfold hdA
 simp[hv,show∀k n,(Value.int k n).oneCell'=true from fun _ _=>rfl]
theorem snewH_any (w:World):
  Calls Tryz.prog 38 #[] w fun e w'=>∃u,e=.returned (HV u Hd.new)∧Own w' w.heap.size u Hd.new.ks∧Below w.heap.size w w':=by
 obtain⟨i0,hi,hz0,hz1,hz2⟩:=info_parts Tryz.infoI
 obtain⟨w1,hw1⟩:∃w1,w1=w.alloc (.cells #[.slice none 0 0,.int .i64 0,.int .i64 0,.int .i64 0] 28):=⟨_,rfl⟩
 have p0:StB w1 w.heap.size 28 #[.slice none 0 0,.int .i64 0,.int .i64 0,.int .i64 0]:=by rw[hw1];exact StB.new w _ _
 have b1:Below w.heap.size w w1:=by rw[hw1];exact(Below.refl _ _).alloc (Nat.le_refl _) _
 have hs1:w.heap.size<w1.heap.size:=p0.lt
 go_enter Tryz.func38,Tryz.ntmps38
 go_upto_region 1 with fail
 rw[←hw1]
 clear hw1
 go_wp2_with (first
  |(refine wpList_make_full _ rfl _ _ 24 rfl w1.heap.size 2 i0 (.int .i64 0) 1 Tryz.underlying24 hi hz0 hz1 _ _ _ _ 4 rfl rfl rfl rfl (by rw[hz2];omega) (by unfold maxLen;omega) (Nat.le_refl _) ?_;intro w2 hown hgr)
  |(refine wpList_putS Tryz.isH rfl _ _ rfl w.heap.size (hdA (.slice (some ⟨w1.heap.size,0,none⟩) 4 4) Hd.new) #[.slice none 0 0,.int .i64 0,.int .i64 0,.int .i64 0] rfl rfl rfl rfl (hdA_one _ rfl) (p0.kept hgr (by simp)) ?_;intro w3 s3 g3))
 refine bodyPost_ret (results_S Tryz.isH rfl _ _ w.heap.size _ rfl rfl s3) rfl ?_
 have e4:(madeCells (Value.int .i64 0).cells (4*1)).toList=([0,0,0,0]:List Int).map (Value.int .i64):=zeros_eq 4
 rw[e4]at hown
 have o2:Own w2 w1.heap.size (.slice (some ⟨w1.heap.size,0,none⟩) 4 4) [0,0,0,0]:=hown
 have b2:Below w.heap.size w w2:=b1.grown hgr b1.size (fun k e=>by cases e)
 exact⟨_,rfl,(o2.keptLt g3 hs1).mono b1.size,b2.grown g3 b2.size (fun k e=>by cases e;exact Nat.le_refl _)⟩
end Go.Proofs.YtfngkbogcjodaaaGreatDoor
set_option maxRecDepth 20000
set_option maxHeartbeats 1000000
namespace Go.Proofs.YtfngkbogcjodaaaGreatDoor
open Go.ChangeShapes Go.WideShapes Go.ChangeAt Go.RowKit
def digit (n:Nat):UInt8:=UInt8.ofNat (48+n%10)
def dec (n:Nat):Bs:=if n<10 then[digit n]else dec (n/10)++[digit n]
def decI (n:Int):Bs:=if n<0 then 45::dec n.natAbs else dec n.natAbs
def decZ (n:Nat):Bs:=if n=0 then[]else dec n
theorem decZ_step (n:Nat) (h:n≠0):decZ n=decZ (n/10)++[digit n]:=by
 unfold decZ
 rw[if_neg h,dec]
 by_cases h10:n<10
 ·rw[if_pos h10,if_pos (by omega)];rfl
 ·rw[if_neg h10,if_neg (by omega)]
theorem dec_zero:dec 0=[digit 0]:=by rw[dec];rfl
theorem parts_neg (k:Int) (h:k<0):k.tmod 10= -((k.natAbs%10:Nat):Int)∧k.tdiv 10= -((k.natAbs/10:Nat):Int):=by
 obtain⟨m,rfl⟩:∃m:Nat,k= -(m:Int):=⟨k.natAbs,by omega⟩
 rw[Int.neg_tmod,Int.neg_tdiv,Int.natAbs_neg,Int.natAbs_natCast]
 constructor<;>rfl
theorem parts_pos (k:Int) (h:0≤k):k.tmod 10=((k.natAbs%10:Nat):Int)∧k.tdiv 10=((k.natAbs/10:Nat):Int):=by
 obtain⟨m,rfl⟩:∃m:Nat,k=(m:Int):=⟨k.natAbs,by omega⟩
 rw[Int.natAbs_natCast]
 constructor<;>rfl
theorem digit_at (d:Nat) (h:d≤9):((digit d).toNat:Int)=48+(d:Int):=by
 have:(digit d).toNat=48+d%10:=by unfold digit;rw[UInt8.toNat_ofNat'];omega
 rw[this];omega
theorem conv1 (w:World) (d:Nat) (h:d≤9):(convert 22 9 (.slice (some ⟨w.heap.size,0,none⟩) 1 1)).run Tryz.prog (w.alloc (.cells #[.int .u8 (48+(d:Int))] 5))=.ok (.string ⟨#[digit d]⟩) (w.alloc (.cells #[.int .u8 (48+(d:Int))] 5)):=by
 have:=run_convert_bytes_back (P:=Tryz.prog) (w.alloc (.cells #[.int .u8 (48+(d:Int))] 5)) 22 9 5 ⟨w.heap.size,0,none⟩ 1 [digit d] Tryz.underlying22 Tryz.underlying5 Tryz.underlying9 (by
  intro j hj
  have e:j=0:=by simpa using hj
  subst e
  have h1:(w.alloc (.cells #[.int .u8 (48+(d:Int))] 5)).heap[w.heap.size]?=some (.cells #[.int .u8 (48+(d:Int))] 5):=heap_alloc_new w _
  have h2:=cell_of_row _ w.heap.size 0 _ _ _ h1
  have h3:((([digit d]:List UInt8)[0]).toNat:Int)=48+(d:Int):=digit_at d h
  rw[h3]
  exact h2)
 exact this
theorem digit_mod (n:Nat):digit (n%10)=digit n:=by unfold digit;rw[Nat.mod_mod]
theorem dec_len (k:Nat):∀n,n<10^(k+1)→(dec n).length≤k+1:=by
 induction k with
 |zero=>intro n h;rw[dec,if_pos (by omega)];simp
 |succ k ih=>
  intro n h
  rw[dec]
  split
  ·simp
  ·have:=ih (n/10) (by rw[Nat.pow_succ]at h;omega)
   simp;omega
theorem _root_.ByteArray.mk_append_mk' (a b:List UInt8):(({data:=a.toArray}:ByteArray)++{data:=b.toArray})={data:=(a++b).toArray}:=ByteArray.mk_append_mk a b
def IntInv (n k:Int) (l:Bs):Prop:=(l=[]∧k=n)∨(l≠[]∧decZ k.natAbs++l=dec n.natAbs)
theorem IntInv.step {n k k':Int} {l:Bs} {d:Nat} (h:IntInv n k l) (hg:l=[]∨k≠0) (hd:d=k.natAbs%10) (hk:k'.natAbs=k.natAbs/10):IntInv n k' (digit d::l):=by
 refine .inr ⟨by simp,?_⟩
 rw[hk,hd,digit_mod]
 rcases h with⟨rfl,rfl⟩|⟨h1,h2⟩
 ·by_cases h0:k.natAbs=0
  ·rw[h0];simp[decZ,dec_zero]
  ·rw[←decZ_step _ h0];simp[decZ,h0]
 ·have hk0:k≠0:=by
   rcases hg with h|h
   ·exact absurd h h1
   ·exact h
  rw[←h2,decZ_step k.natAbs (by omega)]
  simp
theorem IntInv.len {n k:Int} {l:Bs} (h:IntInv n k l) (h0: -9223372036854775808≤n) (h1:n≤9223372036854775807):l.length≤20:=by
 rcases h with⟨rfl,_⟩|⟨_,h2⟩
 ·simp
 ·have:=congrArg List.length h2
  have h3:=dec_len 19 n.natAbs (by omega)
  rw[List.length_append]at this
  omega
theorem IntInv.done {n:Int} {l:Bs} (h:IntInv n 0 l) (hl:l≠[]):l=dec n.natAbs:=by
 rcases h with⟨h,_⟩|⟨_,h2⟩
 ·exact absurd h hl
 ·simpa[decZ]using h2
theorem int_meas (k k':Int) (q d:Nat) (l:Bs) (hk':k'.natAbs=q) (h:(q:Int)<k.natAbs∨(q:Int)=k.natAbs∧l=[]):
  2*(intOf (.int .i64 k')).natAbs+(match Value.string (({data:=#[digit d]}:ByteArray)++{data:=l.toArray})with| .string b=>if b.size=0 then 1 else 0|_=>0)<2*(intOf (.int .i64 k)).natAbs+(match Value.string ⟨l.toArray⟩with| .string b=>if b.size=0 then 1 else 0|_=>0):=by
 rw[ByteArray.mk_append_mk' [digit d] l]
 have e1:(⟨([digit d]++l).toArray⟩:ByteArray).size=l.length+1:=by simp[ByteArray.size]
 have e2:(⟨l.toArray⟩:ByteArray).size=l.length:=rfl
 simp only[intOf,e1,e2,hk']
 rcases h with h|⟨h,rfl⟩
 ·split<;>simp<;>omega
 ·simp;omega
theorem sint_any (n:Int) (w:World) (h0: -9223372036854775808≤n) (h1:n≤9223372036854775807):
  Calls Tryz.prog 112 #[.int .i64 n] w fun e w'=>e=.returned (S (decI n))∧Below w.heap.size w w':=by
 unfold S
 go_enter Tryz.func112,Tryz.ntmps112
 go_wp2
 go_loopw [0,3] (fun m s wr=>∃(k:Int) (l:Bs),m=.int .i64 k∧s=.string ⟨l.toArray⟩∧-9223372036854775808≤k∧k≤9223372036854775807∧Hid (IntInv n k l∧Below w.heap.size w wr)) (fun m s _=>2*(intOf m).natAbs+(match s with| .string b=>if b.size=0 then 1 else 0|_=>0))
 case atStart=>exact⟨n,[],rfl,rfl,h0,h1,.inl ⟨rfl,rfl⟩,Below.refl _ _⟩
 case round=>
  obtain⟨k,l,rfl,rfl,hk0,hk1,HI⟩:=hrel
  have hl20:=HI.out.1.len h0 h1
  have hsz:(⟨l.toArray⟩:ByteArray).size=l.length:=rfl
  by_cases hend:l≠[]∧k=0
  ·obtain⟨hl,rfl⟩:=hend
   have HE:Hid (l=dec n.natAbs):=HI.out.1.done hl
   have hie:l.isEmpty=false:=by simpa using hl
   clear hl
   by_cases hneg:n<0
   ·go_wp2
    go_ret
    refine⟨congrArg (fun x=>Ending.returned (Value.string x)) ?_,HI.out.2⟩
    rw[ByteArray.mk_append_mk' [45] l,decI,if_pos hneg,←HE.out]
    rfl
   ·go_wp2
    go_ret
    refine⟨congrArg (fun x=>Ending.returned (Value.string ⟨List.toArray x⟩)) ?_,HI.out.2⟩
    rw[decI,if_neg (by omega),←HE.out]
  ·have hg:l=[]∨k≠0:=by
    by_cases h:l=[]
    ·exact .inl h
    ·exact .inr (fun e=>hend ⟨h,e⟩)
   clear hend
   obtain⟨d,hd⟩:∃d:Nat,d=k.natAbs%10:=⟨_,rfl⟩
   obtain⟨q,hq⟩:∃q:Nat,q=k.natAbs/10:=⟨_,rfl⟩
   have hd9:(d:Int)≤9:=by omega
   have hq9:(q:Int)≤922337203685477580:=by omega
   have hconv:=conv1 wr d (by omega)
   have HM:Hid ((q:Int)<k.natAbs∨(q:Int)=k.natAbs∧l=[]):=by
    rcases hg with h|h
    ·by_cases h0:k=0
     ·exact .inr ⟨by subst h0;simp at hq;omega,h⟩
     ·exact .inl (by omega)
    ·exact .inl (by omega)
   have HS:Hid (∀k':Int,k'.natAbs=q→IntInv n k' (digit d::l)):=fun k' e=>HI.out.1.step hg hd (by rw[e,hq])
   have HB:Hid (Below w.heap.size w (wr.alloc (.cells #[.int .u8 (48+(d:Int))] 5))):=HI.out.2.alloc HI.out.2.size _
   have hgo:l.isEmpty=true∨(l.isEmpty=false∧(k !=0)=true):=by
    by_cases h:l=[]
    ·exact .inl (by simp[h])
    ·refine .inr ⟨by simpa using h,?_⟩
     rcases hg with h'|h'
     ·exact absurd h' h
     ·simpa using h'
   have key:∀k':Int,k'.natAbs=q→(∃(k:Int) (l_1:Bs),Value.int .i64 k'=Value.int .i64 k∧Value.string (({data:=#[digit d]}:ByteArray)++{data:=l.toArray})=.string ⟨l_1.toArray⟩∧-9223372036854775808≤k∧k≤9223372036854775807∧Hid (IntInv n k l_1∧Below w.heap.size w (wr.alloc (.cells #[.int .u8 (48+(d:Int))] 5)))):=fun k' e=>
    ⟨k',digit d::l,rfl,by rw[ByteArray.mk_append_mk' [digit d] l];rfl,by omega,by omega,HS.out k' e,HB.out⟩
   have hlen:Hid ((⟨l.toArray⟩:ByteArray).size=l.length):=rfl
   have kneg:∀e:(k<0),k.tmod 10= -(d:Int)∧k.tdiv 10= -(q:Int):=fun e=>by rw[hd,hq];exact parts_neg k e
   have kpos:∀e:(0≤k),k.tmod 10=(d:Int)∧k.tdiv 10=(q:Int):=fun e=>by rw[hd,hq];exact parts_pos k e
   clear hd hq hg
   rcases hgo with hie|⟨hie,hkn⟩
   all_goals
    by_cases hneg:k<0
    ·obtain⟨hmod,hdiv⟩:=kneg hneg
     clear kneg kpos
     by_cases hd0:0<(d:Int)
     ·go_wp2
      go_roundw
      case rel=>exact key (-(q:Int)) (by omega)
      case measure=>exact int_meas k _ q _ l (by omega) HM.out
     ·obtain rfl:d=0:=by omega
      have e48:(48:Int)+((0:Nat):Int)=48:=rfl
      rw[e48]at hconv
      simp only[e48]at key
      go_wp2
      go_roundw
      case rel=>exact key (-(q:Int)) (by omega)
      case measure=>exact int_meas k _ q _ l (by omega) HM.out
    ·obtain⟨hmod,hdiv⟩:=kpos (by omega)
     clear kneg kpos
     go_wp2
     go_roundw
     case rel=>exact key (q:Int) (by omega)
     case measure=>exact int_meas k _ q _ l (by omega) HM.out
end Go.Proofs.YtfngkbogcjodaaaGreatDoor
namespace Go.Proofs.YtfngkbogcjodaaaGreatDoor
open Go.ChangeShapes Go.WideShapes Go.ChangeAt Go.RowKit
def framed (l:Bs):Bs:=dec l.length++[32]++dec (chk l).toNat++[32]++l++[10]
def framedS (l:Bs):Bs:=if plainB l then framed l else[]
theorem decI_nat (n:Nat):decI n=dec n:=by simp[decI]
theorem chk_cast (l:Bs):((chk l).toNat:Int)=chk l:=by have:=(chk_bd l).1;omega
theorem app (a b:Bs):(({data:=a.toArray}:ByteArray)++{data:=b.toArray})={data:=(a++b).toArray}:=ByteArray.mk_append_mk a b
theorem bsize (a:Bs):({data:=a.toArray}:ByteArray).size=a.length:=rfl
end Go.Proofs.YtfngkbogcjodaaaGreatDoor
namespace Go.Proofs.YtfngkbogcjodaaaGreatDoor
open Go.ChangeShapes Go.WideShapes Go.ChangeAt Go.RowKit
def U (b:UInt8):Value:=.int .u8 (byteI b)
def OwnU (w:World) (base:Nat) (v:Value) (l:Bs):Prop:=w.ownsRow base 5 1 v l.length (l.map U)
theorem Tryz.infoU:(Tryz.prog.info? 5).map (fun i=>(i.zero,i.size,i.bytes))=some (some (.int .u8 0),1,1):=by kernel_rfl
theorem OwnU.lt {w:World} {base:Nat} {v:Value} {xs:Bs} (h:OwnU w base v xs):∀k,v.ownBlock=some k→base≤k∧k<w.heap.size:=World.ownsRow.lt h
theorem OwnU.frame {w w':World} {base:Nat} {v:Value} {xs:Bs} (h:OwnU w base v xs) (e:∀b∈v.ownBlock.toList,w'.heap[b]?=w.heap[b]?):OwnU w' base v xs:=by
 refine⟨h.1,?_⟩
 rcases h.2 with h'|⟨g,cap,cur,rfl,hb,hg,r⟩
 ·exact .inl h'
 ·exact .inr ⟨g,cap,cur,rfl,hb,(e g (by simp[Value.ownBlock])).trans hg,r⟩
theorem OwnU.raise {w:World} {base base':Nat} {v:Value} {xs:Bs} (h:OwnU w base v xs) (hb:∀k,v.ownBlock=some k→base'≤k):OwnU w base' v xs:=by
 refine⟨h.1,?_⟩
 rcases h.2 with h'|⟨g,cap,cur,rfl,_,r⟩
 ·exact .inl h'
 ·exact .inr ⟨g,cap,cur,rfl,hb g rfl,r⟩
theorem mapU_one (l:Bs) (b:UInt8):l.map U++[U b]=(l++[b]).map U:=by simp
theorem litU1 (w:World) (b:UInt8):∀j u,([U b])[j]?=some u→(w.alloc (.cells #[U b] 5)).cell? ((⟨w.heap.size,0,none⟩:Addr).add j)=some u:=by
 intro j u hj
 match j,hj with
 |0,hj=>simp at hj;subst hj;simp[Addr.add]
theorem OwnU.kept {w w':World} {base:Nat} {v:Value} {row:Option Nat} {xs:Bs} (h:OwnU w base v xs) (hg:w.grownBy w' row) (hne:v.ownBlock=none∨v.ownBlock≠row):OwnU w' base v xs:=
 World.ownsRow.kept h hg hne
theorem OwnU.notAt {w:World} {base c:Nat} {v:Value} {xs:Bs} (h:OwnU w base v xs) (hc:c<base):v.ownBlock=none∨v.ownBlock≠some c:=by
 by_cases e:v.ownBlock=none
 ·exact .inl e
 ·refine .inr fun e2=>?_
  have:=(h.lt c e2).1
  omega
theorem grown_ownU {o a b:World} {c:Nat} {row:Option Nat} (h:o.grownBy a (some c)) (g:a.grownBy b row) (hr:∀k,row=some k→o.heap.size≤k):o.grownBy b (some c):=
 ⟨g.os.trans h.os,g.tape.trans h.tape,g.output.trans h.output,Nat.le_trans h.size g.size,fun k hk hne=>(g.block k (Nat.lt_of_lt_of_le hk h.size) (fun e=>by have:=hr k e.symm;omega)).trans (h.block k hk hne)⟩
theorem run_str (w:World) (base:Nat) (v:Value) (l:Bs) (h:OwnU w base v l) (hv:v≠.slice none 0 0):(convert 22 9 v).run Tryz.prog w=.ok (S l) w:=by
 rcases h.2 with⟨e,_⟩|⟨g,cap,cur,rfl,hb,hg,hnc,hcm,hcs,ht⟩
 ·exact absurd e hv
 ·refine run_convert_bytes_back (P:=Tryz.prog) w 22 9 5 ⟨g,0,none⟩ cap l Tryz.underlying22 Tryz.underlying5 Tryz.underlying9 (fun j hj=>?_)
  have:=World.ownsRow.cellAt (w:=w) h j (by omega)
  rw[show(⟨g,0,none⟩:Addr).add j=⟨g,j,none⟩ by unfold Addr.add;split<;>simp_all,this]
  simp[hj,U,byteI]
def Buf (w:World) (base g n cap:Nat) (l:Bs):Prop:=
 base≤g∧g<w.heap.size∧n=l.length∧n≤cap∧cap≤maxLen∧∀j (h:j<l.length),w.cell? ⟨g,j,none⟩=some (U l[j])∧w.frozen? ⟨g,j,none⟩=false
theorem Buf.kept {w w':World} {base g n cap:Nat} {l:Bs} {row:Option Nat} (h:Buf w base g n cap l) (hg:w.grownBy w' row) (hne:some g≠row):Buf w' base g n cap l:=by
 obtain⟨h1,h2,h3,h4,h5,h6⟩:=h
 have hb:=hg.block g h2 hne
 exact⟨h1,Nat.lt_of_lt_of_le h2 hg.size,h3,h4,h5,fun j hj=>⟨(World.cell?_of_block (a:=⟨g,j,none⟩) hb).trans (h6 j hj).1,(World.frozen?_of_block (a:=⟨g,j,none⟩) hb).trans (h6 j hj).2⟩⟩
theorem Buf.shrink {w:World} {base g n cap:Nat} {l:Bs} (h:Buf w base g n cap l) (k:Nat) (hk:k≤n):Buf w base g k cap (l.take k):=by
 obtain⟨h1,h2,h3,h4,h5,h6⟩:=h
 refine⟨h1,h2,by simp;omega,by omega,h5,fun j hj=>?_⟩
 have hj':j<k∧j<l.length:=by simp at hj;omega
 have:=h6 j hj'.2
 rw[List.getElem_take]
 exact this
theorem Buf.of_own {w:World} {base g n cap:Nat} {l:Bs} (h:OwnU w base (.slice (some ⟨g,0,none⟩) n cap) l):Buf w base g n cap l:=by
 have hlt:=h.lt g rfl
 rcases h.2 with⟨e,_⟩|⟨g',cap',cur,e,hb,hg,hnc,hcm,hcs,ht⟩
 ·cases e
 ·cases e
  refine⟨hlt.1,hlt.2,rfl,hnc,hcm,fun j hj=>⟨?_,World.ownsRow.frozenAt h j⟩⟩
  have:=World.ownsRow.cellAt (w:=w) h j (by omega)
  rw[this]
  simp[hj]
theorem Buf.str {w:World} {base g n cap:Nat} {l:Bs} (h:Buf w base g n cap l):(convert 22 9 (.slice (some ⟨g,0,none⟩) n cap)).run Tryz.prog w=.ok (S l) w:=by
 obtain⟨h1,h2,rfl,h4,h5,h6⟩:=h
 refine run_convert_bytes_back (P:=Tryz.prog) w 22 9 5 ⟨g,0,none⟩ cap l Tryz.underlying22 Tryz.underlying5 Tryz.underlying9 (fun j hj=>?_)
 rw[show(⟨g,0,none⟩:Addr).add j=⟨g,j,none⟩ by unfold Addr.add;split<;>simp_all]
 exact(h6 j hj).1
theorem run_bytes (w:World) (s:Bs) (hs:s.length≤1000000):∃cap w1,(convert 9 22 (.string ⟨s.toArray⟩)).run Tryz.prog w=.ok (.slice (some ⟨w.heap.size,0,none⟩) s.length cap) w1∧Buf w1 w.heap.size w.heap.size s.length cap s∧w.grownBy w1 none:=by
 have hr:=run_bytes_of_string (P:=Tryz.prog) w 9 22 5 ⟨s.toArray⟩ Tryz.underlying9 Tryz.underlying22 Tryz.underlying5
 have hsz:(⟨s.toArray⟩:ByteArray).size=s.length:=rfl
 rw[hsz]at hr
 refine⟨_,_,hr,?_,⟨rfl,rfl,rfl,by simp,fun k hk _=>Below.heap_alloc w.drew _ k hk⟩⟩
 have hge:=grownCap_ge w s.length 0 5
 have hcm:=grownCap_le_maxLen w s.length 0 5 (by unfold maxLen;omega)
 generalize grownCap w s.length 0 5=cap at hge hcm
 have hh:(w.drew.alloc (.cells (bytesRow ⟨s.toArray⟩ cap) 5 ((bytesRow ⟨s.toArray⟩ cap).size,(bytesRow ⟨s.toArray⟩ cap).size+1))).heap[w.heap.size]?=some (.cells (bytesRow ⟨s.toArray⟩ cap) 5 ((bytesRow ⟨s.toArray⟩ cap).size,(bytesRow ⟨s.toArray⟩ cap).size+1)):=heap_alloc_new w.drew _
 have hrs:s.length≤(bytesRow ⟨s.toArray⟩ cap).size:=by simp[bytesRow,ByteArray.size]
 refine⟨Nat.le_refl _,by simp,rfl,hge,hcm,fun j hj=>⟨?_,?_⟩⟩
 ·rw[cell_of_row _ w.heap.size j _ _ _ hh]
  unfold bytesRow
  rw[Array.getElem?_append_left (by simpa using hj)]
  simp[hj,U,byteI]
 ·have h1:¬(bytesRow ⟨s.toArray⟩ cap).size≤j:=by omega
  simp only[World.frozen?,hh]
  simp[h1]
theorem OwnU.alloc {w:World} {base:Nat} {v:Value} {l:Bs} (h:OwnU w base v l) (o:Obj):OwnU (w.alloc o) base v l:=World.ownsRow.alloc h o
end Go.Proofs.YtfngkbogcjodaaaGreatDoor
namespace Go.Proofs.YtfngkbogcjodaaaGreatDoor
open Go.ChangeShapes Go.WideShapes Go.ChangeAt Go.RowKit
def DrawnU (w0 w:World) (B c:Nat) (v:Value) (l:Bs):Prop:=OwnU w w0.heap.size v l∧Cur w B c∧w0.grownBy w (some c)∧c<w0.heap.size
theorem DrawnU.draw {w0 w w':World} {B c:Nat} {v:Value} {l:Bs} (h:DrawnU w0 w B c v l) (C:Cur w' B c) (G:w.grownBy w' (some c)):DrawnU w0 w' B c v l:=
 ⟨h.1.kept G (h.1.notAt h.2.2.2),C,h.2.2.1.trans G,h.2.2.2⟩
theorem DrawnU.append {w0 w w':World} {B c:Nat} {v v':Value} {l:Bs} {b:UInt8} {o:Obj} (h:DrawnU w0 w B c v l) (hB:B≤w0.heap.size)
  (hown:w'.ownsRow w0.heap.size 5 1 v' (l.length+1) (l.map U++[U b])) (hg:(w.alloc o).grownBy w' v.ownBlock):DrawnU w0 w' B c v' (l++[b]):=by
 obtain⟨h1,h2,h3,h4⟩:=h
 have ga:w.grownBy (w.alloc o) (some c):=World.grownBy_alloc w o _
 have hrow:∀k,v.ownBlock=some k→w0.heap.size≤k:=fun k e=>(h1.lt k e).1
 refine⟨?_,?_,grown_ownU (h3.trans ga) hg hrow,h4⟩
 ·unfold OwnU
  rw[←mapU_one]
  simpa using hown
 ·exact(h2.kept (World.grownBy_alloc w o none) (by simp) (by simp)).kept hg (by rcases h1.notAt h4 with e|e;rw[e];simp;exact e) (fun k e=>by have:=hrow k e;omega)
theorem DrawnU.new {w0 w w':World} {B c:Nat} {v v':Value} {l l':Bs} (h:DrawnU w0 w B c v l) (hown:OwnU w' w.heap.size v' l') (G:w.grownBy w' none):DrawnU w0 w' B c v' l':=
 ⟨OwnU.raise hown (fun k hk=>Nat.le_trans h.2.2.1.size (hown.lt k hk).1),h.2.1.kept G (by simp) (by simp),grown_ownU h.2.2.1 G (by simp),h.2.2.2⟩
theorem zerosU_eq (n:Nat):(madeCells #[Value.int .u8 0] n).toList=(List.replicate n (0:UInt8)).map U:=by
 rw[toList_madeCells_one,List.map_replicate];rfl
end Go.Proofs.YtfngkbogcjodaaaGreatDoor
