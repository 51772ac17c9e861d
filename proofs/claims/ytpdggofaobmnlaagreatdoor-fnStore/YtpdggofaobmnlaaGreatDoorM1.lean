import Derived.WalkKit
import Derived.Test.YtpdggofaobmnlaaGreatDoorRows
import Derived.ProofKit
import Derived.OpenShut
import Derived.Laws.OwnMore
import Derived.Deep.AppendLies
import Derived.Deep.QuietTactic
import Derived.BigQuiet
import Derived.WalkSmall
import Derived.Laws.Tables
import Derived.Laws.ResultCell
/- Sets of blocks as plain numbers: what is in one, what it is with one more or one less, its least, and that Go's bit operations on them are just that. -/
set_option maxRecDepth 20000
set_option maxHeartbeats 400000
namespace Go.Proofs.YtpdggofaobmnlaaGreatDoor
open Go.RowKit
theorem ret_int {k:IntKind} {a b:Int} (h:a=b):Ending.returned (.int k a)=.returned (.int k b):=by rw[h]
theorem ret_bool {a b:Bool} (h:a=b):Ending.returned (.bool a)=.returned (.bool b):=by rw[h]
def setOk (s:Int):Bool:=decide (0≤s)&&decide (s<256)
def itemOk (i:Int):Bool:=decide (0≤i)&&decide (i<8)
def inN (s i:Nat):Bool:=s/2^i%2==1
def inB (s i:Int):Bool:=setOk s&&itemOk i&&inN s.toNat i.toNat
def withI (s i:Int):Int:=if setOk s then(if itemOk i then((s.toNat|||2^i.toNat:Nat):Int)else s)else-1
def withoutI (s i:Int):Int:=if setOk s then(if itemOk i then(if inN s.toNat i.toNat then s-2^i.toNat else s)else s)else-1
def fullI (n:Int):Int:=if 0≤n∧n≤8 then 2^n.toNat-1 else-1
theorem setOk_pos {s:Int} (h0:0≤s) (h1:s<256):setOk s=true:=by simp[setOk,h0,h1]
theorem setOk_neg {s:Int} (h:s<0∨256≤s):setOk s=false:=by
 simp[setOk];omega
theorem itemOk_pos {s:Int} (h0:0≤s) (h1:s<8):itemOk s=true:=by simp[itemOk,h0,h1]
theorem itemOk_neg {s:Int} (h:s<0∨8≤s):itemOk s=false:=by
 simp[itemOk];omega
theorem inB_pos {s i:Int} (h0:0≤s) (h1:s<256) (h2:0≤i) (h3:i<8):inB s i=inN s.toNat i.toNat:=by
 simp[inB,setOk_pos h0 h1,itemOk_pos h2 h3]
theorem inB_noset {s i:Int} (h:s<0∨256≤s):inB s i=false:=by simp[inB,setOk_neg h]
theorem inB_noitem {s i:Int} (h:i<0∨8≤i):inB s i=false:=by simp[inB,itemOk_neg h]
theorem wrap_pow (k:Nat) (h:k<9):wrap64 (2^k)=2^k:=by
 have:∀k:Nat,k<9→wrap64 (2^k)=2^k:=by decide+kernel
 exact this k h
theorem and_all:∀n:Nat,n<256→∀k:Nat,k<8→(bits BinOp.and IntKind.i64 (n:Int) (wrap64 (2^k)) !=0)=inN n k:=by decide+kernel
theorem shr_all:∀n:Nat,n<256→∀k:Nat,k<8→(((n:Int)/2^k).tmod 2==1)=inN n k:=by decide+kernel
theorem or_all:∀n:Nat,n<256→∀k:Nat,k<8→bits BinOp.or IntKind.i64 (n:Int) (wrap64 (2^k))=((n|||2^k:Nat):Int):=by decide+kernel
theorem andNot_all:∀n:Nat,n<256→∀k:Nat,k<8→bits BinOp.andNot IntKind.i64 (n:Int) (wrap64 (2^k))=if inN n k then(n:Int)-2^k else(n:Int):=by decide+kernel
theorem nat_of {s:Int} (h0:0≤s):∃n:Nat,s=n:=⟨s.toNat,by omega⟩
theorem and_in {s i:Int} (h0:0≤s) (h1:s<256) (h2:0≤i) (h3:i<8):(bits BinOp.and IntKind.i64 s (wrap64 (2^i.toNat)) !=0)=inB s i:=by
 rw[inB_pos h0 h1 h2 h3]
 obtain⟨n,rfl⟩:=nat_of h0
 exact and_all n (by omega) i.toNat (by omega)
theorem shr_in {s i:Int} (h0:0≤s) (h1:s<256) (h2:0≤i) (h3:i<8):((s/2^i.toNat).tmod 2==1)=inB s i:=by
 rw[inB_pos h0 h1 h2 h3]
 obtain⟨n,rfl⟩:=nat_of h0
 exact shr_all n (by omega) i.toNat (by omega)
theorem or_in {s i:Int} (h0:0≤s) (h1:s<256) (h2:0≤i) (h3:i<8):bits BinOp.or IntKind.i64 s (wrap64 (2^i.toNat))=withI s i:=by
 simp only[withI,setOk_pos h0 h1,itemOk_pos h2 h3,if_true]
 obtain⟨n,rfl⟩:=nat_of h0
 exact or_all n (by omega) i.toNat (by omega)
theorem andNot_in {s i:Int} (h0:0≤s) (h1:s<256) (h2:0≤i) (h3:i<8):bits BinOp.andNot IntKind.i64 s (wrap64 (2^i.toNat))=withoutI s i:=by
 simp only[withoutI,setOk_pos h0 h1,itemOk_pos h2 h3,if_true]
 obtain⟨n,rfl⟩:=nat_of h0
 exact andNot_all n (by omega) i.toNat (by omega)
theorem withI_noset {s i:Int} (h:s<0∨256≤s):withI s i= -1:=by simp[withI,setOk_neg h]
theorem withI_noitem {s i:Int} (h0:0≤s) (h1:s<256) (h:i<0∨8≤i):withI s i=s:=by simp[withI,setOk_pos h0 h1,itemOk_neg h]
theorem withoutI_noset {s i:Int} (h:s<0∨256≤s):withoutI s i= -1:=by simp[withoutI,setOk_neg h]
theorem withoutI_noitem {s i:Int} (h0:0≤s) (h1:s<256) (h:i<0∨8≤i):withoutI s i=s:=by simp[withoutI,setOk_pos h0 h1,itemOk_neg h]
end Go.Proofs.YtpdggofaobmnlaaGreatDoor
namespace Go.Proofs.YtpdggofaobmnlaaGreatDoor
open Go.ChangeShapes Go.WideShapes Go.ChangeAt Go.RowKit
def Reads (w:World) (v:Value) (xs:List Int):Prop:=
 ∃ao cap,v=.slice ao xs.length cap∧xs.length≤cap∧(cap≤maxLen∧(ao=none→cap=0))∧
  (xs=[]∨∃b off,ao=some ⟨b,off,none⟩∧∀j,j<xs.length→w.cell? ⟨b,off+j,none⟩=some (.int .i64 (xs.getD j 0)))
def Own (w:World) (base:Nat) (v:Value) (xs:List Int):Prop:=
 w.ownsRow base 2 1 v xs.length (xs.map (Value.int .i64))
theorem Own.nil (w:World) (base:Nat):Own w base (.slice none 0 0) []:=World.ownsRow_nil w base _ _
theorem Own.reads {w:World} {base:Nat} {v:Value} {xs:List Int} (h:Own w base v xs):Reads w v xs:=by
 rcases h.2 with⟨rfl,h0⟩|⟨g,cap,cur,rfl,hb,hg,hnc,hcm,hcs,ht⟩
 ·have e:xs=[]:=List.eq_nil_of_length_eq_zero h0
  subst e
  exact⟨none,0,rfl,Nat.le_refl _,⟨Nat.zero_le _,fun _=>rfl⟩,.inl rfl⟩
 ·refine⟨_,cap,rfl,hnc,⟨hcm,fun e=>by cases e⟩,.inr ⟨g,0,rfl,fun j hj=>?_⟩⟩
  have:=World.ownsRow.cellAt (w:=w) h j (by omega)
  rw[Nat.zero_add,this]
  simp[List.getD,hj]
theorem Own.le {w:World} {base:Nat} {v:Value} {xs:List Int} (h:Own w base v xs):xs.length≤maxLen:=by
 obtain⟨_,cap,_,h1,h2,_⟩:=h.reads
 omega
theorem Own.mono {w:World} {base base':Nat} {v:Value} {xs:List Int} (h:Own w base v xs) (hb:base'≤base):Own w base' v xs:=by
 refine⟨h.1,?_⟩
 rcases h.2 with h'|⟨g,cap,cur,e,hg,r⟩
 ·exact .inl h'
 ·exact .inr ⟨g,cap,cur,e,Nat.le_trans hb hg,r⟩
theorem Own.lt {w:World} {base:Nat} {v:Value} {xs:List Int} (h:Own w base v xs):∀k,v.ownBlock=some k→base≤k∧k<w.heap.size:=World.ownsRow.lt h
theorem Own.below {w w':World} {base:Nat} {v:Value} {xs:List Int} (h:Own w base v xs) (hb:Below w.heap.size w w'):Own w' base v xs:=by
 refine⟨h.1,?_⟩
 rcases h.2 with h'|⟨g,cap,cur,e,hg,hh,r⟩
 ·exact .inl h'
 ·have hlt:g<w.heap.size:=by
   rcases Nat.lt_or_ge g w.heap.size with hlt|hge
   ·exact hlt
   ·rw[Array.getElem?_eq_none hge]at hh;cases hh
  exact .inr ⟨g,cap,cur,e,hg,(hb.block g hlt).trans hh,r⟩
theorem Own.drewN {w:World} {base:Nat} {v:Value} {xs:List Int} (h:Own w base v xs) (n:Nat):Own (w.drewN n) base v xs:=h
theorem Own.drew_eq {w w':World} {base:Nat} {v:Value} {xs:List Int} {n:Nat} (h:Own w base v xs) (e:w'=w.drewN n):Own w' base v xs:=by subst e;exact h
theorem below_drew_eq {B:Nat} {a w w':World} {n:Nat} (h:Below B a w) (e:w'=w.drewN n):Below B a w':=by subst e;exact below_drewN h n
theorem Own.apart {w1 w2:World} {b1 b2:Nat} {v0 v1:Value} {xs ys:List Int} (h:Own w1 b1 v0 xs) (k:Own w2 b2 v1 ys) (hb:w1.heap.size≤b2):v0.ownBlock=none∨v0.ownBlock≠v1.ownBlock:=by
 by_cases e:v0.ownBlock=none
 ·exact .inl e
 ·refine .inr fun e2=>?_
  obtain⟨g,hg⟩:=Option.ne_none_iff_exists'.1 e
  have a:=h.lt g hg
  have b:=k.lt g (e2▸hg)
  omega
theorem Own.apart' {w1 w2:World} {b1 b2:Nat} {v0 v1:Value} {xs ys:List Int} (h:Own w1 b1 v0 xs) (k:Own w2 b2 v1 ys) (hb:w1.heap.size≤b2):v1.ownBlock=none∨v1.ownBlock≠v0.ownBlock:=by
 by_cases e:v1.ownBlock=none
 ·exact .inl e
 ·refine .inr fun e2=>?_
  obtain⟨g,hg⟩:=Option.ne_none_iff_exists'.1 e
  have a:=k.lt g hg
  have b:=h.lt g (e2▸hg)
  omega
theorem Own.kept {w w':World} {base:Nat} {v:Value} {row:Option Nat} {xs:List Int} (h:Own w base v xs) (hg:w.grownBy w' row) (hne:v.ownBlock=none∨v.ownBlock≠row):Own w' base v xs:=
 World.ownsRow.kept h hg hne
theorem Reads.below {w w':World} {B:Nat} {v:Value} {xs:List Int} (h:Reads w v xs) (hb:Below B w w') (hB:w.heap.size≤B):Reads w' v xs:=by
 obtain⟨ao,cap,rfl,h1,h2,h3⟩:=h
 refine⟨ao,cap,rfl,h1,h2,?_⟩
 rcases h3 with h3|⟨b,off,rfl,h4⟩
 ·exact .inl h3
 ·refine .inr ⟨b,off,rfl,fun j hj=>?_⟩
  have h5:=h4 j hj
  have h6:=World.block_lt_of_cell? w _ h5
  rw[hb.cell (p:=⟨b,off+j,none⟩) (Nat.lt_of_lt_of_le h6 hB)]
  exact h5
def marks (k:Int) (n:Nat):List Int:=(List.range n).map fun j=>k+(j:Nat)
theorem marks_length (k:Int) (n:Nat):(marks k n).length=n:=by simp[marks]
theorem marks_getD (k:Int) (n j:Nat) (h:j<n):(marks k n).getD j 0=k+j:=by
 simp[marks,List.getD,h]
theorem marks_step (k:Int) (xs:List Int) (j:Nat) (h:j<xs.length):((marks k j++xs.drop j).set j (k+j))=marks k (j+1)++xs.drop (j+1):=by
 rw[List.set_append_right _ _ (by simp[marks_length]),marks_length,Nat.sub_self]
 rw[List.drop_eq_getElem_cons h,List.set_cons_zero]
 simp[marks,List.range_succ]
theorem marks_all (k:Int) (xs:List Int):marks k xs.length++xs.drop xs.length=marks k xs.length:=by simp
theorem held_any (v:Value) (xs:List Int) (k:Int) (w:World) (h:Reads w v xs) (hx:xs=marks k xs.length) (hbig:xs.length≤1099511627776) (h0:0≤k) (h1:k≤1099511627776):
  Calls Tryz.prog 102 #[v,.int .i64 k] w fun e w'=>e=.returned (.int .i64 (k+xs.length))∧w'=w:=by
 obtain⟨ao,cap,rfl,hl,⟨hm, -⟩,hc⟩:=h
 obtain⟨n,hn⟩:∃n,n=xs.length:=⟨_,rfl⟩
 rw[←hn]at hl hx hc hbig⊢
 unfold maxLen at hm
 have HN:Hid (n=xs.length):=hn
 clear hn
 have hcell:∀j,j<n→∃b off,ao=some ⟨b,off,none⟩∧w.cell? ⟨b,off+j,none⟩=some (.int .i64 (k+j)):=by
  intro j hj
  rcases hc with e|⟨b,off,e,h4⟩
  ·rw[e]at HN;simp[Hid]at HN;omega
  ·refine⟨b,off,e,?_⟩
   rw[h4 j hj]
   rw[hx,marks_getD k n j hj]
 clear hc hx
 go_enter Tryz.func102,Tryz.ntmps102
 go_wp2
 go_loop [1,5] (fun q i=>∃j:Nat,j≤n∧i=.int .i64 j∧q=.int .i64 (k+j)) (fun _ i=>n-(intOf i).toNat)
 case atStart=>exact⟨0,Nat.zero_le _,rfl,by simp⟩
 case round=>
  obtain⟨j,hj,rfl,rfl⟩:=hrel
  by_cases hlt:(j:Int)<(n:Int)
  ·obtain⟨b,off,rfl,hc1⟩:=hcell j (by omega)
   clear hcell
   go_wp2
   go_round
   case rel=>exact⟨j+1,by omega,by go_num,by go_num⟩
   case measure=>simp[intOf];omega
  ·go_wp2
   go_ret
   exact⟨ret_int (by omega),rfl⟩
theorem held_marks (v:Value) (n:Nat) (k:Int) (w:World) (h:Reads w v (marks k n)) (hbig:n≤1099511627776) (h0:0≤k) (h1:k≤1099511627776):
  Calls Tryz.prog 102 #[v,.int .i64 k] w fun e w'=>e=.returned (.int .i64 (k+n))∧w'=w:=by
 have:=held_any v (marks k n) k w h (by rw[marks_length]) (by rw[marks_length];exact hbig) h0 h1
 rwa[marks_length]at this
theorem take_snoc (xs:List Int) (j:Nat) (h:j<xs.length):xs.take (j+1)=xs.take j++[xs.getD j 0]:=by
 rw[List.take_succ_eq_append_getElem h];simp[List.getD,h]
theorem take_step {xs ys:List Int} {j:Nat} (h:xs.take j=ys.take j) (hx:j<xs.length) (hy:j<ys.length) (e:xs.getD j 0=ys.getD j 0):xs.take (j+1)=ys.take (j+1):=by
 rw[take_snoc xs j hx,take_snoc ys j hy,h,e]
theorem ne_of_getD {xs ys:List Int} {j:Nat} (e:xs.getD j 0≠ys.getD j 0):xs≠ys:=fun h=>e (by rw[h])
theorem eq_any (va vb:Value) (xs ys:List Int) (w:World) (ha:Reads w va xs) (hb:Reads w vb ys) (hbig:xs.length≤1099511627776):
  Calls Tryz.prog 100 #[va,vb] w fun e w'=>e=.returned (.bool (decide (xs=ys)))∧∃n,w'=w.drewN n:=by
 obtain⟨ao,ca,rfl,hla,⟨hma, -⟩,hca⟩:=ha
 obtain⟨bo,cb,rfl,hlb,⟨hmb, -⟩,hcb⟩:=hb
 by_cases hlen:xs.length=ys.length
 ·obtain⟨n,hn⟩:∃n,n=xs.length:=⟨_,rfl⟩
  rw[←hlen]at hlb hcb⊢
  rw[←hn]at hla hlb hca hcb hbig⊢
  have HN:Hid (n=xs.length∧n=ys.length):=⟨hn,hn.trans hlen⟩
  clear hn hlen hma hmb
  have hcell:∀j,j<n→∃b off b' off',ao=some ⟨b,off,none⟩∧bo=some ⟨b',off',none⟩∧w.cell? ⟨b,off+j,none⟩=some (.int .i64 (xs.getD j 0))∧w.cell? ⟨b',off'+j,none⟩=some (.int .i64 (ys.getD j 0)):=by
   intro j hj
   rcases hca with e|⟨b,off,e,h4⟩
   ·have:=HN.out.1;rw[e]at this;simp at this;omega
   ·rcases hcb with e'|⟨b',off',e',h4'⟩
    ·have:=HN.out.2;rw[e']at this;simp at this;omega
    ·exact⟨b,off,b',off',e,e',h4 j hj,h4' j hj⟩
  clear hca hcb
  go_enter Tryz.func100,Tryz.ntmps100
  go_wp2
  go_loopw [5] (fun i wr=>∃j q:Nat,j≤n∧i=.int .i64 j∧Hid (xs.take j=ys.take j)∧wr=w.drewN q) (fun i _=>n-(intOf i).toNat)
  case atStart=>exact⟨0,0,Nat.zero_le _,rfl,by simp[Hid],rfl⟩
  case round=>
   obtain⟨j,q,hj,rfl,ht,rfl⟩:=hrel
   by_cases hlt:(j:Int)<(n:Int)
   ·obtain⟨b,off,b',off',rfl,rfl,hc1,hc2⟩:=hcell j (by omega)
    clear hcell
    obtain⟨x,hx⟩:∃x,x=xs.getD j 0:=⟨_,rfl⟩
    obtain⟨y,hy⟩:∃y,y=ys.getD j 0:=⟨_,rfl⟩
    rw[←hx]at hc1
    rw[←hy]at hc2
    have HX:Hid (x=xs.getD j 0∧y=ys.getD j 0):=⟨hx,hy⟩
    clear hx hy
    by_cases hxy:(x !=y)=true
    ·go_wp2
     go_quiet (fail)
     go_wp2
     go_ret
     exact⟨ret_bool (by
      have h1:x≠y:=by simpa using hxy
      have h2:xs≠ys:=ne_of_getD (j:=j) (by rw[←HX.out.1,←HX.out.2];exact h1)
      simp[h2]),⟨_,World.drewN_drewN ..⟩⟩
    ·go_wp2
     go_quiet (fail)
     go_wp2
     go_roundw
     case rel=>
      have h1:x=y:=by simpa using hxy
      exact⟨j+1,_,by omega,by go_num,take_step ht (by have:=HN.out.1;omega) (by have:=HN.out.2;omega) (by rw[←HX.out.1,←HX.out.2];exact h1),rfl⟩
     case measure=>simp[intOf];omega
   ·go_wp2
    go_ret
    exact⟨ret_bool (by
     have h1:xs=ys:=by
      have h2:=ht.out
      rw[List.take_of_length_le (by have:=HN.out.1;omega),List.take_of_length_le (by have:=HN.out.2;omega)]at h2
      exact h2
     simp[h1]),⟨_,rfl⟩⟩
 ·have hne:((xs.length:Int) !=(ys.length:Int))=true:=by simp;omega
  have he:decide (xs=ys)=false:=by
   have:xs≠ys:=fun h=>hlen (by rw[h])
   simp[this]
  rw[he]
  clear he hlen hca hcb
  go_enter Tryz.func100,Tryz.ntmps100
  go_wp2
  go_ret
  exact⟨rfl,0,rfl⟩
theorem mark_any (v:Value) (xs:List Int) (k:Int) (w:World) (base:Nat) (h:Own w base v xs) (hbig:xs.length≤1099511627776) (h0:0≤k) (h1:k≤1099511627776):
  Calls Tryz.prog 101 #[v,.int .i64 k] w fun e w'=>e=.returned (.int .i64 (k+xs.length))∧Own w' base v (marks k xs.length)∧w.grownBy w' v.ownBlock:=by
 by_cases hz:0<xs.length
 ·obtain⟨g,cap,rfl,hbg,hgl⟩:=World.ownsRow.form h hz
  have HO:Hid (Own w base (.slice (some ⟨g,0,none⟩) xs.length cap) xs):=h
  clear h
  obtain⟨n,hn⟩:∃n,n=xs.length:=⟨_,rfl⟩
  rw[←hn]at hz hbig HO⊢
  have HN:Hid (n=xs.length):=hn
  clear hn
  go_enter Tryz.func101,Tryz.ntmps101
  go_wp2
  go_loopw [1,5] (fun q i wr=>∃j:Nat,j≤n∧i=.int .i64 j∧q=.int .i64 (k+j)∧Hid (Own wr base (.slice (some ⟨g,0,none⟩) n cap) (marks k j++xs.drop j)∧w.grownBy wr (some g))) (fun _ i _=>n-(intOf i).toNat)
  case atStart=>exact⟨0,Nat.zero_le _,rfl,by simp,by simpa[marks]using HO.out,World.grownBy.refl _ _⟩
  case round=>
   obtain⟨j,hj,rfl,rfl,HR⟩:=hrel
   have hn':=HN.out
   have hlen:(marks k j++xs.drop j).length=n:=by simp[marks_length];omega
   by_cases hlt:(j:Int)<(n:Int)
   ·have hown:wr.ownsRow base 2 1 (.slice (some ⟨g,0,none⟩) n cap) n ((marks k j++xs.drop j).map (Value.int .i64)):=by
     have:=HR.out.1
     unfold Own at this
     rwa[hlen]at this
    have hfr:=World.ownsRow.frozenAt hown j
    obtain⟨x,hc⟩:∃x,wr.cell? ⟨g,j,none⟩=some x:=by
     have:=World.ownsRow.cellAt hown j (by omega)
     rw[this]
     exact⟨_,List.getElem?_eq_getElem (by simp[marks_length];omega)⟩
    have hst:=World.ownsRow.stored hown j (.int .i64 (k+j))
    have HS:Hid (Own (wr.setCell ⟨g,j,none⟩ (.int .i64 (k+j))) base (.slice (some ⟨g,0,none⟩) n cap) (marks k (j+1)++xs.drop (j+1))∧w.grownBy (wr.setCell ⟨g,j,none⟩ (.int .i64 (k+j))) (some g)):=by
     refine⟨?_,HR.out.2.trans hst.2⟩
     have:=hst.1
     rw[←List.map_set,marks_step k xs j (by omega)]at this
     unfold Own
     rwa[show(marks k (j+1)++xs.drop (j+1)).length=n by simp[marks_length];omega]
    clear hst hown HR hlen hn'
    go_wp2
    go_roundw
    case rel=>exact⟨j+1,by omega,by go_num,by go_num,HS⟩
    case measure=>simp[intOf];omega
   ·clear hn' hlen
    go_wp2
    go_ret
    have hjn:j=n:=by omega
    have hn':=HN.out
    have this:=HR.out
    rw[hjn,hn',marks_all,←hn']at this
    exact⟨ret_int (by omega),this.1,this.2⟩
 ·have hx:xs=[]:=List.eq_nil_of_length_eq_zero (by omega)
  subst hx
  obtain⟨ao,cap,rfl,_,_,_⟩:=h.reads
  have HO:Hid (Own w base (.slice ao 0 cap) []):=h
  clear h
  simp only[List.length_nil]at hz hbig⊢
  go_enter Tryz.func101,Tryz.ntmps101
  go_wp2
  go_loop [1,5] (fun q i=>i=.int .i64 0∧q=.int .i64 k) (fun _ _=>0)
  case atStart=>exact⟨rfl,rfl⟩
  case round=>
   obtain⟨rfl,rfl⟩:=hrel
   go_wp2
   go_ret
   exact⟨ret_int (by simp),by simpa[marks]using HO.out,World.grownBy.refl _ _⟩
theorem Tryz.infoI:(Tryz.prog.info? 2).map (fun i=>(i.zero,i.size,i.bytes))=some (some (.int .i64 0),1,8):=by kernel_rfl
end Go.Proofs.YtpdggofaobmnlaaGreatDoor
namespace Go.Proofs.YtpdggofaobmnlaaGreatDoor
open Go.ChangeShapes Go.WideShapes Go.ChangeAt Go.RowKit
structure Item where
 blocks:List Nat
 old:Nat
 holds:World→Prop
 frame:∀w w':World,(∀b∈blocks,w'.heap[b]?=w.heap[b]?)→Below old w w'→holds w→holds w'
structure Turned (w w':World) (bs:List Nat):Prop where
 os:w'.os=w.os
 tape:w'.tape=w.tape
 output:w'.output=w.output
 size:w.heap.size≤w'.heap.size
 block:∀k,k<w.heap.size→k∉bs→w'.heap[k]?=w.heap[k]?
theorem Turned.of_grown {w w':World} {row:Option Nat} (h:w.grownBy w' row):Turned w w' row.toList:=
 ⟨h.os,h.tape,h.output,h.size,fun k hk hn=>h.block k hk (fun e=>hn (by rw[←e];simp))⟩
theorem Turned.trans {w w' w'':World} {bs cs:List Nat} (h:Turned w w' bs) (h':Turned w' w'' cs):Turned w w'' (bs++cs):=
 ⟨h'.os.trans h.os,h'.tape.trans h.tape,h'.output.trans h.output,Nat.le_trans h.size h'.size,fun k hk hn=>by
  simp at hn
  exact(h'.block k (Nat.lt_of_lt_of_le hk h.size) hn.2).trans (h.block k hk hn.1)⟩
theorem Turned.of_below {w w':World} (h:Below w.heap.size w w'):Turned w w' []:=
 ⟨h.os,h.tape,h.output,h.size,fun k hk _=>h.block k hk⟩
def Apart:List Item→Prop
 |[]=>True
 |i::l=>(∀j∈l,∀b∈i.blocks,b∉j.blocks)∧Apart l
structure Sta (w wx:World) (L:List Item):Prop where
 below:Below w.heap.size w wx
 olds:∀i∈L,i.old≤w.heap.size
 holds:∀i∈L,i.holds wx
 bound:∀i∈L,∀b∈i.blocks,w.heap.size≤b∧b<wx.heap.size
 apart:Apart L
theorem Sta.start (w:World):Sta w w []:=⟨Below.refl _ _,by simp,by simp,by simp,trivial⟩
theorem Sta.next {w wx wy:World} {L:List Item} (h:Sta w wx L) (b:Below wx.heap.size wx wy):Sta w wy L:=
 ⟨h.below.trans (b.mono h.below.size),h.olds,fun i hi=>i.frame wx wy (fun k hk=>b.block k (h.bound i hi k hk).2) (b.mono (Nat.le_trans (h.olds i hi) h.below.size)) (h.holds i hi),fun i hi k hk=>⟨(h.bound i hi k hk).1,Nat.lt_of_lt_of_le (h.bound i hi k hk).2 b.size⟩,h.apart⟩
theorem Sta.drew {w wx wy:World} {L:List Item} {n:Nat} (h:Sta w wx L) (e:wy=wx.drewN n):Sta w wy L:=by
 subst e
 exact⟨below_drewN h.below n,h.olds,fun i hi=>i.frame wx _ (fun _ _=>rfl) (below_drewN (Below.refl _ _) n) (h.holds i hi),h.bound,h.apart⟩
theorem Sta.drew1 {w wx:World} {L:List Item} (h:Sta w wx L):Sta w wx.drew L:=h.drew (n:=1) rfl
theorem Sta.add {w wx wy:World} {L:List Item} (h:Sta w wx L) (b:Below wx.heap.size wx wy) (i:Item) (hi:i.holds wy) (hb:∀k∈i.blocks,wx.heap.size≤k∧k<wy.heap.size) (ho:i.old≤w.heap.size:=by exact Nat.zero_le _):Sta w wy (i::L):=by
 have h':=h.next b
 refine⟨h'.below,?_,?_,?_,?_,h'.apart⟩
 ·intro j hj
  rcases List.mem_cons.1 hj with rfl|hj
  ·exact ho
  ·exact h'.olds j hj
 ·intro j hj
  rcases List.mem_cons.1 hj with rfl|hj
  ·exact hi
  ·exact h'.holds j hj
 ·intro j hj k hk
  rcases List.mem_cons.1 hj with rfl|hj
  ·exact⟨Nat.le_trans h.below.size (hb k hk).1,(hb k hk).2⟩
  ·exact h'.bound j hj k hk
 ·intro j hj k hk hk'
  have:=(hb k hk).1
  have:=(h.bound j hj k hk').2
  omega
theorem Sta.get {w wx:World} {L:List Item} (h:Sta w wx L) (n:Nat) {i:Item} (e:L[n]?=some i):i.holds wx:=h.holds i (List.mem_of_getElem? e)
theorem Sta.lt {w wx:World} {L:List Item} (h:Sta w wx L) (n:Nat) {i:Item} (e:L[n]?=some i):∀b∈i.blocks,w.heap.size≤b∧b<wx.heap.size:=h.bound i (List.mem_of_getElem? e)
theorem Apart.set {L:List Item} {n:Nat} {i j:Item} (h:Apart L) (e:L[n]?=some i) (hb:j.blocks=i.blocks):Apart (L.set n j):=by
 induction L generalizing n with
 |nil=>simp at e
 |cons a l ih=>
  cases n with
  |zero=>
   simp at e
   subst e
   refine⟨?_,h.2⟩
   rw[hb]
   exact h.1
  |succ n=>
   simp at e
   refine⟨?_,ih h.2 e⟩
   intro x hx b hba
   rcases List.mem_or_eq_of_mem_set hx with hx|rfl
   ·exact h.1 x hx b hba
   ·rw[hb]
    exact h.1 i (List.mem_of_getElem? e) b hba
theorem Apart.ne {L:List Item} {n m:Nat} {i j:Item} (h:Apart L) (e:L[n]?=some i) (e':L[m]?=some j) (hne:n≠m):∀b∈i.blocks,b∉j.blocks:=by
 induction L generalizing n m with
 |nil=>simp at e
 |cons a l ih=>
  cases n with
  |zero=>
   cases m with
   |zero=>exact absurd rfl hne
   |succ m=>
    simp at e e'
    subst e
    exact h.1 j (List.mem_of_getElem? e')
  |succ n=>
   cases m with
   |zero=>
    simp at e e'
    subst e'
    intro b hb hb'
    exact h.1 i (List.mem_of_getElem? e) b hb' hb
   |succ m=>
    simp at e e'
    exact ih h.2 e e' (by omega)
theorem Sta.turn {w wx wy:World} {L:List Item} (h:Sta w wx L) (n:Nat) {i:Item} (e:L[n]?=some i) (t:Turned wx wy i.blocks) (j:Item) (hb:j.blocks=i.blocks) (hj:j.holds wy) (ho:j.old≤w.heap.size:=by exact Nat.zero_le _):Sta w wy (L.set n j):=by
 have hold:Below w.heap.size wx wy:=⟨t.os,t.tape,t.output,t.size,fun k hk=>t.block k (Nat.lt_of_lt_of_le hk h.below.size) (fun hc=>by have:=(h.lt n e k hc).1;omega)⟩
 refine⟨h.below.trans hold,?_,?_,?_,h.apart.set e hb⟩
 ·intro x hx
  rcases List.mem_or_eq_of_mem_set hx with hx|rfl
  ·exact h.olds x hx
  ·exact ho
 ·intro x hx
  obtain⟨m,hm,rfl⟩:=List.mem_iff_getElem.1 hx
  rw[List.getElem_set]
  split
  ·exact hj
  ·rename_i hne
   have hm':m<L.length:=by simpa using hm
   have hx':L[m]?=some L[m]:=List.getElem?_eq_getElem hm'
   refine L[m].frame wx wy (fun k hk=>t.block k (h.lt m hx' k hk).2 (fun hc=>?_)) (hold.mono (h.olds _ (List.mem_of_getElem? hx'))) (h.get m hx')
   exact h.apart.ne hx' e (fun e2=>hne e2.symm) k hk hc
 ·intro x hx k hk
  rcases List.mem_or_eq_of_mem_set hx with hx|rfl
  ·exact⟨(h.bound x hx k hk).1,Nat.lt_of_lt_of_le (h.bound x hx k hk).2 t.size⟩
  ·rw[hb]at hk
   exact⟨(h.lt n e k hk).1,Nat.lt_of_lt_of_le (h.lt n e k hk).2 t.size⟩
theorem Sta.tail {w wx:World} {i:Item} {L:List Item} (h:Sta w wx (i::L)):Sta w wx L:=
 ⟨h.below,fun j hj=>h.olds j (List.mem_cons_of_mem _ hj),fun j hj=>h.holds j (List.mem_cons_of_mem _ hj),fun j hj=>h.bound j (List.mem_cons_of_mem _ hj),h.apart.2⟩
theorem Sta.second {w wx:World} {i j:Item} {L:List Item} (h:Sta w wx (i::j::L)):Sta w wx (i::L):=
 ⟨h.below,fun x hx=>h.olds x (by rcases List.mem_cons.1 hx with rfl|hx<;>simp[*]),fun x hx=>h.holds x (by rcases List.mem_cons.1 hx with rfl|hx<;>simp[*]),fun x hx=>h.bound x (by rcases List.mem_cons.1 hx with rfl|hx<;>simp[*]),fun x hx=>h.apart.1 x (List.mem_cons_of_mem _ hx),h.apart.2.2⟩
theorem Apart.iff {L:List Item}:Apart L↔L.Pairwise (fun i j=>∀b∈i.blocks,b∉j.blocks):=by
 induction L with
 |nil=>simp[Apart]
 |cons a l ih=>rw[List.pairwise_cons,←ih];exact Iff.rfl
theorem Sta.perm {w wx:World} {L M:List Item} (h:Sta w wx L) (p:L.Perm M):Sta w wx M:=
 ⟨h.below,fun i hi=>h.olds i (p.mem_iff.2 hi),fun i hi=>h.holds i (p.mem_iff.2 hi),fun i hi=>h.bound i (p.mem_iff.2 hi),
  Apart.iff.2 ((p.pairwise_iff (fun hxy b hb hb'=>hxy b hb' hb)).1 (Apart.iff.1 h.apart))⟩
theorem Sta.sub {w wx:World} {L M:List Item} (h:Sta w wx L) (p:M.Sublist L):Sta w wx M:=
 ⟨h.below,fun i hi=>h.olds i (p.mem hi),fun i hi=>h.holds i (p.mem hi),fun i hi=>h.bound i (p.mem hi),Apart.iff.2 ((Apart.iff.1 h.apart).sublist p)⟩
theorem erase_perm (L:List Item):∀(n:Nat) (i:Item),L[n]?=some i→(i::L.eraseIdx n).Perm L:=by
 induction L with
 |nil=>intro n i e;simp at e
 |cons a l ih=>
  intro n i e
  cases n with
  |zero=>simp at e;subst e;exact List.Perm.refl _
  |succ n=>
   simp at e
   exact(List.Perm.swap a i _).trans ((ih n i e).cons a)
theorem Sta.front {w wx:World} {L:List Item} (h:Sta w wx L) (n:Nat) {i:Item} (e:L[n]?=some i):Sta w wx (i::L.eraseIdx n):=
 h.perm (erase_perm L n i e).symm
theorem Sta.drop {w wx:World} {L:List Item} (h:Sta w wx L) (n:Nat):Sta w wx (L.eraseIdx n):=h.sub (List.eraseIdx_sublist ..)
theorem set_same {L:List Item} {n:Nat} {i:Item} (e:L[n]?=some i):L.set n i=L:=by
 obtain⟨hn,rfl⟩:=List.getElem?_eq_some_iff.1 e
 exact List.set_getElem_self hn
theorem Sta.turnAdd {w wx wy:World} {L:List Item} (h:Sta w wx L) (n:Nat) {i:Item} (e:L[n]?=some i) (t:Turned wx wy i.blocks) (hi:i.holds wy) (k:Item) (hk:k.holds wy) (hb:∀b∈k.blocks,wx.heap.size≤b∧b<wy.heap.size) (ho:k.old≤w.heap.size:=by exact Nat.zero_le _):Sta w wy (k::L):=by
 have h':=h.turn n e t i rfl hi (h.olds i (List.mem_of_getElem? e))
 rw[set_same e]at h'
 refine⟨h'.below,?_,?_,?_,?_,h'.apart⟩
 ·intro j hj
  rcases List.mem_cons.1 hj with rfl|hj
  ·exact ho
  ·exact h'.olds j hj
 ·intro j hj
  rcases List.mem_cons.1 hj with rfl|hj
  ·exact hk
  ·exact h'.holds j hj
 ·intro j hj b hbb
  rcases List.mem_cons.1 hj with rfl|hj
  ·exact⟨Nat.le_trans h.below.size (hb b hbb).1,(hb b hbb).2⟩
  ·exact h'.bound j hj b hbb
 ·intro j hj b hbb hb'
  have:=(hb b hbb).1
  have:=(h.bound j hj b hb').2
  omega
theorem Sta.join {w wx:World} {L:List Item} {i j:Item} (h:Sta w wx (i::j::L)) (k:Item) (hb:k.blocks=i.blocks++j.blocks) (hk:k.holds wx) (ho:k.old≤w.heap.size:=by exact Nat.zero_le _):Sta w wx (k::L):=by
 refine⟨h.below,?_,?_,?_,?_,h.apart.2.2⟩
 ·intro x hx
  rcases List.mem_cons.1 hx with rfl|hx
  ·exact ho
  ·exact h.olds x (by simp[hx])
 ·intro x hx
  rcases List.mem_cons.1 hx with rfl|hx
  ·exact hk
  ·exact h.holds x (by simp[hx])
 ·intro x hx b hbb
  rcases List.mem_cons.1 hx with rfl|hx
  ·rw[hb,List.mem_append]at hbb
   rcases hbb with hbb|hbb
   ·exact h.bound i (by simp) b hbb
   ·exact h.bound j (by simp) b hbb
  ·exact h.bound x (by simp[hx]) b hbb
 ·intro x hx b hbb
  rw[hb,List.mem_append]at hbb
  rcases hbb with hbb|hbb
  ·exact h.apart.1 x (by simp[hx]) b hbb
  ·exact h.apart.2.1 x hx b hbb
def Blk (g:Nat) (t:TypeId) (cs:Array Value):Item:=⟨[g],0,fun w=>w.heap[g]?=some (.cells cs t (0,0)),fun w w' e _ h=>(e g (by simp)).trans h⟩
theorem Sta.box {w wx:World} {L:List Item} (h:Sta w wx L) (t:TypeId) (cs:Array Value):Sta w (wx.alloc (.cells cs t)) (Blk wx.heap.size t cs::L):=
 h.add ((Below.refl _ _).alloc (Nat.le_refl _) _) (Blk _ _ _) (heap_alloc_new wx _) (by simp[Blk])
theorem Blk.cell {w:World} {g:Nat} {t:TypeId} {cs:Array Value} (h:(Blk g t cs).holds w) (j:Nat) {x:Value} (e:cs[j]?=some x):w.cell? ⟨g,j,none⟩=some x:=by
 rw[cell_of_row w g j _ _ _ h,e]
theorem Blk.frozen {w:World} {g:Nat} {t:TypeId} {cs:Array Value} (h:(Blk g t cs).holds w) (j:Nat):w.frozen? ⟨g,j,none⟩=false:=frozen_of_row w g j _ _ h
theorem wpList_getB {ops:Array Oper} {rest:List Oper} {o:Oper} {a:Act} {w:World} {Q:Exit→Act→World→Prop} (hgd:o.guard=none) (t:TypeId) (x:Operand) (ho:o.op=.load t x)
  (g:Nat) (hx:a.eval x=.pointer (some ⟨g,0,none⟩)) (cs:Array Value) (hr:(Blk g t cs).holds w) (fs:Array Field)
  (hu:Tryz.prog.underlying t=some (.struct fs)) (hi:(Tryz.prog.info? t).map (·.size)=some cs.size)
  (h:wpList Tryz.prog ops Q rest (a.put o.dst (.agg cs)) w):wpList Tryz.prog ops Q (o::rest) a w:=
 wpList_load_row hgd _ x ho g hx _ _ _ _ hr hu rfl hi h
theorem turned_setRow (w:World) (g:Nat) (cs:Array Value):Turned w (w.setRow g cs) [g]:=
 ⟨rfl,rfl,rfl,by simp,fun k _ hn=>_root_.Go.setRow_other w g k cs (fun e=>hn (by simp[e]))⟩
theorem wpList_putB {ops:Array Oper} {rest:List Oper} {o:Oper} {a:Act} {w:World} {Q:Exit→Act→World→Prop} (hgd:o.guard=none) (t:TypeId) (x y:Operand) (ho:o.op=.store t x y)
  (g:Nat) (cs old:Array Value) (hx:a.eval x=.pointer (some ⟨g,0,none⟩)) (hy:a.eval y=.agg cs) (hc:cs.all (·.oneCell')=true) (hr:(Blk g t old).holds w)
  (hi:(Tryz.prog.info? t).map (·.size)=some cs.size) (hold:old.size=cs.size)
  (h:∀w',(Blk g t cs).holds w'→Turned w w' [g]→wpList Tryz.prog ops Q rest (a.put o.dst undef) w'):wpList Tryz.prog ops Q (o::rest) a w:=
 wpList_store_row hgd _ x y ho g cs hx hy _ _ hr hi hold hc (h _ (setRow_heap w g _ _ _ _ hr) (turned_setRow w g _))
theorem Sta.var {w wx wy:World} {L:List Item} (h:Sta w wx L) (t:TypeId) (cs old:Array Value) (hr:(Blk wx.heap.size t cs).holds wy) (g:Turned (wx.alloc (.cells old t)) wy [wx.heap.size]):Sta w wy (Blk wx.heap.size t cs::L):=
 (h.box t old).turn 0 rfl g (Blk wx.heap.size t cs) rfl hr
theorem Own.frame {w w':World} {base:Nat} {v:Value} {xs:List Int} (h:Own w base v xs) (e:∀b∈v.ownBlock.toList,w'.heap[b]?=w.heap[b]?):Own w' base v xs:=by
 refine⟨h.1,?_⟩
 rcases h.2 with h'|⟨g,cap,cur,rfl,hb,hg,r⟩
 ·exact .inl h'
 ·exact .inr ⟨g,cap,cur,rfl,hb,(e g (by simp[Value.ownBlock])).trans hg,r⟩
def Lst (v:Value) (xs:List Int):Item:=⟨v.ownBlock.toList,0,fun w=>Own w 0 v xs,fun _ _ e _ h=>Own.frame h e⟩
def Arg (w:World) (v:Value) (xs:List Int):Item:=⟨[],w.heap.size,fun wx=>Below w.heap.size w wx∧Reads w v xs,fun _ _ _ b h=>⟨h.1.trans b,h.2⟩⟩
theorem Sta.list {w wx wy:World} {L:List Item} {v:Value} {xs:List Int} (h:Sta w wx L) (o:Own wy wx.heap.size v xs) (b:Below wx.heap.size wx wy):Sta w wy (Lst v xs::L):=
 h.add b (Lst v xs) (o.mono (Nat.zero_le _)) (fun k hk=>o.lt k (by simpa[Lst]using hk))
theorem Tryz.infoB:(Tryz.prog.info? 26).map (·.size)=some 2∧(Tryz.prog.info? 49).map (·.size)=some 2:=⟨by kernel_rfl,by kernel_rfl⟩
end Go.Proofs.YtpdggofaobmnlaaGreatDoor
