/- Blocks by commands, as plain lists: what one command does to a disk, and its answer. -/
import Derived.Test.YthmnmaemnihkeaaDoorM1
import Derived.Test.YthmnmaemnihkeaaDoorM2
import Derived.Laws.OwnMore
import Derived.Deep.AppendLies
import Derived.Deep.QuietTactic
import Derived.OwnWalk
import Derived.Deep.RegionHeld3
namespace Go.Proofs.YthmnmaemnihkeaaDoor
open Go.RowKit
structure An where
 st:Int
 tx:Bs
def anA (x:An):Array Value:=#[.int .i64 x.st,S x.tx]
def AV (x:An):Value:=.agg (anA x)
def rangeI (ys:List Int) (c:Cm):Bool:=decide ((ys.length:Int)≤c.p)||(decide (c.o=2)&& !valOk c.a)||(decide (c.o=3)&& !valOk c.b)
def atI (ys:List Int) (c:Cm):Int:=ys.getD c.p.toNat 0
def didI (xs ys:List Int) (c:Cm):List Int×List Int×An:=
 if c.o=5 then(ys,ys,⟨0,[]⟩)
 else if rangeI ys c then(xs,ys,⟨1,[]⟩)
 else if c.o=1 then(xs,ys,⟨0,decI (atI ys c)⟩)
 else if c.o=2 then(xs,ys.set c.p.toNat c.a,⟨0,[]⟩)
 else if c.o=3 then(if atI ys c=c.a then(xs,ys.set c.p.toNat c.b,⟨0,[]⟩)else(xs,ys,⟨2,decI (atI ys c)⟩))
 else(xs,ys.set c.p.toNat 0,⟨0,[]⟩)
def didD (xs ys:List Int) (c:Cm):List Int×List Int×An:=
 if bothOk xs ys then(if c.ok&&decide (c.o≤5)then didI xs ys c else(xs,ys,⟨7,[]⟩))else([],[],⟨7,[]⟩)
theorem Cm.ok_vol {c:Cm} (h:c.ok=true) (h5:c.o≤5):(c.o=1∨c.o=2∨c.o=3∨c.o=4∨c.o=5)∧0≤c.p:=by
 obtain⟨o,p,a,b,k⟩:=c
 have hb:=Cm.ok_byt h
 unfold Cm.ok Cm.told at h
 dsimp only at h h5
 simp only[Bool.and_eq_true,inI_iff]at h
 unfold Cm.Byt at hb
 dsimp only at hb
 dsimp only
 omega
end Go.Proofs.YthmnmaemnihkeaaDoor
set_option maxRecDepth 20000
set_option maxHeartbeats 1000000
namespace Go.Proofs.YthmnmaemnihkeaaDoor
open Go.ChangeShapes Go.WideShapes Go.ChangeAt Go.RowKit
def ReadsS (w:World) (v:Value) (xs:List Bs):Prop:=
 ∃ao cap,v=.slice ao xs.length cap∧xs.length≤cap∧(cap≤maxLen∧(ao=none→cap=0))∧
  (xs=[]∨∃b off,ao=some ⟨b,off,none⟩∧∀j,j<xs.length→w.cell? ⟨b,off+j,none⟩=some (S (xs.getD j [])))
def OwnS (w:World) (base:Nat) (v:Value) (xs:List Bs):Prop:=
 w.ownsRow base 9 1 v xs.length (xs.map S)
theorem OwnS.nil (w:World) (base:Nat):OwnS w base (.slice none 0 0) []:=World.ownsRow_nil w base _ _
theorem OwnS.reads {w:World} {base:Nat} {v:Value} {xs:List Bs} (h:OwnS w base v xs):ReadsS w v xs:=by
 rcases h.2 with⟨rfl,h0⟩|⟨g,cap,cur,rfl,hb,hg,hnc,hcm,hcs,ht⟩
 ·have e:xs=[]:=List.eq_nil_of_length_eq_zero h0
  subst e
  exact⟨none,0,rfl,Nat.le_refl _,⟨Nat.zero_le _,fun _=>rfl⟩,.inl rfl⟩
 ·refine⟨_,cap,rfl,hnc,⟨hcm,fun e=>by cases e⟩,.inr ⟨g,0,rfl,fun j hj=>?_⟩⟩
  have:=World.ownsRow.cellAt (w:=w) h j (by omega)
  rw[Nat.zero_add,this]
  simp[List.getD,hj]
theorem OwnS.mono {w:World} {base base':Nat} {v:Value} {xs:List Bs} (h:OwnS w base v xs) (hb:base'≤base):OwnS w base' v xs:=by
 refine⟨h.1,?_⟩
 rcases h.2 with h'|⟨g,cap,cur,e,hg,r⟩
 ·exact .inl h'
 ·exact .inr ⟨g,cap,cur,e,Nat.le_trans hb hg,r⟩
theorem OwnS.lt {w:World} {base:Nat} {v:Value} {xs:List Bs} (h:OwnS w base v xs):∀k,v.ownBlock=some k→base≤k∧k<w.heap.size:=World.ownsRow.lt h
theorem OwnS.frame {w w':World} {base:Nat} {v:Value} {xs:List Bs} (h:OwnS w base v xs) (e:∀b∈v.ownBlock.toList,w'.heap[b]?=w.heap[b]?):OwnS w' base v xs:=by
 refine⟨h.1,?_⟩
 rcases h.2 with h'|⟨g,cap,cur,rfl,hb,hg,r⟩
 ·exact .inl h'
 ·exact .inr ⟨g,cap,cur,rfl,hb,(e g (by simp[Value.ownBlock])).trans hg,r⟩
theorem OwnS.below {w w':World} {base:Nat} {v:Value} {xs:List Bs} (h:OwnS w base v xs) (hb:Below w.heap.size w w'):OwnS w' base v xs:=
 h.frame (fun b hm=>hb.block b (h.lt b (by simpa using hm)).2)
theorem OwnS.kept {w w':World} {base:Nat} {v:Value} {row:Option Nat} {xs:List Bs} (h:OwnS w base v xs) (hg:w.grownBy w' row) (hne:v.ownBlock=none∨v.ownBlock≠row):OwnS w' base v xs:=
 World.ownsRow.kept h hg hne
theorem ReadsS.below {w w':World} {B:Nat} {v:Value} {xs:List Bs} (h:ReadsS w v xs) (hb:Below B w w') (hB:w.heap.size≤B):ReadsS w' v xs:=by
 obtain⟨ao,cap,rfl,h1,h2,h3⟩:=h
 refine⟨ao,cap,rfl,h1,h2,?_⟩
 rcases h3 with h3|⟨b,off,rfl,h4⟩
 ·exact .inl h3
 ·refine .inr ⟨b,off,rfl,fun j hj=>?_⟩
  have h5:=h4 j hj
  have h6:=World.block_lt_of_cell? w _ h5
  rw[hb.cell (p:=⟨b,off+j,none⟩) (Nat.lt_of_lt_of_le h6 hB)]
  exact h5
def mtext (k:Nat):Bs:=109::dec k
theorem mtext_any (k:Int) (w:World) (h0:1≤k) (h1:k≤9223372036854775807):
  Calls Tryd.prog 31 #[.int .i64 k] w fun e w'=>e=.returned (S (mtext k.toNat))∧Below w.heap.size w w':=by
 unfold S
 go_enter Tryd.func31,Tryd.ntmps31
 go_wp2
 go_loopw [0,3] (fun m s wr=>∃(q:Nat) (l:Bs),m=.int .i64 q∧s=.string ⟨l.toArray⟩∧(q:Int)≤9223372036854775807∧Hid (decZ q++l=dec k.toNat∧Below w.heap.size w wr)) (fun m _ _=>(intOf m).toNat)
 case atStart=>exact⟨k.toNat,[],by congr 1;omega,rfl,by omega,by simp[decZ];omega,Below.refl _ _⟩
 case round=>
  obtain⟨q,l,rfl,rfl,hq,HI⟩:=hrel
  have hl20:l.length≤20:=by
   have:=congrArg List.length HI.out.1
   have h3:=dec_len 19 k.toNat (by omega)
   rw[List.length_append]at this
   omega
  have hsz:(⟨l.toArray⟩:ByteArray).size=l.length:=rfl
  by_cases hz:0<(q:Int)
  ·obtain⟨hmod,hdiv⟩:=parts_pos q (by omega)
   rw[Int.natAbs_natCast]at hmod hdiv
   obtain⟨d,hd⟩:∃d:Nat,d=q%10:=⟨_,rfl⟩
   obtain⟨r,hr⟩:∃r:Nat,r=q/10:=⟨_,rfl⟩
   rw[←hd]at hmod
   rw[←hr]at hdiv
   have hd9:(d:Int)≤9:=by omega
   have hr9:(r:Int)≤922337203685477580:=by omega
   have hconv:=conv1 wr d (by omega)
   have HS:Hid (decZ r++([digit d]++l)=dec k.toNat∧r<q):=by
    refine⟨?_,by omega⟩
    rw[←HI.out.1,decZ_step q (by omega),hd,digit_mod,hr]
    simp
   have HB:Hid (Below w.heap.size w (wr.alloc (.cells #[.int .u8 (48+(d:Int))] 5))):=HI.out.2.alloc HI.out.2.size _
   clear hd hr HI
   go_wp2
   go_roundw
   case rel=>exact⟨r,[digit d]++l,by go_num,by rw[←ByteArray.mk_append_mk' [digit d] l],by omega,HS.out.1,HB.out⟩
   case measure=>have:=HS.out.2;simp[intOf];omega
  ·obtain rfl:q=0:=by omega
   have HE:Hid (l=dec k.toNat):=by simpa[decZ,Hid]using HI.out.1
   go_wp2
   go_ret
   refine⟨congrArg (fun x=>Ending.returned (Value.string x)) ?_,HI.out.2⟩
   rw[ByteArray.mk_append_mk' [109] l,mtext,←HE.out]
   rfl
end Go.Proofs.YthmnmaemnihkeaaDoor
namespace Go.Proofs.YthmnmaemnihkeaaDoor
open Go.ChangeShapes Go.WideShapes Go.ChangeAt Go.RowKit
theorem OwnS.put {w:World} {base g n cap:Nat} {xs:List Bs} (h:OwnS w base (.slice (some ⟨g,0,none⟩) n cap) xs) (hn:n=xs.length) (j:Nat) (hj:j<n) (x:Bs):
  w.frozen? ⟨g,j,none⟩=false∧(∃y,w.cell? ⟨g,j,none⟩=some y)∧OwnS (w.setCell ⟨g,j,none⟩ (S x)) base (.slice (some ⟨g,0,none⟩) n cap) (xs.set j x):=by
 subst hn
 have hown:w.ownsRow base 9 1 (.slice (some ⟨g,0,none⟩) xs.length cap) xs.length (xs.map S):=h
 refine⟨World.ownsRow.frozenAt hown j,?_,?_⟩
 ·rw[World.ownsRow.cellAt hown j (by omega)]
  exact⟨_,List.getElem?_eq_getElem (by simpa using hj)⟩
 ·have:=(World.ownsRow.stored hown j (S x)).1
  rw[←List.map_set]at this
  unfold OwnS
  rwa[List.length_set]
end Go.Proofs.YthmnmaemnihkeaaDoor
namespace Go.Proofs.YthmnmaemnihkeaaDoor
open Go.ChangeShapes Go.WideShapes Go.ChangeAt Go.RowKit
def ahead (a:Bs):List Bs→List Bs
 |[]=>[a]
 |p::ps=>(a++p)::ps
def splitB (c:UInt8):Bs→List Bs
 |[]=>[[]]
 |b::t=>if b=c then[]::splitB c t else ahead [b] (splitB c t)
theorem ahead_ne (a:Bs) (l:List Bs):ahead a l≠[]:=by cases l<;>simp[ahead]
theorem splitB_ne (c:UInt8) (l:Bs):splitB c l≠[]:=by
 cases l with
 |nil=>simp[splitB]
 |cons b t=>rw[splitB];split;simp;exact ahead_ne _ _
def cutB (l:Bs) (a b:Nat):Bs:=(l.take b).drop a
def SplitInv (c:UInt8) (l:Bs) (out:List Bs) (a i:Nat):Prop:=a≤i∧splitB c l=out++ahead (cutB l a i) (splitB c (l.drop i))
theorem SplitInv.done {c:UInt8} {l:Bs} {out:List Bs} {a:Nat} (h:SplitInv c l out a l.length):splitB c l=out++[cutB l a l.length]:=by
 rw[h.2]
 simp[splitB,ahead]
end Go.Proofs.YthmnmaemnihkeaaDoor
namespace Go.Proofs.YthmnmaemnihkeaaDoor
open Go.RowKit
def isDig (b:UInt8):Bool:=decide (48≤byteI b)&&decide (byteI b≤57)
def val (l:Bs):Int:=l.foldl (fun n b=>n*10+(byteI b-48)) 0
def neg (l:Bs):Bool:=l.head? ==some 45
def offN (l:Bs):Nat:=if neg l then 1 else 0
def digs (l:Bs):Bs:=l.drop (offN l)
def okN (l:Bs):Bool:=decide (1≤(digs l).length)&&decide ((digs l).length≤9)&&(digs l).all isDig&& !(decide ((digs l).head? =some 48)&&decide (1<l.length))
def num (l:Bs):Int:=if okN l then(if neg l then-(val (digs l))else val (digs l))else 0
theorem val_snoc (l:Bs) (b:UInt8):val (l++[b])=val l*10+(byteI b-48):=by simp[val]
theorem isDig_iff (b:UInt8):isDig b=true↔48≤byteI b∧byteI b≤57:=by simp[isDig]
theorem val_bd (l:Bs) (h:l.all isDig=true):0≤val l∧val l<10^l.length:=by
 induction hn:l.length generalizing l with
 |zero=>
  have:l=[]:=List.eq_nil_of_length_eq_zero hn
  subst this;simp[val]
 |succ n ih=>
  rcases List.eq_nil_or_concat l with rfl|⟨m,b,rfl⟩
  ·simp at hn
  ·rw[List.concat_eq_append]at h hn⊢
   rw[List.all_append,Bool.and_eq_true]at h
   have hb:isDig b=true:=by simpa using h.2
   rw[isDig_iff]at hb
   have h1:=ih m h.1 (by simpa using hn)
   rw[val_snoc,Int.pow_succ]
   omega
theorem val_small (l:Bs) (h:l.all isDig=true) (hl:l.length≤9):0≤val l∧val l<1000000000:=by
 have h1:=val_bd l h
 have h2:(10:Int)^l.length≤10^9:=by
  have:(10:Nat)^l.length≤10^9:=Nat.pow_le_pow_right (by omega) hl
  exact_mod_cast this
 have e:(10:Int)^9=1000000000:=by decide
 omega
theorem okN_iff (l:Bs):okN l=true↔1≤(digs l).length∧(digs l).length≤9∧(digs l).all isDig=true∧¬((digs l).head? =some 48∧1<l.length):=by
 simp only[okN,Bool.and_eq_true,decide_eq_true_eq,Bool.not_eq_true',Bool.and_eq_false_iff,decide_eq_false_iff_not]
 constructor
 ·rintro⟨⟨⟨h1,h2⟩,h3⟩,h4⟩
  exact⟨h1,h2,h3,fun⟨a,b⟩=>by rcases h4 with h|h;exact h a;exact h b⟩
 ·rintro⟨h1,h2,h3,h4⟩
  refine⟨⟨⟨h1,h2⟩,h3⟩,?_⟩
  by_cases h:(digs l).head? =some 48
  ·exact .inr (fun h'=>h4 ⟨h,h'⟩)
  ·exact .inl h
theorem digs_len (l:Bs):(digs l).length=l.length-offN l:=by simp[digs]
theorem digit_byte (n:Nat):byteI (digit n)=48+(n%10:Nat):=by
 have:(digit n).toNat=48+n%10:=by unfold digit;rw[UInt8.toNat_ofNat'];omega
 unfold byteI;rw[this];omega
theorem isDig_digit (n:Nat):isDig (digit n)=true:=by
 rw[isDig_iff,digit_byte];omega
theorem dec_digs (n:Nat):(dec n).all isDig=true∧val (dec n)=n:=by
 induction n using Nat.strongRecOn with
 |ind n ih=>
  rw[dec]
  split
  ·refine⟨by simp[isDig_digit],?_⟩
   have:=val_snoc [] (digit n)
   rw[List.nil_append]at this
   rw[this,digit_byte]
   simp[val];omega
  ·obtain⟨h1,h2⟩:=ih (n/10) (by omega)
   refine⟨by rw[List.all_append,h1];simp[isDig_digit],?_⟩
   rw[val_snoc,h2,digit_byte]
   omega
theorem dec_ne_nil (n:Nat):dec n≠[]:=by
 rw[dec];split<;>simp
theorem dec_pos_head (n:Nat) (h:0<n):(dec n).head? ≠some 48:=by
 induction n using Nat.strongRecOn with
 |ind n ih=>
  rw[dec]
  split
  ·intro e
   have e2:digit n=48:=by simpa using e
   have:=digit_byte n
   rw[e2]at this
   have h48:byteI 48=48:=rfl
   omega
  ·have:=ih (n/10) (by omega) (by omega)
   cases hd:dec (n/10)with
   |nil=>exact absurd hd (dec_ne_nil _)
   |cons c l=>rw[hd]at this;simpa using this
theorem neg_dec (n:Nat):neg (dec n)=false:=by
 cases hd:dec n with
 |nil=>exact absurd hd (dec_ne_nil _)
 |cons c l=>
  have h:=(dec_digs n).1
  rw[hd,List.all_cons,Bool.and_eq_true]at h
  have h1:=(isDig_iff c).1 h.1
  unfold neg
  by_cases e:c=45
  ·subst e
   have:byteI 45=45:=rfl
   omega
  ·simpa using e
theorem read_dec (n:Nat) (h:n<1000000000):okN (dec n)=true∧num (dec n)=n:=by
 have hn:=neg_dec n
 have hd:digs (dec n)=dec n:=by simp[digs,offN,hn]
 have hl:=dec_len 8 n (by omega)
 have ok:okN (dec n)=true:=by
  rw[okN_iff,hd]
  refine⟨?_,hl,(dec_digs n).1,?_⟩
  ·have:=dec_ne_nil n
   have:=List.length_pos_iff.2 this
   omega
  ·rintro⟨e1,e2⟩
   by_cases h0:n=0
   ·subst h0
    rw[dec_zero]at e2
    simp at e2
   ·exact dec_pos_head n (by omega) e1
 refine⟨ok,?_⟩
 unfold num
 rw[ok,hn,hd,(dec_digs n).2]
 simp
def intsB:List Int→Bs
 |[]=>[]
 |[x]=>decI x
 |x::y::l=>decI x++32::intsB (y::l)
theorem decI_len (n:Int) (h0: -9223372036854775808≤n) (h1:n≤9223372036854775807):(decI n).length≤21:=by
 have:=dec_len 19 n.natAbs (by omega)
 unfold decI
 split<;>simp<;>omega
theorem decI_pos {n:Int} (h:0≤n):decI n=dec n.toNat:=by
 unfold decI
 rw[if_neg (by omega)]
 congr 1
 omega
theorem splitB_word (c:UInt8) (a:Bs) (h:∀b∈a,b≠c):splitB c a=[a]:=by
 induction a with
 |nil=>rfl
 |cons b a ih=>rw[splitB,if_neg (h b (by simp)),ih (fun x hx=>h x (by simp[hx]))];rfl
def fourB (xs:List Int) (j:Nat):Bs:=if j=0 then[]else intsB (xs.take j)
theorem intsB_snoc (xs:List Int) (x:Int) (h:xs≠[]):intsB (xs++[x])=intsB xs++32::decI x:=by
 induction xs with
 |nil=>exact absurd rfl h
 |cons a l ih=>
  cases l with
  |nil=>rfl
  |cons b l=>
   have:=ih (by simp)
   simp only[List.cons_append]at this⊢
   rw[intsB,this,intsB]
   simp
theorem fourB_step (xs:List Int) (j:Nat) (h:j<xs.length):fourB xs (j+1)=(if j=0 then[]else fourB xs j++[32])++decI (xs.getD j 0):=by
 unfold fourB
 rw[if_neg (by omega),List.take_succ_eq_append_getElem h]
 have e:xs.getD j 0=xs[j]:=by simp[h]
 rw[e]
 by_cases h0:j=0
 ·subst h0
  simp[intsB]
 ·rw[if_neg h0,if_neg h0,intsB_snoc _ _ (by intro e;have:=congrArg List.length e;rw[List.length_take,Nat.min_eq_left (by omega)]at this;exact h0 this)]
  simp
theorem intsB_len (xs:List Int) (h:∀x∈xs, -9223372036854775808≤x∧x≤9223372036854775807):(intsB xs).length≤22*xs.length:=by
 induction xs with
 |nil=>simp[intsB]
 |cons a l ih=>
  have ha:=h a (by simp)
  have hl:=decI_len a ha.1 ha.2
  cases l with
  |nil=>simp[intsB];omega
  |cons b l=>
   have:=ih (fun x hx=>h x (by simp[hx]))
   rw[intsB]
   simp at this⊢
   omega
end Go.Proofs.YthmnmaemnihkeaaDoor
