/- Lists of strings in memory: 'ReadsS', 'OwnS'; what eqStringS, likeTexts, markText, markStringS and heldStringS answer. -/
import Derived.Test.YtfngkbogcjodaaaGreatDoorM6
import Derived.Laws.OwnMore
import Derived.Deep.AppendLies
import Derived.Deep.QuietTactic
import Derived.OwnWalk
import Derived.Deep.RegionHeld3
namespace Go.Proofs.YtfngkbogcjodaaaGreatDoor
open Go.ChangeShapes Go.WideShapes Go.ChangeAt Go.RowKit
def ReadsS (w:World) (v:Value) (xs:List Bs):Prop:=
 ∃ao cap,v=.slice ao xs.length cap∧xs.length≤cap∧(cap≤maxLen∧(ao=none→cap=0))∧
  (xs=[]∨∃b off,ao=some ⟨b,off,none⟩∧∀j,j<xs.length→w.cell? ⟨b,off+j,none⟩=some (S (xs.getD j [])))
def OwnS (w:World) (base:Nat) (v:Value) (xs:List Bs):Prop:=
 w.ownsRow base 9 1 v xs.length (xs.map S)
theorem OwnS.nil (w:World) (base:Nat):OwnS w base (.slice none 0 0) []:=World.ownsRow_nil w base _ _
theorem OwnS.reads {w:World} {base:Nat} {v:Value} {xs:List Bs} (h:OwnS w base v xs):ReadsS w v xs:=by
 rcases h.2 with⟨rfl,h0⟩|⟨g,cap,cur,rfl,hb,hg,hnc,hcm,hcs,ht⟩
 ·have e:xs=[]:=List.eq_nil_of_length_eq_zero h0
  subst e
  exact⟨none,0,rfl,Nat.le_refl _,⟨Nat.zero_le _,fun _=>rfl⟩,.inl rfl⟩
 ·refine⟨_,cap,rfl,hnc,⟨hcm,fun e=>by cases e⟩,.inr ⟨g,0,rfl,fun j hj=>?_⟩⟩
  have:=World.ownsRow.cellAt (w:=w) h j (by omega)
  rw[Nat.zero_add,this]
  simp[List.getD,hj]
theorem OwnS.mono {w:World} {base base':Nat} {v:Value} {xs:List Bs} (h:OwnS w base v xs) (hb:base'≤base):OwnS w base' v xs:=by
 refine⟨h.1,?_⟩
 rcases h.2 with h'|⟨g,cap,cur,e,hg,r⟩
 ·exact .inl h'
 ·exact .inr ⟨g,cap,cur,e,Nat.le_trans hb hg,r⟩
theorem OwnS.lt {w:World} {base:Nat} {v:Value} {xs:List Bs} (h:OwnS w base v xs):∀k,v.ownBlock=some k→base≤k∧k<w.heap.size:=World.ownsRow.lt h
theorem OwnS.frame {w w':World} {base:Nat} {v:Value} {xs:List Bs} (h:OwnS w base v xs) (e:∀b∈v.ownBlock.toList,w'.heap[b]?=w.heap[b]?):OwnS w' base v xs:=by
 refine⟨h.1,?_⟩
 rcases h.2 with h'|⟨g,cap,cur,rfl,hb,hg,r⟩
 ·exact .inl h'
 ·exact .inr ⟨g,cap,cur,rfl,hb,(e g (by simp[Value.ownBlock])).trans hg,r⟩
theorem OwnS.below {w w':World} {base:Nat} {v:Value} {xs:List Bs} (h:OwnS w base v xs) (hb:Below w.heap.size w w'):OwnS w' base v xs:=
 h.frame (fun b hm=>hb.block b (h.lt b (by simpa using hm)).2)
theorem OwnS.kept {w w':World} {base:Nat} {v:Value} {row:Option Nat} {xs:List Bs} (h:OwnS w base v xs) (hg:w.grownBy w' row) (hne:v.ownBlock=none∨v.ownBlock≠row):OwnS w' base v xs:=
 World.ownsRow.kept h hg hne
theorem ReadsS.below {w w':World} {B:Nat} {v:Value} {xs:List Bs} (h:ReadsS w v xs) (hb:Below B w w') (hB:w.heap.size≤B):ReadsS w' v xs:=by
 obtain⟨ao,cap,rfl,h1,h2,h3⟩:=h
 refine⟨ao,cap,rfl,h1,h2,?_⟩
 rcases h3 with h3|⟨b,off,rfl,h4⟩
 ·exact .inl h3
 ·refine .inr ⟨b,off,rfl,fun j hj=>?_⟩
  have h5:=h4 j hj
  have h6:=World.block_lt_of_cell? w _ h5
  rw[hb.cell (p:=⟨b,off+j,none⟩) (Nat.lt_of_lt_of_le h6 hB)]
  exact h5
theorem takeS_snoc (xs:List Bs) (j:Nat) (h:j<xs.length):xs.take (j+1)=xs.take j++[xs.getD j []]:=by
 rw[List.take_succ_eq_append_getElem h];simp[List.getD,h]
theorem takeS_step {xs ys:List Bs} {j:Nat} (h:xs.take j=ys.take j) (hx:j<xs.length) (hy:j<ys.length) (e:xs.getD j []=ys.getD j []):xs.take (j+1)=ys.take (j+1):=by
 rw[takeS_snoc xs j hx,takeS_snoc ys j hy,h,e]
theorem neS_of_getD {xs ys:List Bs} {j:Nat} (e:xs.getD j []≠ys.getD j []):xs≠ys:=fun h=>e (by rw[h])
def mtext (k:Nat):Bs:=109::dec k
end Go.Proofs.YtfngkbogcjodaaaGreatDoor
namespace Go.Proofs.YtfngkbogcjodaaaGreatDoor
open Go.ChangeShapes Go.WideShapes Go.ChangeAt Go.RowKit
def marksS (k:Nat) (n:Nat):List Bs:=(List.range n).map fun j=>mtext (k+j)
theorem marksS_length (k n:Nat):(marksS k n).length=n:=by simp[marksS]
theorem marksS_getD (k n j:Nat) (h:j<n):(marksS k n).getD j []=mtext (k+j):=by simp[marksS,List.getD,h]
theorem marksS_step (k:Nat) (xs:List Bs) (j:Nat) (h:j<xs.length):((marksS k j++xs.drop j).set j (mtext (k+j)))=marksS k (j+1)++xs.drop (j+1):=by
 rw[List.set_append_right _ _ (by simp[marksS_length]),marksS_length,Nat.sub_self]
 rw[List.drop_eq_getElem_cons h,List.set_cons_zero]
 simp[marksS,List.range_succ]
theorem marksS_all (k:Nat) (xs:List Bs):marksS k xs.length++xs.drop xs.length=marksS k xs.length:=by simp
theorem OwnS.put {w:World} {base g n cap:Nat} {xs:List Bs} (h:OwnS w base (.slice (some ⟨g,0,none⟩) n cap) xs) (hn:n=xs.length) (j:Nat) (hj:j<n) (x:Bs):
  w.frozen? ⟨g,j,none⟩=false∧(∃y,w.cell? ⟨g,j,none⟩=some y)∧OwnS (w.setCell ⟨g,j,none⟩ (S x)) base (.slice (some ⟨g,0,none⟩) n cap) (xs.set j x):=by
 subst hn
 have hown:w.ownsRow base 9 1 (.slice (some ⟨g,0,none⟩) xs.length cap) xs.length (xs.map S):=h
 refine⟨World.ownsRow.frozenAt hown j,?_,?_⟩
 ·rw[World.ownsRow.cellAt hown j (by omega)]
  exact⟨_,List.getElem?_eq_getElem (by simpa using hj)⟩
 ·have:=(World.ownsRow.stored hown j (S x)).1
  rw[←List.map_set]at this
  unfold OwnS
  rwa[List.length_set]
theorem grownSetS (w:World) (g j:Nat) (x:Value):w.grownBy (w.setCell ⟨g,j,none⟩ x) (some g):=
 ⟨rfl,rfl,rfl,by simp,fun k _ hk=>heap_setCell_other w ⟨g,j,none⟩ k x (fun e=>hk (by simp[e]))⟩
theorem grown_below {w w' w'':World} {row:Option Nat} (h:w.grownBy w' row) (b:Below w'.heap.size w' w''):w.grownBy w'' row:=
 ⟨b.os.trans h.os,b.tape.trans h.tape,b.output.trans h.output,Nat.le_trans h.size b.size,fun k hk hne=>(b.block k (Nat.lt_of_lt_of_le hk h.size)).trans (h.block k hk hne)⟩
end Go.Proofs.YtfngkbogcjodaaaGreatDoor
namespace Go.Proofs.YtfngkbogcjodaaaGreatDoor
open Go.ChangeShapes Go.WideShapes Go.ChangeAt Go.RowKit
def ahead (a:Bs):List Bs→List Bs
 |[]=>[a]
 |p::ps=>(a++p)::ps
def splitB (c:UInt8):Bs→List Bs
 |[]=>[[]]
 |b::t=>if b=c then[]::splitB c t else ahead [b] (splitB c t)
theorem ahead_ahead (a b:Bs) (l:List Bs) (h:l≠[]):ahead a (ahead b l)=ahead (a++b) l:=by
 cases l with
 |nil=>exact absurd rfl h
 |cons p ps=>simp[ahead]
theorem ahead_nil (l:List Bs) (h:l≠[]):ahead [] l=l:=by
 cases l with
 |nil=>exact absurd rfl h
 |cons p ps=>rfl
theorem ahead_ne (a:Bs) (l:List Bs):ahead a l≠[]:=by cases l<;>simp[ahead]
theorem splitB_ne (c:UInt8) (l:Bs):splitB c l≠[]:=by
 cases l with
 |nil=>simp[splitB]
 |cons b t=>rw[splitB];split;simp;exact ahead_ne _ _
def cutB (l:Bs) (a b:Nat):Bs:=(l.take b).drop a
theorem cutB_len (l:Bs) (a b:Nat) (h:b≤l.length):(cutB l a b).length=b-a:=by simp[cutB];omega
theorem cutB_snoc (l:Bs) (a b:Nat) (h:a≤b) (hb:b<l.length):cutB l a (b+1)=cutB l a b++[l[b]]:=by
 unfold cutB
 rw[take_snocB l b hb,List.drop_append_of_le_length (by simp;omega)]
theorem cutB_self (l:Bs) (a:Nat):cutB l a a=[]:=by
 unfold cutB
 rw[List.drop_eq_nil_of_le (by simp;omega)]
theorem extract_cut (l:Bs) (a b:Nat):(⟨l.toArray⟩:ByteArray).extract a b=⟨(cutB l a b).toArray⟩:=by
 apply ByteArray.ext
 rw[ByteArray.data_extract]
 simp[cutB,List.extract_toArray,List.drop_take]
def SplitInv (c:UInt8) (l:Bs) (out:List Bs) (a i:Nat):Prop:=a≤i∧splitB c l=out++ahead (cutB l a i) (splitB c (l.drop i))
theorem SplitInv.start (c:UInt8) (l:Bs):SplitInv c l [] 0 0:=⟨Nat.le_refl _,by rw[cutB_self,List.drop_zero,ahead_nil _ (splitB_ne _ _)];rfl⟩
theorem SplitInv.hit {c:UInt8} {l:Bs} {out:List Bs} {a i:Nat} (h:SplitInv c l out a i) (hi:i<l.length) (hc:l[i]=c):SplitInv c l (out++[cutB l a i]) (i+1) (i+1):=by
 refine⟨Nat.le_refl _,?_⟩
 rw[h.2,List.drop_eq_getElem_cons hi,splitB,if_pos hc,cutB_self,ahead_nil _ (splitB_ne _ _)]
 simp[ahead]
theorem SplitInv.miss {c:UInt8} {l:Bs} {out:List Bs} {a i:Nat} (h:SplitInv c l out a i) (hi:i<l.length) (hc:l[i]≠c):SplitInv c l out a (i+1):=by
 refine⟨by have:=h.1;omega,?_⟩
 rw[h.2,List.drop_eq_getElem_cons hi,splitB,if_neg hc,ahead_ahead _ _ _ (splitB_ne _ _),cutB_snoc l a i h.1 hi]
theorem SplitInv.done {c:UInt8} {l:Bs} {out:List Bs} {a:Nat} (h:SplitInv c l out a l.length):splitB c l=out++[cutB l a l.length]:=by
 rw[h.2]
 simp[splitB,ahead]
theorem Tryz.infoS:(Tryz.prog.info? 9).map (fun i=>(i.zero,i.size,i.bytes))=some (some (.string ⟨#[]⟩),1,16):=by kernel_rfl
theorem litS1 (w:World) (x:Bs):∀j u,([S x])[j]?=some u→(w.alloc (.cells #[S x] 9)).cell? ((⟨w.heap.size,0,none⟩:Addr).add j)=some u:=by
 intro j u hj
 match j,hj with
 |0,hj=>simp at hj;subst hj;simp[Addr.add]
theorem mapS_one (xs:List Bs) (a:Bs):xs.map S++[S a]=(xs++[a]).map S:=by simp
theorem appendS {w wr w':World} {o v':Value} {out:List Bs} {x:Bs} {ob:Obj} (hO:OwnS wr w.heap.size o out) (hB:Below w.heap.size w wr)
  (hown:w'.ownsRow w.heap.size 9 1 v' (out.length+1) (out.map S++[S x])) (hg:(wr.alloc ob).grownBy w' o.ownBlock):OwnS w' w.heap.size v' (out++[x])∧Below w.heap.size w w':=by
 refine⟨?_,(hB.alloc hB.size ob).grown hg (by simp;have:=hB.size;omega) (fun k e=>(hO.lt k e).1)⟩
 unfold OwnS
 rw[←mapS_one]
 simpa using hown
end Go.Proofs.YtfngkbogcjodaaaGreatDoor
namespace Go.Proofs.YtfngkbogcjodaaaGreatDoor
open Go.RowKit
theorem app' (a b:Bs):(({data:=a.toArray}:ByteArray)++{data:=b.toArray})={data:=(a++b).toArray}:=ByteArray.mk_append_mk a b
theorem bsize' (a:Bs):({data:=a.toArray}:ByteArray).size=a.length:=rfl
def isDig (b:UInt8):Bool:=decide (48≤byteI b)&&decide (byteI b≤57)
def val (l:Bs):Int:=l.foldl (fun n b=>n*10+(byteI b-48)) 0
def neg (l:Bs):Bool:=l.head? ==some 45
def offN (l:Bs):Nat:=if neg l then 1 else 0
def digs (l:Bs):Bs:=l.drop (offN l)
def okN (l:Bs):Bool:=decide (1≤(digs l).length)&&decide ((digs l).length≤9)&&(digs l).all isDig&& !(decide ((digs l).head? =some 48)&&decide (1<l.length))
def num (l:Bs):Int:=if okN l then(if neg l then-(val (digs l))else val (digs l))else 0
theorem val_snoc (l:Bs) (b:UInt8):val (l++[b])=val l*10+(byteI b-48):=by simp[val]
theorem isDig_iff (b:UInt8):isDig b=true↔48≤byteI b∧byteI b≤57:=by simp[isDig]
theorem val_bd (l:Bs) (h:l.all isDig=true):0≤val l∧val l<10^l.length:=by
 induction hn:l.length generalizing l with
 |zero=>
  have:l=[]:=List.eq_nil_of_length_eq_zero hn
  subst this;simp[val]
 |succ n ih=>
  rcases List.eq_nil_or_concat l with rfl|⟨m,b,rfl⟩
  ·simp at hn
  ·rw[List.concat_eq_append]at h hn⊢
   rw[List.all_append,Bool.and_eq_true]at h
   have hb:isDig b=true:=by simpa using h.2
   rw[isDig_iff]at hb
   have h1:=ih m h.1 (by simpa using hn)
   rw[val_snoc,Int.pow_succ]
   omega
theorem val_small (l:Bs) (h:l.all isDig=true) (hl:l.length≤9):0≤val l∧val l<1000000000:=by
 have h1:=val_bd l h
 have h2:(10:Int)^l.length≤10^9:=by
  have:(10:Nat)^l.length≤10^9:=Nat.pow_le_pow_right (by omega) hl
  exact_mod_cast this
 have e:(10:Int)^9=1000000000:=by decide
 omega
theorem okN_iff (l:Bs):okN l=true↔1≤(digs l).length∧(digs l).length≤9∧(digs l).all isDig=true∧¬((digs l).head? =some 48∧1<l.length):=by
 simp only[okN,Bool.and_eq_true,decide_eq_true_eq,Bool.not_eq_true',Bool.and_eq_false_iff,decide_eq_false_iff_not]
 constructor
 ·rintro⟨⟨⟨h1,h2⟩,h3⟩,h4⟩
  exact⟨h1,h2,h3,fun⟨a,b⟩=>by rcases h4 with h|h;exact h a;exact h b⟩
 ·rintro⟨h1,h2,h3,h4⟩
  refine⟨⟨⟨h1,h2⟩,h3⟩,?_⟩
  by_cases h:(digs l).head? =some 48
  ·exact .inr (fun h'=>h4 ⟨h,h'⟩)
  ·exact .inl h
theorem num_bd (l:Bs): -1000000000<num l∧num l<1000000000:=by
 unfold num
 split
 ·rename_i h
  rw[okN_iff]at h
  have:=val_small _ h.2.2.1 h.2.1
  split<;>omega
 ·omega
theorem digs_len (l:Bs):(digs l).length=l.length-offN l:=by simp[digs]
theorem offN_le (l:Bs):offN l≤l.length:=by
 unfold offN neg
 cases l with
 |nil=>simp
 |cons b l=>split<;>simp
theorem digit_byte (n:Nat):byteI (digit n)=48+(n%10:Nat):=by
 have:(digit n).toNat=48+n%10:=by unfold digit;rw[UInt8.toNat_ofNat'];omega
 unfold byteI;rw[this];omega
theorem isDig_digit (n:Nat):isDig (digit n)=true:=by
 rw[isDig_iff,digit_byte];omega
theorem dec_digs (n:Nat):(dec n).all isDig=true∧val (dec n)=n:=by
 induction n using Nat.strongRecOn with
 |ind n ih=>
  rw[dec]
  split
  ·refine⟨by simp[isDig_digit],?_⟩
   have:=val_snoc [] (digit n)
   rw[List.nil_append]at this
   rw[this,digit_byte]
   simp[val];omega
  ·obtain⟨h1,h2⟩:=ih (n/10) (by omega)
   refine⟨by rw[List.all_append,h1];simp[isDig_digit],?_⟩
   rw[val_snoc,h2,digit_byte]
   omega
theorem digit_of {b:UInt8} (n:Nat) (hn:((n%10:Nat):Int)=byteI b-48):digit n=b:=by
 apply UInt8.toNat_inj.1
 have:=digit_byte n
 unfold byteI at this hn
 omega
theorem dec_val (l:Bs) (h:l.all isDig=true) (h0:l≠[]) (hz:l.head? =some 48→l.length=1):dec (val l).toNat=l:=by
 induction hn:l.length generalizing l with
 |zero=>exact absurd (List.eq_nil_of_length_eq_zero hn) h0
 |succ n ih=>
  rcases List.eq_nil_or_concat l with rfl|⟨m,b,rfl⟩
  ·simp at hn
  ·rw[List.concat_eq_append]at h hn h0 hz⊢
   rw[List.all_append,Bool.and_eq_true]at h
   have hb:isDig b=true:=by simpa using h.2
   have hb':=(isDig_iff b).1 hb
   by_cases hm:m=[]
   ·subst hm
    have hv:val ([]++[b])=byteI b-48:=by rw[val_snoc];simp[val]
    rw[hv,dec,if_pos (by omega),digit_of (b:=b) _ (by omega)]
    rfl
   ·have hz':m.head? =some 48→m.length=1:=by
     intro e
     cases m with
     |nil=>exact absurd rfl hm
     |cons c m=>
      have:=hz (by simpa using e)
      simp at this
    have hpos:m.head? ≠some 48:=by
     intro e
     cases m with
     |nil=>exact absurd rfl hm
     |cons c m=>
      have:=hz (by simpa using e)
      simp at this
    have h1:=ih m h.1 hm hz' (by simpa using hn)
    have h2:=val_bd m h.1
    have h3:val m≠0:=by
     intro e
     rw[e]at h1
     have:dec (0:Int).toNat=[48]:=dec_zero
     rw[this]at h1
     rw[←h1]at hpos
     exact hpos rfl
    rw[val_snoc,dec,if_neg (by omega)]
    have e1:(val m*10+(byteI b-48)).toNat/10=(val m).toNat:=by omega
    rw[e1,h1,digit_of (b:=b) _ (by omega)]
theorem dec_ne_nil (n:Nat):dec n≠[]:=by
 rw[dec];split<;>simp
theorem dec_pos_head (n:Nat) (h:0<n):(dec n).head? ≠some 48:=by
 induction n using Nat.strongRecOn with
 |ind n ih=>
  rw[dec]
  split
  ·intro e
   have e2:digit n=48:=by simpa using e
   have:=digit_byte n
   rw[e2]at this
   have h48:byteI 48=48:=rfl
   omega
  ·have:=ih (n/10) (by omega) (by omega)
   cases hd:dec (n/10)with
   |nil=>exact absurd hd (dec_ne_nil _)
   |cons c l=>rw[hd]at this;simpa using this
theorem neg_dec (n:Nat):neg (dec n)=false:=by
 cases hd:dec n with
 |nil=>exact absurd hd (dec_ne_nil _)
 |cons c l=>
  have h:=(dec_digs n).1
  rw[hd,List.all_cons,Bool.and_eq_true]at h
  have h1:=(isDig_iff c).1 h.1
  unfold neg
  by_cases e:c=45
  ·subst e
   have:byteI 45=45:=rfl
   omega
  ·simpa using e
theorem read_dec (n:Nat) (h:n<1000000000):okN (dec n)=true∧num (dec n)=n:=by
 have hn:=neg_dec n
 have hd:digs (dec n)=dec n:=by simp[digs,offN,hn]
 have hl:=dec_len 8 n (by omega)
 have ok:okN (dec n)=true:=by
  rw[okN_iff,hd]
  refine⟨?_,hl,(dec_digs n).1,?_⟩
  ·have:=dec_ne_nil n
   have:=List.length_pos_iff.2 this
   omega
  ·rintro⟨e1,e2⟩
   by_cases h0:n=0
   ·subst h0
    rw[dec_zero]at e2
    simp at e2
   ·exact dec_pos_head n (by omega) e1
 refine⟨ok,?_⟩
 unfold num
 rw[ok,hn,hd,(dec_digs n).2]
 simp
theorem read_back (l:Bs) (h:okN l=true) (h0:0≤num l):dec (num l).toNat=l:=by
 rw[okN_iff]at h
 have ok:okN l=true:=(okN_iff l).2 h
 obtain⟨h1,h2,h3,h4⟩:=h
 have hne:digs l≠[]:=by intro e;rw[e]at h1;simp at h1
 unfold num at h0⊢
 rw[if_pos ok]at h0⊢
 cases hng:neg l with
 |true=>
  exfalso
  rw[hng,if_pos rfl]at h0
  have hlen:1<l.length:=by
   have:=digs_len l
   simp only[offN,hng,if_true]at this
   omega
  have hz:(digs l).head? ≠some 48:=fun e=>h4 ⟨e,hlen⟩
  have hb:=val_bd _ h3
  have hv:val (digs l)=0:=by omega
  have:=dec_val (digs l) h3 hne (fun e=>absurd e hz)
  rw[hv]at this
  have e0:dec (0:Int).toNat=[48]:=dec_zero
  rw[e0]at this
  rw[←this]at hz
  exact hz rfl
 |false=>
  have hd:digs l=l:=by simp[digs,offN,hng]
  rw[hd]at h3 h4 hne⊢
  simp only[Bool.false_eq_true,if_false]
  exact dec_val l h3 hne (fun e=>by
   have:¬1<l.length:=fun h=>h4 ⟨e,h⟩
   have:=List.length_pos_iff.2 hne
   omega)
def intsB:List Int→Bs
 |[]=>[]
 |[x]=>decI x
 |x::y::l=>decI x++32::intsB (y::l)
theorem decI_len (n:Int) (h0: -9223372036854775808≤n) (h1:n≤9223372036854775807):(decI n).length≤21:=by
 have:=dec_len 19 n.natAbs (by omega)
 unfold decI
 split<;>simp<;>omega
theorem decI_pos {n:Int} (h:0≤n):decI n=dec n.toNat:=by
 unfold decI
 rw[if_neg (by omega)]
 congr 1
 omega
theorem splitB_word (c:UInt8) (a:Bs) (h:∀b∈a,b≠c):splitB c a=[a]:=by
 induction a with
 |nil=>rfl
 |cons b a ih=>rw[splitB,if_neg (h b (by simp)),ih (fun x hx=>h x (by simp[hx]))];rfl
def joinB (c:UInt8):List Bs→Bs
 |[]=>[]
 |[x]=>x
 |x::y::l=>x++c::joinB c (y::l)
theorem joinB_ahead (c:UInt8) (a:Bs) (l:List Bs) (h:l≠[]):joinB c (ahead a l)=a++joinB c l:=by
 cases l with
 |nil=>exact absurd rfl h
 |cons p ps=>cases ps<;>simp[ahead,joinB]
theorem joinB_split (c:UInt8) (s:Bs):joinB c (splitB c s)=s:=by
 induction s with
 |nil=>rfl
 |cons b t ih=>
  rw[splitB]
  split
  ·rename_i h
   cases hs:splitB c t with
   |nil=>exact absurd hs (splitB_ne c t)
   |cons p ps=>rw[joinB,←hs,ih,h];rfl
  ·rw[joinB_ahead c [b] _ (splitB_ne c t),ih];rfl
def fourB (xs:List Int) (j:Nat):Bs:=if j=0 then[]else intsB (xs.take j)
theorem intsB_snoc (xs:List Int) (x:Int) (h:xs≠[]):intsB (xs++[x])=intsB xs++32::decI x:=by
 induction xs with
 |nil=>exact absurd rfl h
 |cons a l ih=>
  cases l with
  |nil=>rfl
  |cons b l=>
   have:=ih (by simp)
   simp only[List.cons_append]at this⊢
   rw[intsB,this,intsB]
   simp
theorem fourB_step (xs:List Int) (j:Nat) (h:j<xs.length):fourB xs (j+1)=(if j=0 then[]else fourB xs j++[32])++decI (xs.getD j 0):=by
 unfold fourB
 rw[if_neg (by omega),List.take_succ_eq_append_getElem h]
 have e:xs.getD j 0=xs[j]:=by simp[h]
 rw[e]
 by_cases h0:j=0
 ·subst h0
  simp[intsB]
 ·rw[if_neg h0,if_neg h0,intsB_snoc _ _ (by intro e;have:=congrArg List.length e;rw[List.length_take,Nat.min_eq_left (by omega)]at this;exact h0 this)]
  simp
theorem intsB_len (xs:List Int) (h:∀x∈xs, -9223372036854775808≤x∧x≤9223372036854775807):(intsB xs).length≤22*xs.length:=by
 induction xs with
 |nil=>simp[intsB]
 |cons a l ih=>
  have ha:=h a (by simp)
  have hl:=decI_len a ha.1 ha.2
  cases l with
  |nil=>simp[intsB];omega
  |cons b l=>
   have:=ih (fun x hx=>h x (by simp[hx]))
   rw[intsB]
   simp at this⊢
   omega
theorem join_ints (xs:List Int):joinB 32 (xs.map decI)=intsB xs:=by
 induction xs with
 |nil=>rfl
 |cons x l ih=>
  cases l with
  |nil=>rfl
  |cons y l=>
   rw[List.map_cons,List.map_cons,joinB,←List.map_cons,ih]
   rfl
def Fits64 (xs:List Int):Prop:=∀x∈xs, -9223372036854775808≤x∧x≤9223372036854775807
end Go.Proofs.YtfngkbogcjodaaaGreatDoor
