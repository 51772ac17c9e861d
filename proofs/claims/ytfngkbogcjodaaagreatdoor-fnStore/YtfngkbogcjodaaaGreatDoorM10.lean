/- How a number is read, byte by byte. -/
import Derived.Test.YtfngkbogcjodaaaGreatDoorM9
import Derived.Test.YtfngkbogcjodaaaGreatDoorM5
import Derived.Test.YtfngkbogcjodaaaGreatDoorM8
import Derived.Test.YtfngkbogcjodaaaGreatDoorM6
import Derived.Deep.DeepCutAuto
namespace Go.Proofs.YtfngkbogcjodaaaGreatDoor
open Go.ChangeShapes Go.WideShapes Go.ChangeAt Go.RowKit
def byteV (l:Bs) (j:Nat) (h:j<l.length):Int:=((((⟨l.toArray⟩:ByteArray)[j]'(show j<(⟨l.toArray⟩:ByteArray).size from h)).toNat:Nat):Int)
theorem byteV_is (l:Bs) (j:Nat) (h:j<l.length):byteV l j h=byteI l[j]:=rfl
theorem neg_cons (b:UInt8) (t:Bs):neg (b::t)=decide (b=45):=by unfold neg;by_cases h:b=45<;>simp[h]
theorem neg_at (l:Bs) (h:0<l.length):neg l=decide (l[0]=45):=by
 cases l with
 |nil=>simp at h
 |cons b t=>exact neg_cons b t
theorem okN_short (l:Bs) (h:l.length-offN l<1):okN l=false:=by
 rw[←Bool.not_eq_true,okN_iff,digs_len];omega
theorem okN_long (l:Bs) (h:9<l.length-offN l):okN l=false:=by
 rw[←Bool.not_eq_true,okN_iff,digs_len];omega
theorem num_not {l:Bs} (h:okN l=false):num l=0:=by simp[num,h]
theorem digs_at (l:Bs) (j:Nat) (h0:offN l≤j) (h:j<l.length):∃h':j-offN l<(digs l).length,(digs l)[j-offN l]=l[j]:=by
 have hl:=digs_len l
 refine⟨by omega,?_⟩
 unfold digs
 rw[List.getElem_drop]
 congr 1
 omega
def RdInv (l:Bs) (j:Nat) (x:Int):Prop:=x=val ((digs l).take (j-offN l))∧((digs l).take (j-offN l)).all isDig=true
theorem RdInv.start (l:Bs):RdInv l (offN l) 0:=by simp[RdInv,val]
theorem RdInv.next {l:Bs} {j:Nat} {x:Int} (h:RdInv l j x) (h0:offN l≤j) (hj:j<l.length) (hd:isDig l[j]=true):RdInv l (j+1) (x*10+(byteI l[j]-48)):=by
 obtain⟨h1,h2⟩:=digs_at l j h0 hj
 unfold RdInv at h⊢
 rw[show j+1-offN l=j-offN l+1 by omega,take_snocB _ _ h1,val_snoc,List.all_append,h.2,h2,h.1]
 simp[hd]
theorem RdInv.bd {l:Bs} {j:Nat} {x:Int} (h:RdInv l j x) (hj:j-offN l≤9):0≤x∧x<1000000000:=by
 rw[h.1]
 exact val_small _ h.2 (by simp;omega)
theorem RdInv.bad {l:Bs} {j:Nat} (h0:offN l≤j) (hj:j<l.length) (hd:isDig l[j]=false):okN l=false:=by
 obtain⟨h1,h2⟩:=digs_at l j h0 hj
 rw[←Bool.not_eq_true,okN_iff]
 rintro⟨_,_,h3,_⟩
 have:=List.all_eq_true.1 h3 _ (List.getElem_mem h1)
 rw[h2,hd]at this
 cases this
theorem head_digs (l:Bs) (h:offN l<l.length):(digs l).head? =some l[offN l]:=by
 unfold digs
 rw[List.head?_drop]
 simp[h]
theorem RdInv.done {l:Bs} {x:Int} (h:RdInv l l.length x) (h1:1≤l.length-offN l) (h2:l.length-offN l≤9):okN l= !(decide ((digs l).head? =some 48)&&decide (1<l.length))∧x=val (digs l):=by
 have hl:=digs_len l
 unfold RdInv at h
 rw[←hl,List.take_length]at h
 refine⟨?_,h.1⟩
 unfold okN
 rw[h.2,hl]
 simp[h1,h2]
end Go.Proofs.YtfngkbogcjodaaaGreatDoor
namespace Go.Proofs.YtfngkbogcjodaaaGreatDoor
open Go.RowKit
def okT (l:Bs):Bool:=decide (1≤(digs l).length)&&decide ((digs l).length≤10)&&(digs l).all isDig&& !(decide ((digs l).head? =some 48)&&decide (1<l.length))
def numT (l:Bs):Int:=if okT l then(if neg l then-(val (digs l))else val (digs l))else 0
theorem val_ten (l:Bs) (h:l.all isDig=true) (hl:l.length≤10):0≤val l∧val l<10000000000:=by
 have h1:=val_bd l h
 have h2:(10:Int)^l.length≤10^10:=by
  have:(10:Nat)^l.length≤10^10:=Nat.pow_le_pow_right (by omega) hl
  exact_mod_cast this
 have e:(10:Int)^10=10000000000:=by decide
 omega
theorem okT_iff (l:Bs):okT l=true↔1≤(digs l).length∧(digs l).length≤10∧(digs l).all isDig=true∧¬((digs l).head? =some 48∧1<l.length):=by
 simp only[okT,Bool.and_eq_true,decide_eq_true_eq,Bool.not_eq_true',Bool.and_eq_false_iff,decide_eq_false_iff_not]
 constructor
 ·rintro⟨⟨⟨h1,h2⟩,h3⟩,h4⟩
  exact⟨h1,h2,h3,fun⟨a,b⟩=>by rcases h4 with h|h;exact h a;exact h b⟩
 ·rintro⟨h1,h2,h3,h4⟩
  refine⟨⟨⟨h1,h2⟩,h3⟩,?_⟩
  by_cases h:(digs l).head? =some 48
  ·exact .inr (fun h'=>h4 ⟨h,h'⟩)
  ·exact .inl h
theorem numT_bd (l:Bs): -10000000000<numT l∧numT l<10000000000:=by
 unfold numT
 split
 ·rename_i h
  rw[okT_iff]at h
  have:=val_ten _ h.2.2.1 h.2.1
  split<;>omega
 ·omega
theorem okT_short (l:Bs) (h:l.length-offN l<1):okT l=false:=by
 rw[←Bool.not_eq_true,okT_iff,digs_len];omega
theorem okT_long (l:Bs) (h:10<l.length-offN l):okT l=false:=by
 rw[←Bool.not_eq_true,okT_iff,digs_len];omega
theorem numT_not {l:Bs} (h:okT l=false):numT l=0:=by simp[numT,h]
theorem RdInv.bdT {l:Bs} {j:Nat} {x:Int} (h:RdInv l j x) (hj:j-offN l≤10):0≤x∧x<10000000000:=by
 rw[h.1]
 exact val_ten _ h.2 (by simp;omega)
theorem RdInv.badT {l:Bs} {j:Nat} (h0:offN l≤j) (hj:j<l.length) (hd:isDig l[j]=false):okT l=false:=by
 obtain⟨h1,h2⟩:=digs_at l j h0 hj
 rw[←Bool.not_eq_true,okT_iff]
 rintro⟨_,_,h3,_⟩
 have:=List.all_eq_true.1 h3 _ (List.getElem_mem h1)
 rw[h2,hd]at this
 cases this
theorem RdInv.doneT {l:Bs} {x:Int} (h:RdInv l l.length x) (h1:1≤l.length-offN l) (h2:l.length-offN l≤10):okT l= !(decide ((digs l).head? =some 48)&&decide (1<l.length))∧x=val (digs l):=by
 have hl:=digs_len l
 unfold RdInv at h
 rw[←hl,List.take_length]at h
 refine⟨?_,h.1⟩
 unfold okT
 rw[h.2,hl]
 simp[h1,h2]
theorem neg_decI (x:Int):neg (decI x)=decide (x<0):=by
 unfold decI
 split
 ·rename_i h;simp[neg,h]
 ·rename_i h;rw[neg_dec];simp[h]
theorem digs_decI (x:Int):digs (decI x)=dec x.natAbs:=by
 unfold digs offN
 rw[neg_decI]
 unfold decI
 by_cases h:x<0
 ·simp[h]
 ·simp[h]
theorem readT_decI (x:Int) (h0: -10000000000<x) (h1:x<10000000000):okT (decI x)=true∧numT (decI x)=x:=by
 have hd:=digs_decI x
 have hl:=dec_len 9 x.natAbs (by omega)
 have ok:okT (decI x)=true:=by
  rw[okT_iff,hd]
  refine⟨?_,hl,(dec_digs _).1,?_⟩
  ·have:=List.length_pos_iff.2 (dec_ne_nil x.natAbs)
   omega
  ·rintro⟨e1,e2⟩
   by_cases hz:x=0
   ·subst hz
    rw[show decI 0=[digit 0]from dec_zero]at e2
    simp at e2
   ·exact dec_pos_head x.natAbs (by omega) e1
 refine⟨ok,?_⟩
 unfold numT
 rw[ok,neg_decI,hd,(dec_digs _).2]
 by_cases h:x<0
 ·simp[h];omega
 ·simp[h];omega
theorem readT_back (l:Bs) (h:okT l=true):decI (numT l)=l:=by
 have ok:=h
 rw[okT_iff]at h
 obtain⟨h1,h2,h3,h4⟩:=h
 have hne:digs l≠[]:=by intro e;rw[e]at h1;simp at h1
 have hv:=val_bd _ h3
 unfold numT
 rw[if_pos ok]
 have hz:(digs l).head? =some 48→(digs l).length=1:=by
  intro e
  have:¬1<l.length:=fun c=>h4 ⟨e,c⟩
  have:=digs_len l
  omega
 have hb:=dec_val (digs l) h3 hne hz
 cases hng:neg l with
 |false=>
  have hd:digs l=l:=by simp[digs,offN,hng]
  simp only[Bool.false_eq_true,if_false]
  rw[decI_pos hv.1,hb,hd]
 |true=>
  simp only[if_true]
  have hlen:1<l.length:=by
   have:=digs_len l
   simp only[offN,hng,if_true]at this
   omega
  have hn48:(digs l).head? ≠some 48:=fun e=>h4 ⟨e,hlen⟩
  have hpos:0<val (digs l):=by
   rcases Int.lt_or_eq_of_le hv.1 with c|c
   ·exact c
   ·exfalso
    rw[←c]at hb
    rw[←hb]at hn48
    exact hn48 (by rw[show dec (Int.toNat 0)=[digit 0]from dec_zero];rfl)
  unfold decI
  rw[if_pos (by omega),Int.natAbs_neg,show(val (digs l)).natAbs=(val (digs l)).toNat by omega,hb]
  unfold neg at hng
  cases l with
  |nil=>simp at hng
  |cons b t=>
   have:b=45:=by simpa using hng
   subst this
   simp[digs,offN,neg]
end Go.Proofs.YtfngkbogcjodaaaGreatDoor
namespace Go.Proofs.YtfngkbogcjodaaaGreatDoor
open Go.RowKit
def turnI (t:Int):Int:=if 1000000000<t+1 then 0 else t+1
def Hd.zero:Hd:=⟨[],0,0,0⟩
def Hd.free (h:Hd):Hd:=⟨h.ks,0, -1,h.tu⟩
def Hd.take (h:Hd) (i k:Int):Hd:=⟨h.ks,k,if allI k then-1 else i,h.tu⟩
def Hd.turn (h:Hd):Hd:=⟨h.ks,h.kd,h.ho,turnI h.tu⟩
def Hd.key (h:Hd) (i key:Int):Hd:=⟨h.ks.set i.toNat key,h.kd,h.ho,h.tu⟩
def Hd.regd (h:Hd) (i key:Int):Hd:=if key=0∧(h.ho=i∨anyI (h.ks.set i.toNat key)=false)then((h.key i key).turn).free else(h.key i key).turn
def Hd.register (h:Hd) (i key:Int):Hd×Int:=if h.ok&&inI i 0 3&&inI key 0 9999 then(h.regd i key,0)else(Hd.zero,2)
def Hd.resd (h:Hd) (i k:Int):Hd×Bool:=if regI h.ks i=false then(h,false)else if h.kd=0 then(h.take i k,true)else(h,decide (h.kd=k)&&(allI k||decide (h.ho=i)))
def told (r:Hd×Bool):Hd×Int:=(r.1,if r.2 then 0 else 1)
def Hd.reserve (h:Hd) (i k:Int):Hd×Int:=if h.ok&&inI i 0 3&&kiI k then told (h.resd i k)else(Hd.zero,2)
def Hd.reld (h:Hd) (i:Int):Hd×Bool:=if regI h.ks i=false then(h,false)else if h.holds i then(h.free,true)else(h,true)
def Hd.release (h:Hd) (i:Int):Hd×Int:=if h.ok&&inI i 0 3 then told (h.reld i)else(Hd.zero,2)
def Hd.clrd (h:Hd) (i:Int):Hd×Bool:=if regI h.ks i=false then(h,false)else(⟨[0,0,0,0],0, -1,turnI h.tu⟩,true)
def Hd.clear (h:Hd) (i:Int):Hd×Int:=if h.ok&&inI i 0 3 then told (h.clrd i)else(Hd.zero,2)
def strike (ks:List Int) (i:Nat) (key:Int):Nat→List Int
 |0=>ks
 |j+1=>if j≠i∧ks.getD j 0=key then(strike ks i key j).set j 0 else strike ks i key j
def more (ks:List Int) (i:Nat) (key:Int):Nat→Bool
 |0=>false
 |j+1=>more ks i key j||(decide (j≠i)&&(decide (ks.getD j 0≠key)&&decide (ks.getD j 0≠0)))
def has (ks:List Int) (key:Int):Nat→Bool
 |0=>false
 |j+1=>has ks key j||decide (ks.getD j 0=key)
def Hd.alone (h:Hd) (key:Int):Bool:=decide (h.kd≠0)&&(!allI h.kd&&decide (h.ks.getD h.ho.toNat 0=key))
def Hd.pred (h:Hd) (i key k:Int):Hd×Bool:=
 if(regI h.ks i&&has h.ks key 4)=false then(h,false)else
 if(h.alone key||(allI h.kd&& !more h.ks i.toNat key 4))=true then((Hd.turn ⟨strike h.ks i.toNat key 4,h.kd,h.ho,h.tu⟩).take i k,true)
 else(Hd.turn ⟨strike h.ks i.toNat key 4,h.kd,h.ho,h.tu⟩,true)
theorem strike_len (ks:List Int) (i:Nat) (key:Int) (j:Nat):(strike ks i key j).length=ks.length:=by
 induction j with
 |zero=>rfl
 |succ j ih=>unfold strike;split<;>simp[ih]
theorem strike_at (ks:List Int) (i:Nat) (key:Int) (j m:Nat) (hm:j≤m):(strike ks i key j).getD m 0=ks.getD m 0:=by
 induction j with
 |zero=>rfl
 |succ j ih=>
  have:=ih (by omega)
  unfold strike
  split
  ·rw[←this]
   simp only[List.getD_eq_getElem?_getD]
   rw[List.getElem?_set_ne (by omega)]
  ·exact this
def Hd.preempt (h:Hd) (i key k:Int):Hd×Int:=if h.ok&&inI i 0 3&&inI key 1 9999&&kiI k then told (h.pred i key k)else(Hd.zero,2)
theorem Hd.ok_all {h:Hd} (e:h.ok=true):h.ks.length=4∧(0≤h.tu∧h.tu≤1000000000)∧keysI h.ks=true∧h.mid=true:=by
 unfold Hd.ok at e
 simp only[Bool.and_eq_true,decide_eq_true_eq]at e
 exact⟨e.1.1.1,(inI_iff _ _ _).1 e.1.1.2,e.1.2,e.2⟩
theorem turnI_in (t:Int) (h0:0≤t) (h1:t≤1000000000):0≤turnI t∧turnI t≤1000000000:=by
 unfold turnI;split<;>omega
theorem register_len (h:Hd) (i key:Int):(h.register i key).1.ks.length≤4:=by
 unfold Hd.register
 split
 ·rename_i c
  simp only[Bool.and_eq_true]at c
  have:=(Hd.ok_all c.1.1).1
  unfold Hd.regd
  split<;>simp[Hd.free,Hd.turn,Hd.key,this]
 ·simp[Hd.zero]
theorem told_fst (r:Hd×Bool):(told r).1=r.1:=rfl
theorem reserve_len (h:Hd) (i k:Int):(h.reserve i k).1.ks.length≤4:=by
 unfold Hd.reserve
 split
 ·rename_i c
  simp only[Bool.and_eq_true]at c
  have:=(Hd.ok_all c.1.1).1
  rw[told_fst]
  unfold Hd.resd
  split
  ·simp[this]
  ·split<;>simp[Hd.take,this]
 ·simp[Hd.zero]
theorem release_len (h:Hd) (i:Int):(h.release i).1.ks.length≤4:=by
 unfold Hd.release
 split
 ·rename_i c
  simp only[Bool.and_eq_true]at c
  have:=(Hd.ok_all c.1).1
  rw[told_fst]
  unfold Hd.reld
  split
  ·simp[this]
  ·split<;>simp[Hd.free,this]
 ·simp[Hd.zero]
theorem clear_len (h:Hd) (i:Int):(h.clear i).1.ks.length≤4:=by
 unfold Hd.clear
 split
 ·rename_i c
  simp only[Bool.and_eq_true]at c
  have:=(Hd.ok_all c.1).1
  rw[told_fst]
  unfold Hd.clrd
  split<;>simp[this]
 ·simp[Hd.zero]
theorem preempt_len (h:Hd) (i key k:Int):(h.preempt i key k).1.ks.length≤4:=by
 unfold Hd.preempt
 split
 ·rename_i c
  simp only[Bool.and_eq_true]at c
  have:=(Hd.ok_all c.1.1.1).1
  rw[told_fst]
  unfold Hd.pred
  split
  ·simp[this]
  ·split<;>simp[Hd.take,Hd.turn,strike_len,this]
 ·simp[Hd.zero]
end Go.Proofs.YtfngkbogcjodaaaGreatDoor
namespace Go.Proofs.YtfngkbogcjodaaaGreatDoor
open Go.RowKit
def Hd.keysN (h:Hd):List Int:=h.tu::h.ks.filter (fun k=>decide (k≠0))
def Hd.holdN (h:Hd):List Int:=[h.tu,h.kd,if 0≤h.ho then h.ks.getD h.ho.toNat 0 else 0]
def Hd.showN (h:Hd):List Int:=h.ks++[h.kd,h.ho,h.tu]
def Hd.keysT (h:Hd):Bs:=if h.ok then intsB h.keysN else[]
def Hd.holdT (h:Hd):Bs:=if h.ok then intsB h.holdN else[]
def Hd.showT (h:Hd):Bs:=if h.ok then intsB h.showN else[]
def hdOf (ns:List Int):Hd:=⟨ns.take 4,ns.getD 4 0,ns.getD 5 0,ns.getD 6 0⟩
def readH (s:Bs):Option Hd:=if((splitB 32 s).length=7∧(splitB 32 s).all okT=true)∧(hdOf ((splitB 32 s).map numT)).ok=true then some (hdOf ((splitB 32 s).map numT))else none
def readD (s:Bs):Hd:=(readH s).getD Hd.zero
def readY (s:Bs):Bool:=(readH s).isSome
theorem splitB_appN (c:UInt8) (a r:Bs) (h:∀b∈a,b≠c):splitB c (a++c::r)=a::splitB c r:=by
 induction a with
 |nil=>simp[splitB]
 |cons b a ih=>
  rw[List.cons_append,splitB,if_neg (h b (by simp)),ih (fun x hx=>h x (by simp[hx]))]
  rfl
theorem decI_no32 (x:Int):∀b∈decI x,b≠32:=by
 have hd:∀n,∀b∈dec n,b≠32:=by
  intro n b hb e
  have:=List.all_eq_true.1 (dec_digs n).1 b hb
  rw[e]at this
  exact absurd this (by decide)
 intro b hb
 unfold decI at hb
 split at hb
 ·rcases List.mem_cons.1 hb with rfl|hb
  ·decide
  ·exact hd _ b hb
 ·exact hd _ b hb
theorem splitB_ints (xs:List Int) (h:xs≠[]):splitB 32 (intsB xs)=xs.map decI:=by
 induction xs with
 |nil=>exact absurd rfl h
 |cons x l ih=>
  cases l with
  |nil=>rw[intsB,splitB_word 32 _ (decI_no32 x)];rfl
  |cons y l=>
   rw[intsB,splitB_appN 32 _ _ (decI_no32 x),ih (by simp)]
   rfl
theorem Hd.ok_nums {h:Hd} (e:h.ok=true):∀x∈h.showN, -10000000000<x∧x<10000000000:=by
 obtain⟨hl,ht,hk,hm⟩:=Hd.ok_all e
 intro x hx
 unfold Hd.showN at hx
 rcases List.mem_append.1 hx with hx|hx
 ·have:=List.all_eq_true.1 hk x hx
  have:=(inI_iff _ _ _).1 this
  omega
 ·have hkd: -1≤h.kd∧h.kd≤100∧-1≤h.ho∧h.ho≤3:=by
   unfold Hd.mid at hm
   split at hm
   ·rename_i c
    have:h.ho= -1:=by simpa using hm
    omega
   ·split at hm
    ·rename_i c
     have h1:h.ho= -1:=by simp only[Bool.and_eq_true,decide_eq_true_eq]at hm;exact hm.1
     have:h.kd=5∨h.kd=6:=by simpa[allI]using c
     omega
    ·simp only[Bool.and_eq_true]at hm
     have:=(inI_iff _ _ _).1 (show inI h.kd 1 6=true from hm.1.1)
     have:=(inI_iff _ _ _).1 hm.1.2
     omega
  simp only[List.mem_cons,List.mem_nil_iff,or_false]at hx
  rcases hx with rfl|rfl|rfl<;>omega
theorem hdOf_show {h:Hd} (hl:h.ks.length=4):hdOf h.showN=h:=by
 obtain⟨ks,kd,ho,tu⟩:=h
 dsimp only at hl
 match ks,hl with
 |[a,b,c,d],_=>rfl
theorem map_read (xs:List Int) (h:∀x∈xs, -10000000000<x∧x<10000000000):(xs.map decI).map numT=xs∧(xs.map decI).all okT=true:=by
 constructor
 ·rw[List.map_map]
  conv=>rhs;rw[←List.map_id xs]
  apply List.map_congr_left
  intro x hx
  exact(readT_decI x (h x hx).1 (h x hx).2).2
 ·rw[List.all_eq_true]
  intro b hb
  obtain⟨x,hx,rfl⟩:=List.mem_map.1 hb
  exact(readT_decI x (h x hx).1 (h x hx).2).1
theorem readH_show {h:Hd} (e:h.ok=true):readH (intsB h.showN)=some h:=by
 have hl:=(Hd.ok_all e).1
 have hs:splitB 32 (intsB h.showN)=h.showN.map decI:=splitB_ints _ (by simp[Hd.showN])
 obtain⟨m1,m2⟩:=map_read _ (Hd.ok_nums e)
 unfold readH
 rw[hs,m1,hdOf_show hl]
 rw[if_pos]
 refine⟨⟨?_,m2⟩,e⟩
 rw[List.length_map]
 simp[Hd.showN,hl]
theorem showH_read {s:Bs} {h:Hd} (e:readH s=some h):h.ok=true∧intsB h.showN=s:=by
 unfold readH at e
 split at e
 ·rename_i c
  obtain⟨⟨c1,c2⟩,c3⟩:=c
  simp only[Option.some.injEq]at e
  rw[e]at c3
  refine⟨c3,?_⟩
  have hj:=joinB_split 32 s
  obtain⟨ws,hws⟩:∃ws,ws=splitB 32 s:=⟨_,rfl⟩
  rw[←hws]at c1 c2 e hj
  have hm:h.showN=ws.map numT:=by
   rw[←e]
   match ws,c1 with
   |[a,b,c,d,x,y,z],_=>rfl
  rw[hm,←join_ints,List.map_map]
  have:ws.map (decI∘numT)=ws:=by
   conv=>rhs;rw[←List.map_id ws]
   apply List.map_congr_left
   intro b hb
   exact readT_back b (List.all_eq_true.1 c2 b hb)
  rw[this,hj]
 ·cases e
theorem readD_len (s:Bs):(readD s).ks.length≤4:=by
 unfold readD
 cases h:readH s with
 |none=>simp[Hd.zero]
 |some g=>
  have:=(Hd.ok_all (showH_read h).1).1
  simp;omega
end Go.Proofs.YtfngkbogcjodaaaGreatDoor
namespace Go.Proofs.YtfngkbogcjodaaaGreatDoor
open Go.ChangeShapes Go.WideShapes Go.ChangeAt Go.RowKit
def srA (a b k:Value) (h:Hd):Array Value:=#[a,b,k,.int .i64 h.kd,.int .i64 h.ho,.int .i64 h.tu]
def SRV (a b k:Value) (h:Hd):Value:=.agg (srA a b k h)
structure Sr where
 xs:List Int
 ys:List Int
 h:Hd
def Sr.zero:Sr:=⟨[],[],Hd.zero⟩
def Sr.ok (s:Sr):Bool:=bothOk s.xs s.ys&&s.h.ok
def newS (n:Int):Sr:=if decide (1≤n)&&decide (n≤8)then⟨zerosI n,zerosI n,Hd.new⟩else Sr.zero
def conf (r:Hd×Bool):Hd×An:=(r.1,if r.2 then⟨0,[]⟩else⟨3,[]⟩)
def Hd.act (h:Hd) (who:Int) (c:Cm):Hd×An:=
 if c.o=6 then(h.regd who c.a,⟨0,[]⟩)
 else if c.o=7 then conf (h.resd who c.k)
 else if c.o=8 then conf (h.reld who)
 else if c.o=9 then conf (h.clrd who)
 else if c.o=10 then(if c.a=0 then(h,⟨1,[]⟩)else conf (h.pred who c.a c.k))
 else if c.o=11 then(h,⟨0,h.keysT⟩)
 else(h,⟨0,h.holdT⟩)
def Sr.doing (s:Sr) (who:Int) (c:Cm):Sr×An:=
 if 5<c.o then(⟨s.xs,s.ys,(s.h.act who c).1⟩,(s.h.act who c).2)
 else if s.h.may who (decide (c.o≠1))then(⟨(didI s.xs s.ys c).1,(didI s.xs s.ys c).2.1,s.h⟩,(didI s.xs s.ys c).2.2)
 else(s,⟨3,[]⟩)
def Sr.did (s:Sr) (who:Int) (c:Cm):Sr×An:=
 if s.ok then(if inI who 0 3&&c.ok then s.doing who c else(s,⟨7,[]⟩))else(Sr.zero,⟨7,[]⟩)
def Sr.power (s:Sr) (set:Int):Sr:=
 if s.ok then(if setOk set then⟨chosenUp s.xs s.ys set 8 s.xs.length,chosenUp s.xs s.ys set 8 s.xs.length,s.h⟩else s)else Sr.zero
def Hd.eqB (a b:Hd):Bool:=decide (a.ks=b.ks)&&decide (a.kd=b.kd)&&decide (a.ho=b.ho)&&decide (a.tu=b.tu)
def Sr.alike (s t:Sr):Bool:=s.ok&&t.ok&&(decide (s.xs=t.xs)&&decide (s.ys=t.ys)&&s.h.eqB t.h)
end Go.Proofs.YtfngkbogcjodaaaGreatDoor
namespace Go.Proofs.YtfngkbogcjodaaaGreatDoor
open Go.ChangeShapes Go.WideShapes Go.ChangeAt Go.RowKit
theorem Tryz.isR:IsS 30 6:=⟨⟨_,Tryz.underlying30⟩,by kernel_rfl⟩
def OwnR (w:World) (base:Nat) (a b k:Value) (xs ys ks:List Int):Prop:=OwnD w base a b xs ys∧Own w base k ks∧apart a k∧apart b k
def zeR:Array Value:=#[.slice none 0 0,.slice none 0 0,.slice none 0 0,.int .i64 0,.int .i64 0,.int .i64 0]
theorem srA_one {a b k:Value} (h:Hd) (ha:a.oneCell'=true) (hb:b.oneCell'=true) (hk:k.oneCell'=true):(srA a b k h).all (·.oneCell')=true:=by
 unfold srA
 simp[ha,hb,hk,show∀k n,(Value.int k n).oneCell'=true from fun _ _=>rfl]
theorem OwnR.below {w w':World} {base:Nat} {a b k:Value} {xs ys ks:List Int} (h:OwnR w base a b k xs ys ks) (e:Below w.heap.size w w'):OwnR w' base a b k xs ys ks:=
 ⟨⟨h.1.1.below e,h.1.2.1.below e,h.1.2.2⟩,h.2.1.below e,h.2.2⟩
theorem OwnR.mono {w:World} {base base':Nat} {a b k:Value} {xs ys ks:List Int} (h:OwnR w base a b k xs ys ks) (e:base'≤base):OwnR w base' a b k xs ys ks:=
 ⟨⟨h.1.1.mono e,h.1.2.1.mono e,h.1.2.2⟩,h.2.1.mono e,h.2.2⟩
theorem OwnR.keptLt {w w':World} {base g:Nat} {a b k:Value} {xs ys ks:List Int} (h:OwnR w base a b k xs ys ks) (e:w.grownBy w' (some g)) (hg:g<base):OwnR w' base a b k xs ys ks:=
 ⟨⟨h.1.1.keptLt e hg,h.1.2.1.keptLt e hg,h.1.2.2⟩,h.2.1.keptLt e hg,h.2.2⟩
theorem OwnR.nil (w:World) (base:Nat):OwnR w base (.slice none 0 0) (.slice none 0 0) (.slice none 0 0) [] [] []:=
 ⟨⟨Own.nil w base,Own.nil w base,⟨.inl rfl,.inl rfl⟩⟩,Own.nil w base,⟨.inl rfl,.inl rfl⟩,⟨.inl rfl,.inl rfl⟩⟩
end Go.Proofs.YtfngkbogcjodaaaGreatDoor
namespace Go.Proofs.YtfngkbogcjodaaaGreatDoor
open Go.ChangeShapes Go.WideShapes Go.ChangeAt Go.RowKit
def Marked3 (w w':World) (u v q:Value):Prop:=∃w1,Marked w w1 u v∧w1.grownBy w' q.ownBlock
end Go.Proofs.YtfngkbogcjodaaaGreatDoor
