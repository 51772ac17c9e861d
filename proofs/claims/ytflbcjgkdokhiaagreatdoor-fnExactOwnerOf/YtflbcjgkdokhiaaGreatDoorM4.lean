/- Numbers in a text: how one is shown and read, many with blanks between. -/
import Derived.Test.YtflbcjgkdokhiaaGreatDoorM3
import Derived.Test.YtflbcjgkdokhiaaGreatDoorM1
namespace Go.Proofs.YtflbcjgkdokhiaaGreatDoor
open Go.RowKit
def isDig (b:UInt8):Bool:=decide (48≤byteI b)&&decide (byteI b≤57)
def val (l:Bs):Int:=l.foldl (fun n b=>n*10+(byteI b-48)) 0
def neg (l:Bs):Bool:=l.head? ==some 45
def offN (l:Bs):Nat:=if neg l then 1 else 0
def digs (l:Bs):Bs:=l.drop (offN l)
def okN (l:Bs):Bool:=decide (1≤(digs l).length)&&decide ((digs l).length≤9)&&(digs l).all isDig&& !(decide ((digs l).head? =some 48)&&decide (1<l.length))
def num (l:Bs):Int:=if okN l then(if neg l then-(val (digs l))else val (digs l))else 0
theorem val_snoc (l:Bs) (b:UInt8):val (l++[b])=val l*10+(byteI b-48):=by simp[val]
theorem isDig_iff (b:UInt8):isDig b=true↔48≤byteI b∧byteI b≤57:=by simp[isDig]
theorem val_bd (l:Bs) (h:l.all isDig=true):0≤val l∧val l<10^l.length:=by
 induction hn:l.length generalizing l with
 |zero=>
  have:l=[]:=List.eq_nil_of_length_eq_zero hn
  subst this;simp[val]
 |succ n ih=>
  rcases List.eq_nil_or_concat l with rfl|⟨m,b,rfl⟩
  ·simp at hn
  ·rw[List.concat_eq_append]at h hn⊢
   rw[List.all_append,Bool.and_eq_true]at h
   have hb:isDig b=true:=by simpa using h.2
   rw[isDig_iff]at hb
   have h1:=ih m h.1 (by simpa using hn)
   rw[val_snoc,Int.pow_succ]
   omega
theorem val_small (l:Bs) (h:l.all isDig=true) (hl:l.length≤9):0≤val l∧val l<1000000000:=by
 have h1:=val_bd l h
 have h2:(10:Int)^l.length≤10^9:=by
  have:(10:Nat)^l.length≤10^9:=Nat.pow_le_pow_right (by omega) hl
  exact_mod_cast this
 have e:(10:Int)^9=1000000000:=by decide
 omega
theorem okN_iff (l:Bs):okN l=true↔1≤(digs l).length∧(digs l).length≤9∧(digs l).all isDig=true∧¬((digs l).head? =some 48∧1<l.length):=by
 simp only[okN,Bool.and_eq_true,decide_eq_true_eq,Bool.not_eq_true',Bool.and_eq_false_iff,decide_eq_false_iff_not]
 constructor
 ·rintro⟨⟨⟨h1,h2⟩,h3⟩,h4⟩
  exact⟨h1,h2,h3,fun⟨a,b⟩=>by rcases h4 with h|h;exact h a;exact h b⟩
 ·rintro⟨h1,h2,h3,h4⟩
  refine⟨⟨⟨h1,h2⟩,h3⟩,?_⟩
  by_cases h:(digs l).head? =some 48
  ·exact .inr (fun h'=>h4 ⟨h,h'⟩)
  ·exact .inl h
theorem num_bd (l:Bs): -1000000000<num l∧num l<1000000000:=by
 unfold num
 split
 ·rename_i h
  rw[okN_iff]at h
  have:=val_small _ h.2.2.1 h.2.1
  split<;>omega
 ·omega
theorem digs_len (l:Bs):(digs l).length=l.length-offN l:=by simp[digs]
theorem digit_byte (n:Nat):byteI (digit n)=48+(n%10:Nat):=by
 have:(digit n).toNat=48+n%10:=by unfold digit;rw[UInt8.toNat_ofNat'];omega
 unfold byteI;rw[this];omega
theorem isDig_digit (n:Nat):isDig (digit n)=true:=by
 rw[isDig_iff,digit_byte];omega
theorem dec_digs (n:Nat):(dec n).all isDig=true∧val (dec n)=n:=by
 induction n using Nat.strongRecOn with
 |ind n ih=>
  rw[dec]
  split
  ·refine⟨by simp[isDig_digit],?_⟩
   have:=val_snoc [] (digit n)
   rw[List.nil_append]at this
   rw[this,digit_byte]
   simp[val];omega
  ·obtain⟨h1,h2⟩:=ih (n/10) (by omega)
   refine⟨by rw[List.all_append,h1];simp[isDig_digit],?_⟩
   rw[val_snoc,h2,digit_byte]
   omega
theorem digit_of {b:UInt8} (n:Nat) (hn:((n%10:Nat):Int)=byteI b-48):digit n=b:=by
 apply UInt8.toNat_inj.1
 have:=digit_byte n
 unfold byteI at this hn
 omega
theorem dec_val (l:Bs) (h:l.all isDig=true) (h0:l≠[]) (hz:l.head? =some 48→l.length=1):dec (val l).toNat=l:=by
 induction hn:l.length generalizing l with
 |zero=>exact absurd (List.eq_nil_of_length_eq_zero hn) h0
 |succ n ih=>
  rcases List.eq_nil_or_concat l with rfl|⟨m,b,rfl⟩
  ·simp at hn
  ·rw[List.concat_eq_append]at h hn h0 hz⊢
   rw[List.all_append,Bool.and_eq_true]at h
   have hb:isDig b=true:=by simpa using h.2
   have hb':=(isDig_iff b).1 hb
   by_cases hm:m=[]
   ·subst hm
    have hv:val ([]++[b])=byteI b-48:=by rw[val_snoc];simp[val]
    rw[hv,dec,if_pos (by omega),digit_of (b:=b) _ (by omega)]
    rfl
   ·have hz':m.head? =some 48→m.length=1:=by
     intro e
     cases m with
     |nil=>exact absurd rfl hm
     |cons c m=>
      have:=hz (by simpa using e)
      simp at this
    have hpos:m.head? ≠some 48:=by
     intro e
     cases m with
     |nil=>exact absurd rfl hm
     |cons c m=>
      have:=hz (by simpa using e)
      simp at this
    have h1:=ih m h.1 hm hz' (by simpa using hn)
    have h2:=val_bd m h.1
    have h3:val m≠0:=by
     intro e
     rw[e]at h1
     have:dec (0:Int).toNat=[48]:=dec_zero
     rw[this]at h1
     rw[←h1]at hpos
     exact hpos rfl
    rw[val_snoc,dec,if_neg (by omega)]
    have e1:(val m*10+(byteI b-48)).toNat/10=(val m).toNat:=by omega
    rw[e1,h1,digit_of (b:=b) _ (by omega)]
theorem dec_ne_nil (n:Nat):dec n≠[]:=by
 rw[dec];split<;>simp
theorem dec_pos_head (n:Nat) (h:0<n):(dec n).head? ≠some 48:=by
 induction n using Nat.strongRecOn with
 |ind n ih=>
  rw[dec]
  split
  ·intro e
   have e2:digit n=48:=by simpa using e
   have:=digit_byte n
   rw[e2]at this
   have h48:byteI 48=48:=rfl
   omega
  ·have:=ih (n/10) (by omega) (by omega)
   cases hd:dec (n/10)with
   |nil=>exact absurd hd (dec_ne_nil _)
   |cons c l=>rw[hd]at this;simpa using this
theorem neg_dec (n:Nat):neg (dec n)=false:=by
 cases hd:dec n with
 |nil=>exact absurd hd (dec_ne_nil _)
 |cons c l=>
  have h:=(dec_digs n).1
  rw[hd,List.all_cons,Bool.and_eq_true]at h
  have h1:=(isDig_iff c).1 h.1
  unfold neg
  by_cases e:c=45
  ·subst e
   have:byteI 45=45:=rfl
   omega
  ·simpa using e
theorem read_dec (n:Nat) (h:n<1000000000):okN (dec n)=true∧num (dec n)=n:=by
 have hn:=neg_dec n
 have hd:digs (dec n)=dec n:=by simp[digs,offN,hn]
 have hl:=dec_len 8 n (by omega)
 have ok:okN (dec n)=true:=by
  rw[okN_iff,hd]
  refine⟨?_,hl,(dec_digs n).1,?_⟩
  ·have:=dec_ne_nil n
   have:=List.length_pos_iff.2 this
   omega
  ·rintro⟨e1,e2⟩
   by_cases h0:n=0
   ·subst h0
    rw[dec_zero]at e2
    simp at e2
   ·exact dec_pos_head n (by omega) e1
 refine⟨ok,?_⟩
 unfold num
 rw[ok,hn,hd,(dec_digs n).2]
 simp
theorem read_back (l:Bs) (h:okN l=true) (h0:0≤num l):dec (num l).toNat=l:=by
 rw[okN_iff]at h
 have ok:okN l=true:=(okN_iff l).2 h
 obtain⟨h1,h2,h3,h4⟩:=h
 have hne:digs l≠[]:=by intro e;rw[e]at h1;simp at h1
 unfold num at h0⊢
 rw[if_pos ok]at h0⊢
 cases hng:neg l with
 |true=>
  exfalso
  rw[hng,if_pos rfl]at h0
  have hlen:1<l.length:=by
   have:=digs_len l
   simp only[offN,hng,if_true]at this
   omega
  have hz:(digs l).head? ≠some 48:=fun e=>h4 ⟨e,hlen⟩
  have hb:=val_bd _ h3
  have hv:val (digs l)=0:=by omega
  have:=dec_val (digs l) h3 hne (fun e=>absurd e hz)
  rw[hv]at this
  have e0:dec (0:Int).toNat=[48]:=dec_zero
  rw[e0]at this
  rw[←this]at hz
  exact hz rfl
 |false=>
  have hd:digs l=l:=by simp[digs,offN,hng]
  rw[hd]at h3 h4 hne⊢
  simp only[Bool.false_eq_true,if_false]
  exact dec_val l h3 hne (fun e=>by
   have:¬1<l.length:=fun h=>h4 ⟨e,h⟩
   have:=List.length_pos_iff.2 hne
   omega)
def intsB:List Int→Bs
 |[]=>[]
 |[x]=>decI x
 |x::y::l=>decI x++32::intsB (y::l)
theorem decI_pos {n:Int} (h:0≤n):decI n=dec n.toNat:=by
 unfold decI
 rw[if_neg (by omega)]
 congr 1
 omega
theorem splitB_word (c:UInt8) (a:Bs) (h:∀b∈a,b≠c):splitB c a=[a]:=by
 induction a with
 |nil=>rfl
 |cons b a ih=>rw[splitB,if_neg (h b (by simp)),ih (fun x hx=>h x (by simp[hx]))];rfl
def joinB (c:UInt8):List Bs→Bs
 |[]=>[]
 |[x]=>x
 |x::y::l=>x++c::joinB c (y::l)
theorem joinB_ahead (c:UInt8) (a:Bs) (l:List Bs) (h:l≠[]):joinB c (ahead a l)=a++joinB c l:=by
 cases l with
 |nil=>exact absurd rfl h
 |cons p ps=>cases ps<;>simp[ahead,joinB]
theorem joinB_split (c:UInt8) (s:Bs):joinB c (splitB c s)=s:=by
 induction s with
 |nil=>rfl
 |cons b t ih=>
  rw[splitB]
  split
  ·rename_i h
   cases hs:splitB c t with
   |nil=>exact absurd hs (splitB_ne c t)
   |cons p ps=>rw[joinB,←hs,ih,h];rfl
  ·rw[joinB_ahead c [b] _ (splitB_ne c t),ih];rfl
end Go.Proofs.YtflbcjgkdokhiaaGreatDoor
namespace Go.Proofs.YtflbcjgkdokhiaaGreatDoor
open Go.ChangeShapes Go.WideShapes Go.ChangeAt Go.RowKit
def byteV (l:Bs) (j:Nat) (h:j<l.length):Int:=((((⟨l.toArray⟩:ByteArray)[j]'(show j<(⟨l.toArray⟩:ByteArray).size from h)).toNat:Nat):Int)
theorem byteV_is (l:Bs) (j:Nat) (h:j<l.length):byteV l j h=byteI l[j]:=rfl
theorem neg_cons (b:UInt8) (t:Bs):neg (b::t)=decide (b=45):=by unfold neg;by_cases h:b=45<;>simp[h]
theorem neg_at (l:Bs) (h:0<l.length):neg l=decide (l[0]=45):=by
 cases l with
 |nil=>simp at h
 |cons b t=>exact neg_cons b t
theorem okN_short (l:Bs) (h:l.length-offN l<1):okN l=false:=by
 rw[←Bool.not_eq_true,okN_iff,digs_len];omega
theorem okN_long (l:Bs) (h:9<l.length-offN l):okN l=false:=by
 rw[←Bool.not_eq_true,okN_iff,digs_len];omega
theorem num_not {l:Bs} (h:okN l=false):num l=0:=by simp[num,h]
theorem digs_at (l:Bs) (j:Nat) (h0:offN l≤j) (h:j<l.length):∃h':j-offN l<(digs l).length,(digs l)[j-offN l]=l[j]:=by
 have hl:=digs_len l
 refine⟨by omega,?_⟩
 unfold digs
 rw[List.getElem_drop]
 congr 1
 omega
def RdInv (l:Bs) (j:Nat) (x:Int):Prop:=x=val ((digs l).take (j-offN l))∧((digs l).take (j-offN l)).all isDig=true
theorem RdInv.start (l:Bs):RdInv l (offN l) 0:=by simp[RdInv,val]
theorem RdInv.next {l:Bs} {j:Nat} {x:Int} (h:RdInv l j x) (h0:offN l≤j) (hj:j<l.length) (hd:isDig l[j]=true):RdInv l (j+1) (x*10+(byteI l[j]-48)):=by
 obtain⟨h1,h2⟩:=digs_at l j h0 hj
 unfold RdInv at h⊢
 rw[show j+1-offN l=j-offN l+1 by omega,take_snocB _ _ h1,val_snoc,List.all_append,h.2,h2,h.1]
 simp[hd]
theorem RdInv.bd {l:Bs} {j:Nat} {x:Int} (h:RdInv l j x) (hj:j-offN l≤9):0≤x∧x<1000000000:=by
 rw[h.1]
 exact val_small _ h.2 (by simp;omega)
theorem RdInv.bad {l:Bs} {j:Nat} (h0:offN l≤j) (hj:j<l.length) (hd:isDig l[j]=false):okN l=false:=by
 obtain⟨h1,h2⟩:=digs_at l j h0 hj
 rw[←Bool.not_eq_true,okN_iff]
 rintro⟨_,_,h3,_⟩
 have:=List.all_eq_true.1 h3 _ (List.getElem_mem h1)
 rw[h2,hd]at this
 cases this
theorem head_digs (l:Bs) (h:offN l<l.length):(digs l).head? =some l[offN l]:=by
 unfold digs
 rw[List.head?_drop]
 simp[h]
theorem RdInv.done {l:Bs} {x:Int} (h:RdInv l l.length x) (h1:1≤l.length-offN l) (h2:l.length-offN l≤9):okN l= !(decide ((digs l).head? =some 48)&&decide (1<l.length))∧x=val (digs l):=by
 have hl:=digs_len l
 unfold RdInv at h
 rw[←hl,List.take_length]at h
 refine⟨?_,h.1⟩
 unfold okN
 rw[h.2,hl]
 simp[h1,h2]
end Go.Proofs.YtflbcjgkdokhiaaGreatDoor
namespace Go.Proofs.YtflbcjgkdokhiaaGreatDoor
open Go.RowKit
end Go.Proofs.YtflbcjgkdokhiaaGreatDoor
namespace Go.Proofs.YtflbcjgkdokhiaaGreatDoor
open Go.RowKit
def kiI (k:Int):Bool:=inI k 1 6
def barsI (k:Int) (w:Bool):Bool:=kiI k&&(w||decide (k%2=0))
def allI (k:Int):Bool:=decide (k=5)||decide (k=6)
def mayI (k:Int) (w h r:Bool):Bool:=if k=0 then true else if kiI k=false then false else if h then true else if decide (3≤k)&&r then true else !barsI k w
theorem kinds (k:Int):k=0∨k=1∨k=2∨k=3∨k=4∨k=5∨k=6∨(kiI k=false∧k≠0∧k≠1∧k≠2∧k≠3∧k≠4∧k≠5∧k≠6):=by
 by_cases h:kiI k=true
 ·have:=(inI_iff k 1 6).1 h
  omega
 ·have h':kiI k=false:=by simpa using h
  have:¬(1≤k∧k≤6):=fun e=>h ((inI_iff k 1 6).2 e)
  by_cases h0:k=0
  ·exact .inl h0
  ·exact .inr (.inr (.inr (.inr (.inr (.inr (.inr ⟨h',by omega⟩))))))
theorem none_all (k:Int) (hk:kiI k=false):allI k=false:=by
 rcases kinds k with h|h|h|h|h|h|h|⟨_,h0,h1,h2,h3,h4,h5,h6⟩
 ·subst h;rfl
 all_goals first|(subst h;exact absurd hk (by decide))|simp[allI,h5,h6]
end Go.Proofs.YtflbcjgkdokhiaaGreatDoor
namespace Go.Proofs.YtflbcjgkdokhiaaGreatDoor
open Go.RowKit
structure Hd where
 ks:List Int
 kd:Int
 ho:Int
 tu:Int
def anyI (ks:List Int):Bool:=ks.any (fun k=>decide (k≠0))
def keysI (ks:List Int):Bool:=ks.all (fun k=>inI k 0 9999)
def regI (ks:List Int) (i:Int):Bool:=decide (ks.getD i.toNat 0≠0)
def Hd.mid (h:Hd):Bool:=if h.kd=0 then decide (h.ho= -1)else if allI h.kd then decide (h.ho= -1)&&anyI h.ks else kiI h.kd&&inI h.ho 0 3&&regI h.ks h.ho
def Hd.ok (h:Hd):Bool:=decide (h.ks.length=4)&&inI h.tu 0 1000000000&&keysI h.ks&&h.mid
def Hd.holds (h:Hd) (i:Int):Bool:=decide (h.kd≠0)&&(decide (h.ho=i)||(allI h.kd&&regI h.ks i))
def Hd.may (h:Hd) (i:Int) (w:Bool):Bool:=mayI h.kd w (h.holds i) (regI h.ks i)
def Hd.Reg (h:Hd) (i:Int):Bool:=h.ok&&inI i 0 3&&regI h.ks i
def Hd.Hol (h:Hd) (i:Int):Bool:=h.ok&&inI i 0 3&&h.holds i
def Hd.May (h:Hd) (i:Int) (w:Bool):Bool:=h.ok&&inI i 0 3&&h.may i w
def Hd.new:Hd:=⟨[0,0,0,0],0, -1,0⟩
theorem Hd.ok_len {h:Hd} (e:h.ok=true):h.ks.length=4:=by
 unfold Hd.ok at e
 simp only[Bool.and_eq_true,decide_eq_true_eq]at e
 exact e.1.1.1
theorem any_take (ks:List Int) (j:Nat) (h:j<ks.length) (h0:anyI (ks.take j)=false) (hx:ks.getD j 0=0):anyI (ks.take (j+1))=false:=by
 unfold anyI at*
 rw[List.take_succ_eq_append_getElem h,List.any_append,h0]
 have:ks[j]=0:=by simpa[h]using hx
 simp[this]
theorem any_at (ks:List Int) (j:Nat) (h:j<ks.length) (hx:ks.getD j 0≠0):anyI ks=true:=by
 unfold anyI
 rw[List.any_eq_true]
 exact⟨ks[j],List.getElem_mem h,by simpa[h]using hx⟩
theorem keys_take (ks:List Int) (j:Nat) (h:j<ks.length) (h0:keysI (ks.take j)=true) (hx:inI (ks.getD j 0) 0 9999=true):keysI (ks.take (j+1))=true:=by
 unfold keysI at*
 rw[List.take_succ_eq_append_getElem h,List.all_append,h0]
 have:inI ks[j] 0 9999=true:=by simpa[h]using hx
 simp[this]
theorem keys_not (ks:List Int) (j:Nat) (h:j<ks.length) (hx:inI (ks.getD j 0) 0 9999=false):keysI ks=false:=by
 unfold keysI
 rw[List.all_eq_false]
 exact⟨ks[j],List.getElem_mem h,by have:inI ks[j] 0 9999=false:=by{simpa[h]using hx};simp[this]⟩
end Go.Proofs.YtflbcjgkdokhiaaGreatDoor
