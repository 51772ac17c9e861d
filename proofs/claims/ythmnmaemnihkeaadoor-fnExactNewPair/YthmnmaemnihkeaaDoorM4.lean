/- How a number is read, byte by byte. -/
import Derived.Test.YthmnmaemnihkeaaDoorM3
import Derived.Test.YthmnmaemnihkeaaDoorM1
import Derived.Test.YthmnmaemnihkeaaDoorMem
import Derived.Test.YthmnmaemnihkeaaDoorRows
import Derived.WalkKit
import Derived.ProofKit
import Derived.OpenShut
import Derived.Test.YthmnmaemnihkeaaDoorM2
namespace Go.Proofs.YthmnmaemnihkeaaDoor
open Go.ChangeShapes Go.WideShapes Go.ChangeAt Go.RowKit
theorem digs_at (l:Bs) (j:Nat) (h0:offN l≤j) (h:j<l.length):∃h':j-offN l<(digs l).length,(digs l)[j-offN l]=l[j]:=by
 have hl:=digs_len l
 refine⟨by omega,?_⟩
 unfold digs
 rw[List.getElem_drop]
 congr 1
 omega
def RdInv (l:Bs) (j:Nat) (x:Int):Prop:=x=val ((digs l).take (j-offN l))∧((digs l).take (j-offN l)).all isDig=true
theorem RdInv.next {l:Bs} {j:Nat} {x:Int} (h:RdInv l j x) (h0:offN l≤j) (hj:j<l.length) (hd:isDig l[j]=true):RdInv l (j+1) (x*10+(byteI l[j]-48)):=by
 obtain⟨h1,h2⟩:=digs_at l j h0 hj
 unfold RdInv at h⊢
 rw[show j+1-offN l=j-offN l+1 by omega,take_snocB _ _ h1,val_snoc,List.all_append,h.2,h2,h.1]
 simp[hd]
theorem RdInv.bd {l:Bs} {j:Nat} {x:Int} (h:RdInv l j x) (hj:j-offN l≤9):0≤x∧x<1000000000:=by
 rw[h.1]
 exact val_small _ h.2 (by simp;omega)
theorem RdInv.done {l:Bs} {x:Int} (h:RdInv l l.length x) (h1:1≤l.length-offN l) (h2:l.length-offN l≤9):okN l= !(decide ((digs l).head? =some 48)&&decide (1<l.length))∧x=val (digs l):=by
 have hl:=digs_len l
 unfold RdInv at h
 rw[←hl,List.take_length]at h
 refine⟨?_,h.1⟩
 unfold okN
 rw[h.2,hl]
 simp[h1,h2]
end Go.Proofs.YthmnmaemnihkeaaDoor
namespace Go.Proofs.YthmnmaemnihkeaaDoor
open Go.RowKit
end Go.Proofs.YthmnmaemnihkeaaDoor
namespace Go.Proofs.YthmnmaemnihkeaaDoor
open Go.RowKit
def kiI (k:Int):Bool:=inI k 1 6
def barsI (k:Int) (w:Bool):Bool:=kiI k&&(w||decide (k%2=0))
def allI (k:Int):Bool:=decide (k=5)||decide (k=6)
def mayI (k:Int) (w h r:Bool):Bool:=if k=0 then true else if kiI k=false then false else if h then true else if decide (3≤k)&&r then true else !barsI k w
theorem kinds (k:Int):k=0∨k=1∨k=2∨k=3∨k=4∨k=5∨k=6∨(kiI k=false∧k≠0∧k≠1∧k≠2∧k≠3∧k≠4∧k≠5∧k≠6):=by
 by_cases h:kiI k=true
 ·have:=(inI_iff k 1 6).1 h
  omega
 ·have h':kiI k=false:=by simpa using h
  have:¬(1≤k∧k≤6):=fun e=>h ((inI_iff k 1 6).2 e)
  by_cases h0:k=0
  ·exact .inl h0
  ·exact .inr (.inr (.inr (.inr (.inr (.inr (.inr ⟨h',by omega⟩))))))
end Go.Proofs.YthmnmaemnihkeaaDoor
namespace Go.Proofs.YthmnmaemnihkeaaDoor
open Go.RowKit
structure Hd where
 ks:List Int
 kd:Int
 ho:Int
 tu:Int
def anyI (ks:List Int):Bool:=ks.any (fun k=>decide (k≠0))
def keysI (ks:List Int):Bool:=ks.all (fun k=>inI k 0 9999)
def regI (ks:List Int) (i:Int):Bool:=decide (ks.getD i.toNat 0≠0)
def Hd.mid (h:Hd):Bool:=if h.kd=0 then decide (h.ho= -1)else if allI h.kd then decide (h.ho= -1)&&anyI h.ks else kiI h.kd&&inI h.ho 0 3&&regI h.ks h.ho
def Hd.ok (h:Hd):Bool:=decide (h.ks.length=4)&&inI h.tu 0 1000000000&&keysI h.ks&&h.mid
def Hd.holds (h:Hd) (i:Int):Bool:=decide (h.kd≠0)&&(decide (h.ho=i)||(allI h.kd&&regI h.ks i))
def Hd.may (h:Hd) (i:Int) (w:Bool):Bool:=mayI h.kd w (h.holds i) (regI h.ks i)
def Hd.Reg (h:Hd) (i:Int):Bool:=h.ok&&inI i 0 3&&regI h.ks i
def Hd.Hol (h:Hd) (i:Int):Bool:=h.ok&&inI i 0 3&&h.holds i
def Hd.May (h:Hd) (i:Int) (w:Bool):Bool:=h.ok&&inI i 0 3&&h.may i w
def Hd.new:Hd:=⟨[0,0,0,0],0, -1,0⟩
theorem Hd.ok_len {h:Hd} (e:h.ok=true):h.ks.length=4:=by
 unfold Hd.ok at e
 simp only[Bool.and_eq_true,decide_eq_true_eq]at e
 exact e.1.1.1
theorem any_at (ks:List Int) (j:Nat) (h:j<ks.length) (hx:ks.getD j 0≠0):anyI ks=true:=by
 unfold anyI
 rw[List.any_eq_true]
 exact⟨ks[j],List.getElem_mem h,by simpa[h]using hx⟩
end Go.Proofs.YthmnmaemnihkeaaDoor
namespace Go.Proofs.YthmnmaemnihkeaaDoor
open Go.RowKit
def turnI (t:Int):Int:=if 1000000000<t+1 then 0 else t+1
def Hd.zero:Hd:=⟨[],0,0,0⟩
def Hd.free (h:Hd):Hd:=⟨h.ks,0, -1,h.tu⟩
def Hd.take (h:Hd) (i k:Int):Hd:=⟨h.ks,k,if allI k then-1 else i,h.tu⟩
def Hd.turn (h:Hd):Hd:=⟨h.ks,h.kd,h.ho,turnI h.tu⟩
def Hd.key (h:Hd) (i key:Int):Hd:=⟨h.ks.set i.toNat key,h.kd,h.ho,h.tu⟩
def Hd.regd (h:Hd) (i key:Int):Hd:=if key=0∧(h.ho=i∨anyI (h.ks.set i.toNat key)=false)then((h.key i key).turn).free else(h.key i key).turn
def Hd.resd (h:Hd) (i k:Int):Hd×Bool:=if regI h.ks i=false then(h,false)else if h.kd=0 then(h.take i k,true)else(h,decide (h.kd=k)&&(allI k||decide (h.ho=i)))
def told (r:Hd×Bool):Hd×Int:=(r.1,if r.2 then 0 else 1)
def Hd.reld (h:Hd) (i:Int):Hd×Bool:=if regI h.ks i=false then(h,false)else if h.holds i then(h.free,true)else(h,true)
def Hd.clrd (h:Hd) (i:Int):Hd×Bool:=if regI h.ks i=false then(h,false)else(⟨[0,0,0,0],0, -1,turnI h.tu⟩,true)
def Hd.clear (h:Hd) (i:Int):Hd×Int:=if h.ok&&inI i 0 3 then told (h.clrd i)else(Hd.zero,2)
def strike (ks:List Int) (i:Nat) (key:Int):Nat→List Int
 |0=>ks
 |j+1=>if j≠i∧ks.getD j 0=key then(strike ks i key j).set j 0 else strike ks i key j
def more (ks:List Int) (i:Nat) (key:Int):Nat→Bool
 |0=>false
 |j+1=>more ks i key j||(decide (j≠i)&&(decide (ks.getD j 0≠key)&&decide (ks.getD j 0≠0)))
def has (ks:List Int) (key:Int):Nat→Bool
 |0=>false
 |j+1=>has ks key j||decide (ks.getD j 0=key)
def Hd.alone (h:Hd) (key:Int):Bool:=decide (h.kd≠0)&&(!allI h.kd&&decide (h.ks.getD h.ho.toNat 0=key))
def Hd.pred (h:Hd) (i key k:Int):Hd×Bool:=
 if(regI h.ks i&&has h.ks key 4)=false then(h,false)else
 if(h.alone key||(allI h.kd&& !more h.ks i.toNat key 4))=true then((Hd.turn ⟨strike h.ks i.toNat key 4,h.kd,h.ho,h.tu⟩).take i k,true)
 else(Hd.turn ⟨strike h.ks i.toNat key 4,h.kd,h.ho,h.tu⟩,true)
theorem strike_len (ks:List Int) (i:Nat) (key:Int) (j:Nat):(strike ks i key j).length=ks.length:=by
 induction j with
 |zero=>rfl
 |succ j ih=>unfold strike;split<;>simp[ih]
theorem strike_at (ks:List Int) (i:Nat) (key:Int) (j m:Nat) (hm:j≤m):(strike ks i key j).getD m 0=ks.getD m 0:=by
 induction j with
 |zero=>rfl
 |succ j ih=>
  have:=ih (by omega)
  unfold strike
  split
  ·rw[←this]
   simp only[List.getD_eq_getElem?_getD]
   rw[List.getElem?_set_ne (by omega)]
  ·exact this
def Hd.preempt (h:Hd) (i key k:Int):Hd×Int:=if h.ok&&inI i 0 3&&inI key 1 9999&&kiI k then told (h.pred i key k)else(Hd.zero,2)
theorem turnI_in (t:Int) (h0:0≤t) (h1:t≤1000000000):0≤turnI t∧turnI t≤1000000000:=by
 unfold turnI;split<;>omega
end Go.Proofs.YthmnmaemnihkeaaDoor
namespace Go.Proofs.YthmnmaemnihkeaaDoor
open Go.RowKit
def Hd.keysN (h:Hd):List Int:=h.tu::h.ks.filter (fun k=>decide (k≠0))
def Hd.holdN (h:Hd):List Int:=[h.tu,h.kd,if 0≤h.ho then h.ks.getD h.ho.toNat 0 else 0]
def Hd.keysT (h:Hd):Bs:=if h.ok then intsB h.keysN else[]
def Hd.holdT (h:Hd):Bs:=if h.ok then intsB h.holdN else[]
end Go.Proofs.YthmnmaemnihkeaaDoor
namespace Go.Proofs.YthmnmaemnihkeaaDoor
open Go.ChangeShapes Go.WideShapes Go.ChangeAt Go.RowKit
theorem grownSet (w:World) (g j:Nat) (x:Value):w.grownBy (w.setCell ⟨g,j,none⟩ x) (some g):=
 ⟨rfl,rfl,rfl,by simp,fun k _ hk=>heap_setCell_other w ⟨g,j,none⟩ k x (fun e=>hk (by simp[e]))⟩
theorem Own.keptLt {w w':World} {base g:Nat} {v:Value} {xs:List Int} (h:Own w base v xs) (hg:w.grownBy w' (some g)) (hb:g<base):Own w' base v xs:=
 h.kept hg (by
  by_cases e:v.ownBlock=none
  ·exact .inl e
  ·refine .inr fun e2=>?_
   have:=h.lt g e2
   omega)
end Go.Proofs.YthmnmaemnihkeaaDoor
namespace Go.Proofs.YthmnmaemnihkeaaDoor
open Go.ChangeShapes Go.WideShapes Go.ChangeAt Go.RowKit
end Go.Proofs.YthmnmaemnihkeaaDoor
namespace Go.Proofs.YthmnmaemnihkeaaDoor
open Go.ChangeShapes Go.WideShapes Go.ChangeAt Go.RowKit
theorem Reads.form {w:World} {v:Value} {xs:List Int} (h:Reads w v xs):∃ao cap,v=.slice ao xs.length cap:=by
 obtain⟨ao,cap,e,_⟩:=h
 exact⟨ao,cap,e⟩
theorem bothOk_yes {a b:List Int} (h:bothOk a b=true):blocksOk a=true∧blocksOk b=true∧a.length=b.length:=by
 simpa[bothOk]using h
end Go.Proofs.YthmnmaemnihkeaaDoor
