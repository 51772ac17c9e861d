/- How a number is read, byte by byte. -/
import Derived.Test.YthldeiojlllkdaaGreatDoorM1
import Derived.Test.YthldeiojlllkdaaGreatDoorM2
import Derived.Test.YthldeiojlllkdaaGreatDoorRows
import Derived.WalkKit
import Derived.ProofKit
import Derived.OpenShut
import Derived.Laws.Tables
import Derived.Laws.ResultCell
set_option maxRecDepth 20000
set_option maxHeartbeats 1000000
namespace Go.Proofs.YthldeiojlllkdaaGreatDoor
open Go.ChangeShapes Go.WideShapes Go.ChangeAt Go.RowKit
def bI (l:Bs) (j:Nat) (h:j<l.length):Int:=((((⟨l.toArray⟩:ByteArray)[j]'(show j<(⟨l.toArray⟩:ByteArray).size from h)).toNat:Nat):Int)
theorem jf (l:Bs) (j:Nat) (h:j<l.length):bI l j h=am l[j]:=rfl
theorem Bt (b:UInt8) (t:Bs):neg (b::t)=decide (b=45):=by unfold neg;by_cases h:b=45<;>simp[h]
theorem wY (l:Bs) (h:0<l.length):neg l=decide (l[0]=45):=by
 cases l with
 |nil=>simp at h
 |cons b t=>exact Bt b t
theorem jz (l:Bs) (h:l.length-dW l<1):okN l=false:=by
 rw[<-Bool.not_eq_true,ib,je];omega
theorem oR (l:Bs) (h:9<l.length-dW l):okN l=false:=by
 rw[<-Bool.not_eq_true,ib,je];omega
theorem cC {l:Bs} (h:okN l=false):num l=0:=by simp[num,h]
theorem yi (l:Bs) (j:Nat) (h0:dW l<=j) (h:j<l.length):∃h':j-dW l<(ev l).length,(ev l)[j-dW l]=l[j]:=by
 have hl:=je l;refine⟨by omega,?_⟩;unfold ev;rw[List.getElem_drop]
 congr 1
 omega
def ce (l:Bs) (j:Nat) (x:Int):Prop:=x=val ((ev l).take (j-dW l))/\((ev l).take (j-dW l)).all dm=true
theorem ce.start (l:Bs):ce l (dW l) 0:=by simp[ce,val]
theorem ce.next {l:Bs} {j:Nat} {x:Int} (h:ce l j x) (h0:dW l<=j) (hj:j<l.length) (hd:dm l[j]=true):ce l (j+1) (x*10+(am l[j]-48)):=by
 obtain⟨h1,h2⟩:=yi l j h0 hj;unfold ce at h⊢;rw[show j+1-dW l=j-dW l+1 by omega,fP _ _ h1,iy,List.all_append,h.2,h2,h.1];simp[hd]
theorem ce.bd {l:Bs} {j:Nat} {x:Int} (h:ce l j x) (hj:j-dW l<=9):0<=x/\x<1000000000:=by
 rw[h.1];exact qB _ h.2 (by simp;omega)
theorem ce.bad {l:Bs} {j:Nat} (h0:dW l<=j) (hj:j<l.length) (hd:dm l[j]=false):okN l=false:=by
 obtain⟨h1,h2⟩:=yi l j h0 hj;rw[<-Bool.not_eq_true,ib];rintro⟨_,_,h3,_⟩;have:=List.all_eq_true.1 h3 _ (List.getElem_mem h1);rw[h2,hd]at this;cases this
theorem jA (l:Bs) (h:dW l<l.length):(ev l).head? =some l[dW l]:=by
 unfold ev;rw[List.head?_drop];simp[h]
theorem ce.done {l:Bs} {x:Int} (h:ce l l.length x) (h1:1<=l.length-dW l) (h2:l.length-dW l<=9):okN l= !(decide ((ev l).head? =some 48)&&decide (1<l.length))/\x=val (ev l):=by
 have hl:=je l;unfold ce at h;rw[<-hl,List.take_length]at h;refine⟨?_,h.1⟩;unfold okN;rw[h.2,hl];simp[h1,h2]
section
open Go.RowKit
end
section
open Go.RowKit
def kiI (k:Int):Bool:=inI k 1 6
def yj (k:Int) (w:Bool):Bool:=kiI k&&(w||decide (k%2=0))
def bY (k:Int):Bool:=decide (k=5)||decide (k=6)
def kC (k:Int) (w h r:Bool):Bool:=if k=0 then true else if kiI k=false then false else if h then true else if decide (3<=k)&&r then true else !barsI k w
theorem kinds (k:Int):k=0∨k=1∨k=2∨k=3∨k=4∨k=5∨k=6∨(kiI k=false/\k≠0/\k≠1/\k≠2/\k≠3/\k≠4/\k≠5/\k≠6):=by
 by_cases h:kiI k=true
 ·have:=(aD k 1 6).1 h
  omega
 ·have h':kiI k=false:=by simpa using h
  have:¬(1<=k/\k<=6):=fun e=>h ((aD k 1 6).2 e)
  by_cases h0:k=0
  ·exact .inl h0
  ·exact .inr (.inr (.inr (.inr (.inr (.inr (.inr ⟨h',by omega⟩))))))
theorem mayI_holds (k:Int) (w r:Bool) (h:kiI k=true):kC k w true r=true:=by
 unfold kC;by_cases h0:k=0
 ·rw[if_pos h0]
 ·rw[if_neg h0,if_neg (by rw[h];decide),if_pos rfl]
theorem Bz (k:Int) (hk:kiI k=false):bY k=false:=by
 rcases kinds k with h|h|h|h|h|h|h|⟨_,h0,h1,h2,h3,h4,h5,h6⟩
 ·subst h;rfl
 all_goals first|(subst h;exact absurd hk (by decide))|simp[bY,h5,h6]
theorem BA (k:Int) (w h r:Bool) (h0:k≠0) (hk:kiI k=false):kC k w h r=false:=by simp[kC,h0,hk]
end
section
open Go.RowKit
structure Hd where
 ks:List Int
 kd:Int
 ho:Int
 tu:Int
def eD (ks:List Int):Bool:=ks.any (fun k=>decide (k≠0))
def ex (ks:List Int):Bool:=ks.all (fun k=>inI k 0 9999)
def dV (ks:List Int) (i:Int):Bool:=decide (ks.getD i.toNat 0≠0)
def Hd.mid (h:Hd):Bool:=if h.kd=0 then decide (h.ho= -1)else if bY h.kd then decide (h.ho= -1)&&eD h.ks else kiI h.kd&&inI h.ho 0 3&&dV h.ks h.ho
def Hd.ok (h:Hd):Bool:=decide (h.ks.length=4)&&inI h.tu 0 1000000000&&ex h.ks&&h.mid
def Hd.holds (h:Hd) (i:Int):Bool:=decide (h.kd≠0)&&(decide (h.ho=i)||(bY h.kd&&dV h.ks i))
def Hd.may (h:Hd) (i:Int) (w:Bool):Bool:=kC h.kd w (h.holds i) (dV h.ks i)
def Hd.Reg (h:Hd) (i:Int):Bool:=h.ok&&inI i 0 3&&dV h.ks i
def Hd.Hol (h:Hd) (i:Int):Bool:=h.ok&&inI i 0 3&&h.holds i
def Hd.May (h:Hd) (i:Int) (w:Bool):Bool:=h.ok&&inI i 0 3&&h.may i w
def Hd.new:Hd:=⟨[0,0,0,0],0, -1,0⟩
theorem Hd.ok_len {h:Hd} (e:h.ok=true):h.ks.length=4:=by
 unfold Hd.ok at e;simp only[Bool.and_eq_true,decide_eq_true_eq]at e;exact e.1.1.1
theorem AG (ks:List Int) (j:Nat) (h:j<ks.length) (h0:eD (ks.take j)=false) (hx:ks.getD j 0=0):eD (ks.take (j+1))=false:=by
 unfold eD at*;rw[List.take_succ_eq_append_getElem h,List.any_append,h0];have:ks[j]=0:=by simpa[h]using hx
 simp[this]
theorem rJ (ks:List Int) (j:Nat) (h:j<ks.length) (hx:ks.getD j 0≠0):eD ks=true:=by
 unfold eD;rw[List.any_eq_true];exact⟨ks[j],List.getElem_mem h,by simpa[h]using hx⟩
theorem qi (ks:List Int) (j:Nat) (h:j<ks.length) (h0:ex (ks.take j)=true) (hx:inI (ks.getD j 0) 0 9999=true):ex (ks.take (j+1))=true:=by
 unfold ex at*;rw[List.take_succ_eq_append_getElem h,List.all_append,h0];have:inI ks[j] 0 9999=true:=by simpa[h]using hx
 simp[this]
theorem tj (ks:List Int) (j:Nat) (h:j<ks.length) (hx:inI (ks.getD j 0) 0 9999=false):ex ks=false:=by
 unfold ex;rw[List.all_eq_false];exact⟨ks[j],List.getElem_mem h,by have:inI ks[j] 0 9999=false:=by{simpa[h]using hx};simp[this]⟩
end
section
open Go.RowKit
def cL (t:Int):Int:=if 1000000000<t+1 then 0 else t+1
def Hd.zero:Hd:=⟨[],0,0,0⟩
def Hd.free (h:Hd):Hd:=⟨h.ks,0, -1,h.tu⟩
def Hd.take (h:Hd) (i k:Int):Hd:=⟨h.ks,k,if bY k then-1 else i,h.tu⟩
def Hd.turn (h:Hd):Hd:=⟨h.ks,h.kd,h.ho,cL h.tu⟩
def Hd.key (h:Hd) (i key:Int):Hd:=⟨h.ks.set i.toNat key,h.kd,h.ho,h.tu⟩
def Hd.regd (h:Hd) (i key:Int):Hd:=if key=0/\(h.ho=i∨eD (h.ks.set i.toNat key)=false)then((h.key i key).turn).free else(h.key i key).turn
def Hd.register (h:Hd) (i key:Int):Hd×Int:=if h.ok&&inI i 0 3&&inI key 0 9999 then(h.regd i key,0)else(Hd.zero,2)
def Hd.resd (h:Hd) (i k:Int):Hd×Bool:=if dV h.ks i=false then(h,false)else if h.kd=0 then(h.take i k,true)else(h,decide (h.kd=k)&&(bY k||decide (h.ho=i)))
def told (r:Hd×Bool):Hd×Int:=(r.1,if r.2 then 0 else 1)
def Hd.reserve (h:Hd) (i k:Int):Hd×Int:=if h.ok&&inI i 0 3&&kiI k then told (h.resd i k)else(Hd.zero,2)
def Hd.reld (h:Hd) (i:Int):Hd×Bool:=if dV h.ks i=false then(h,false)else if h.holds i then(h.free,true)else(h,true)
def Hd.release (h:Hd) (i:Int):Hd×Int:=if h.ok&&inI i 0 3 then told (h.reld i)else(Hd.zero,2)
def Hd.clrd (h:Hd) (i:Int):Hd×Bool:=if dV h.ks i=false then(h,false)else(⟨[0,0,0,0],0, -1,cL h.tu⟩,true)
def Hd.clear (h:Hd) (i:Int):Hd×Int:=if h.ok&&inI i 0 3 then told (h.clrd i)else(Hd.zero,2)
def cz (ks:List Int) (i:Nat) (key:Int):Nat->List Int
 |0=>ks
 |j+1=>if j≠i/\ks.getD j 0=key then(cz ks i key j).set j 0 else cz ks i key j
def jV (ks:List Int) (i:Nat) (key:Int):Nat->Bool
 |0=>false
 |j+1=>jV ks i key j||(decide (j≠i)&&(decide (ks.getD j 0≠key)&&decide (ks.getD j 0≠0)))
def has (ks:List Int) (key:Int):Nat->Bool
 |0=>false
 |j+1=>has ks key j||decide (ks.getD j 0=key)
def Hd.alone (h:Hd) (key:Int):Bool:=decide (h.kd≠0)&&(!allI h.kd&&decide (h.ks.getD h.ho.toNat 0=key))
def Hd.pred (h:Hd) (i key k:Int):Hd×Bool:=
 if(dV h.ks i&&has h.ks key 4)=false then(h,false)else
 if(h.alone key||(bY h.kd&& !more h.ks i.toNat key 4))=true then((Hd.turn ⟨cz h.ks i.toNat key 4,h.kd,h.ho,h.tu⟩).take i k,true)
 else(Hd.turn ⟨cz h.ks i.toNat key 4,h.kd,h.ho,h.tu⟩,true)
theorem jW (ks:List Int) (i:Nat) (key:Int) (j:Nat):(cz ks i key j).length=ks.length:=by
 induction j with
 |zero=>rfl
 |succ j ih=>unfold cz;split<;>simp[ih]
theorem pV (ks:List Int) (i:Nat) (key:Int) (j m:Nat) (hm:j<=m):(cz ks i key j).getD m 0=ks.getD m 0:=by
 induction j with
 |zero=>rfl
 |succ j ih=>
  have:=ih (by omega);unfold cz;split
  ·rw[<-this]
   simp only[List.getD_eq_getElem?_getD];rw[List.getElem?_set_ne (by omega)]
  ·exact this
def Hd.preempt (h:Hd) (i key k:Int):Hd×Int:=if h.ok&&inI i 0 3&&inI key 1 9999&&kiI k then told (h.pred i key k)else(Hd.zero,2)
theorem Hd.ok_all {h:Hd} (e:h.ok=true):h.ks.length=4/\(0<=h.tu/\h.tu<=1000000000)/\ex h.ks=true/\h.mid=true:=by
 unfold Hd.ok at e;simp only[Bool.and_eq_true,decide_eq_true_eq]at e;exact⟨e.1.1.1,(aD _ _ _).1 e.1.1.2,e.1.2,e.2⟩
theorem sF (t:Int) (h0:0<=t) (h1:t<=1000000000):0<=cL t/\cL t<=1000000000:=by
 unfold cL;split<;>omega
end
section
open Go.RowKit
def Hd.keysN (h:Hd):List Int:=h.tu::h.ks.filter (fun k=>decide (k≠0))
def Hd.holdN (h:Hd):List Int:=[h.tu,h.kd,if 0<=h.ho then h.ks.getD h.ho.toNat 0 else 0]
def Hd.showN (h:Hd):List Int:=h.ks++[h.kd,h.ho,h.tu]
def Hd.keysT (h:Hd):Bs:=if h.ok then ef h.keysN else[]
def Hd.holdT (h:Hd):Bs:=if h.ok then ef h.holdN else[]
theorem Hd.ok_nums {h:Hd} (e:h.ok=true):∀x∈h.showN, -10000000000<x/\x<10000000000:=by
 obtain⟨hl,ht,hk,hm⟩:=Hd.ok_all e;intro x hx;unfold Hd.showN at hx;rcases List.mem_append.1 hx with hx|hx
 ·have:=List.all_eq_true.1 hk x hx
  have:=(aD _ _ _).1 this;omega
 ·have hkd: -1<=h.kd/\h.kd<=100/\-1<=h.ho/\h.ho<=3:=by
   unfold Hd.mid at hm;split at hm
   ·rename_i c
    have:h.ho= -1:=by simpa using hm
    omega
   ·split at hm
    ·rename_i c
     have h1:h.ho= -1:=by simp only[Bool.and_eq_true,decide_eq_true_eq]at hm;exact hm.1
     have:h.kd=5∨h.kd=6:=by simpa[bY]using c
     omega
    ·simp only[Bool.and_eq_true]at hm
     have:=(aD _ _ _).1 (show inI h.kd 1 6=true from hm.1.1);have:=(aD _ _ _).1 hm.1.2;omega
  simp only[List.mem_cons,List.mem_nil_iff,or_false]at hx;rcases hx with rfl|rfl|rfl<;>omega
end
theorem ai (w:World) (g j:Nat) (x:Value):w.grownBy (w.setCell ⟨g,j,none⟩ x) (some g):=
 ⟨rfl,rfl,rfl,by simp,fun k _ hk=>heap_setCell_other w ⟨g,j,none⟩ k x (fun e=>hk (by simp[e]))⟩
theorem Own.keptLt {w w':World} {base g:Nat} {v:Value} {xs:List Int} (h:Own w base v xs) (hg:w.grownBy w' (some g)) (hb:g<base):Own w' base v xs:=
 h.kept hg (by
  by_cases e:v.ownBlock=none
  ·exact .inl e
  ·refine .inr fun e2=>?_
   have:=h.lt g e2;omega)
theorem Own.setLt {w:World} {base g:Nat} {v:Value} {xs:List Int} (h:Own w base v xs) (hb:g<base) (j:Nat) (x:Value):Own (w.setCell ⟨g,j,none⟩ x) base v xs:=h.keptLt (ai w g j x) hb
def szI (k:Int) (n:Nat):Int:=if(n:Int)<=k then k-n else-1
theorem pp (v:Value) (xs:List Int) (k:Int) (w:World) (h:ag w v xs) (h0:0<=k) (h1:k<=1048576):
  Calls Tryz.prog 43 #[v,.int .i64 k] w fun e w'=>e=.returned (.int .i64 (szI k xs.length))/\w'=w:=by
 obtain⟨ao,cap,rfl,hl,⟨hm, -⟩, -⟩:=h;unfold maxLen at hm;obtain⟨n,hn⟩:=eX xs.length
 rw[<-hn]at hl⊢;clear hn;by_cases hk:(n:Int)<=k
 ·have e:szI k n=k-n:=by simp[szI,hk]
  rw[e];clear e;go_enter Tryz.func43,Tryz.ntmps43;go_wp2;go_ret;exact⟨rfl,rfl⟩
 ·have e:szI k n= -1:=by simp[szI,hk]
  rw[e];clear e;go_enter Tryz.func43,Tryz.ntmps43;go_wp2;go_ret;exact⟨rfl,rfl⟩
theorem D8 (s i:Int) (w:World):
  Calls Tryz.prog 164 #[.int .i64 s,.int .i64 i] w fun e w'=>e=.returned (.bool (inB s i))/\w'=w:=by
 by_cases h0:0<=s
 ·by_cases h1:s<256
  ·by_cases h2:0<=i
   ·by_cases h3:i<8
    ·go_enter Tryz.func164,Tryz.ntmps164
     go_wp2;go_ret;exact⟨af (Ee h0 h1 h2 h3),rfl⟩
    ·have e:=gV (s:=s) (i:=i) (by omega)
     rw[e];clear e;go_enter Tryz.func164,Tryz.ntmps164;go_wp2;go_ret;exact⟨rfl,rfl⟩
   ·have e:=gV (s:=s) (i:=i) (by omega)
    rw[e];clear e;go_enter Tryz.func164,Tryz.ntmps164;go_wp2;go_ret;exact⟨rfl,rfl⟩
  ·have e:=qV (s:=s) (i:=i) (by omega)
   rw[e];clear e;go_enter Tryz.func164,Tryz.ntmps164;go_wp2;go_ret;exact⟨rfl,rfl⟩
 ·have e:=qV (s:=s) (i:=i) (by omega)
  rw[e];clear e;go_enter Tryz.func164,Tryz.ntmps164;go_wp2;go_ret;exact⟨rfl,rfl⟩
theorem qF {x:Int} (h0:0<=x) (h1:x<=9999):bM x=true:=by simp[bM,h0,h1]
theorem lC {x:Int} (h:x<0∨9999<x):bM x=false:=by simp[bM];omega
theorem jl (x:Int) (w:World):
  Calls Tryz.prog 125 #[.int .i64 x] w fun e w'=>e=.returned (.bool (bM x))/\w'=w:=by
 by_cases h0:0<=x
 ·by_cases h1:x<=9999
  ·rw[qF h0 h1]
   go_enter Tryz.func125,Tryz.ntmps125;go_wp2;go_ret;exact⟨af (by simp),rfl⟩
  ·rw[lC (by omega)]
   go_enter Tryz.func125,Tryz.ntmps125;go_wp2;go_ret;exact⟨af (by simp),rfl⟩
 ·rw[lC (by omega)]
  go_enter Tryz.func125,Tryz.ntmps125;go_wp2;go_ret;exact⟨af (by simp),rfl⟩
theorem ag.cellOf {w:World} {ao:Option Addr} {n cap:Nat} {xs:List Int} (h:ag w (.slice ao n cap) xs):n=xs.length/\n<=cap/\cap<=maxLen/\∀j,j<n->∃b off,ao=some ⟨b,off,none⟩/\b<w.heap.size/\w.cell? ⟨b,off+j,none⟩=some (.int .i64 (xs.getD j 0)):=by
 obtain⟨ao',cap',e,hl,⟨hm, -⟩,hc⟩:=h;simp only[Value.slice.injEq]at e;obtain⟨rfl,rfl,rfl⟩:=e;refine⟨rfl,hl,hm,fun j hj=>?_⟩;rcases hc with e|⟨b,off,e,h4⟩
 ·rw[e]at hj;simp at hj
 ·exact⟨b,off,e,World.block_lt_of_cell? w _ (h4 j hj),h4 j hj⟩
theorem ag.form {w:World} {v:Value} {xs:List Int} (h:ag w v xs):∃ao cap,v=.slice ao xs.length cap:=by
 obtain⟨ao,cap,e,_⟩:=h;exact⟨ao,cap,e⟩
theorem eH {a b:List Int} (h:au a b=true):aJ a=true/\aJ b=true/\a.length=b.length:=by
 simpa[au]using h
def apart (u v:Value):Prop:=(u.ownBlock=none∨u.ownBlock≠v.ownBlock)/\(v.ownBlock=none∨v.ownBlock≠u.ownBlock)
def aS (w:World) (base:Nat) (u v:Value) (xs ys:List Int):Prop:=Own w base u xs/\Own w base v ys/\apart u v
def cK (w:World) (g:Nat) (t:TypeId) (u v:Value):Prop:=w.heap[g]?=some (.cells #[u,v] t (0,0))
theorem cK.lt {w:World} {g:Nat} {t:TypeId} {u v:Value} (h:cK w g t u v):g<w.heap.size:=by
 rcases Nat.lt_or_ge g w.heap.size with hlt|hge
 ·exact hlt
 ·rw[cK,Array.getElem?_eq_none hge]at h;cases h
theorem cK.new (w:World) (t:TypeId) (u v:Value):cK (w.alloc (.cells #[u,v] t)) w.heap.size t u v:=heap_alloc_new w _
theorem cK.below {w w':World} {g:Nat} {t:TypeId} {u v:Value} (h:cK w g t u v) (hb:bB w w'):cK w' g t u v:=(hb.block g h.lt).trans h
theorem cK.kept {w w':World} {g:Nat} {t:TypeId} {u v:Value} {row:Option Nat} (h:cK w g t u v) (hg:w.grownBy w' row) (hne:some g≠row):cK w' g t u v:=(hg.block g h.lt hne).trans h
theorem cK.alloc {w:World} {g:Nat} {t:TypeId} {u v:Value} (h:cK w g t u v) (o:Obj):cK (w.alloc o) g t u v:=(Below.heap_alloc w o g h.lt).trans h
theorem cK.cell0 {w:World} {g:Nat} {t:TypeId} {u v:Value} (h:cK w g t u v):w.cell? ⟨g,0,none⟩=some u:=by rw[cell_of_row w g 0 _ _ _ h];rfl
theorem cK.cell1 {w:World} {g:Nat} {t:TypeId} {u v:Value} (h:cK w g t u v):w.cell? ⟨g,1,none⟩=some v:=by rw[cell_of_row w g 1 _ _ _ h];rfl
theorem cK.frozen {w:World} {g:Nat} {t:TypeId} {u v:Value} (h:cK w g t u v) (j:Nat):w.frozen? ⟨g,j,none⟩=false:=frozen_of_row w g j _ _ h
theorem mv (w:World) (o:Obj) (row:Option Nat):w.grownBy (w.alloc o) row:=⟨rfl,rfl,rfl,by simp,fun k hk _=>Below.heap_alloc w o k hk⟩
theorem aZ (w:World) (o:Obj):bB w (w.alloc o):=bA
theorem vw (u v:Value) (xs ys:List Int) (k:Int) (w:World) (h:ag w u xs) (h':ag w v ys) (h0:0<=k) (h1:k<=1048576):
  Calls Tryz.prog 12 #[.agg #[u,v],.int .i64 k] w fun e w'=>e=.returned (.int .i64 (szI k (xs.length+ys.length)))/\bB w w':=by
 have hb:=aZ w (.cells #[u,v] 24);have c1:=pp u xs k _ (h.below hb (Nat.le_refl _)) h0 h1;by_cases hx:(xs.length:Int)<=k
 ·have e1:szI k xs.length=k-xs.length:=by simp[szI,hx]
  have c2:=pp v ys (k-xs.length) _ (h'.below hb (Nat.le_refl _)) (by omega) (by omega);rw[e1]at c1;by_cases hy:(ys.length:Int)<=k-xs.length
  ·have e2:szI (k-xs.length) ys.length=k-xs.length-ys.length:=by simp[szI,hy]
   have e3:Hid (szI k (xs.length+ys.length)=k-xs.length-ys.length):=by simp only[Hid,szI];rw[if_pos (by omega)];omega
   rw[e2]at c2;clear e1 e2;go_enter Tryz.func12,Tryz.ntmps12;go_wp2_with fail
   refine mo c1 ?_;go_wp2_with fail
   refine mo c2 ?_;go_wp2_with fail
   go_ret;exact⟨cX e3.out.symm,hb⟩
  ·have e2:szI (k-xs.length) ys.length= -1:=by simp[szI,hy]
   have e3:Hid (szI k (xs.length+ys.length)= -1):=by simp only[Hid,szI];rw[if_neg (by omega)]
   rw[e2]at c2;clear e1 e2;go_enter Tryz.func12,Tryz.ntmps12;go_wp2_with fail
   refine mo c1 ?_;go_wp2_with fail
   refine mo c2 ?_;go_wp2_with fail
   go_ret;exact⟨cX e3.out.symm,hb⟩
 ·have e1:szI k xs.length= -1:=by simp[szI,hx]
  have e3:Hid (szI k (xs.length+ys.length)= -1):=by simp only[Hid,szI];rw[if_neg (by omega)]
  rw[e1]at c1;clear e1;go_enter Tryz.func12,Tryz.ntmps12;go_wp2_with fail
  refine mo c1 ?_;go_wp2_with fail
  go_ret;exact⟨cX e3.out.symm,hb⟩
theorem Tryz.infoD:(Tryz.prog.info? 36).map (·.size)=some 2:=by kernel_rfl
theorem dt {w1 w2:World} {b1 b2:Nat} {v0 v1:Value} {xs ys:List Int} (h:Own w1 b1 v0 xs) (k:Own w2 b2 v1 ys) (hb:w1.heap.size<=b2):apart v0 v1:=⟨h.apart k hb,h.apart' k hb⟩
theorem Tryz.underD:∃fs,Tryz.prog.underlying 36=some (.struct fs):=⟨_,Tryz.underlying36⟩
theorem ag.one {w:World} {v:Value} {xs:List Int} (h:ag w v xs):v.oneCell'=true:=by
 obtain⟨ao,cap,rfl,_⟩:=h;rfl
theorem sQ {u v:Value} (hu:u.oneCell'=true) (hv:v.oneCell'=true):(#[u,v]:Array Value).all (·.oneCell')=true:=by simp[hu,hv]
theorem cK.set0 {w:World} {g:Nat} {t:TypeId} {u v:Value} (h:cK w g t u v) (x:Value):cK (w.setCell ⟨g,0,none⟩ x) g t x v:=heap_setCell_same w g 0 _ _ x h
theorem cK.set1 {w:World} {g:Nat} {t:TypeId} {u v:Value} (h:cK w g t u v) (x:Value):cK (w.setCell ⟨g,1,none⟩ x) g t u x:=heap_setCell_same w g 1 _ _ x h
theorem cK.other {w:World} {g:Nat} {t:TypeId} {u v:Value} (h:cK w g t u v) (a:Addr) (x:Value) (hne:g≠a.block):cK (w.setCell a x) g t u v:=(heap_setCell_other w a g x hne).trans h
theorem sR (w:World) (g:Nat) (cs:Array Value):w.grownBy (w.setRow g cs) (some g):=
 ⟨rfl,rfl,rfl,by simp,fun k _ hne=>_root_.Go.setRow_other w g k cs (fun e=>hne (by rw[e]))⟩
theorem iX {ops:Array Oper} {rest:List Oper} {o:Oper} {a:Act} {w:World} {Q:Exit->Act->World->Prop} (hgd:o.guard=none) (x:Operand) (ho:o.op=.load 36 x)
  (g:Nat) (hx:a.eval x=.pointer (some ⟨g,0,none⟩)) (u v:Value) (hr:cK w g 36 u v)
  (h:wpList Tryz.prog ops Q rest (a.put o.dst (.agg #[u,v])) w):wpList Tryz.prog ops Q (o::rest) a w:=by
 obtain⟨fs,hu⟩:=Tryz.underD;exact wpList_load_row hgd _ x ho g hx _ _ _ _ hr hu rfl Tryz.infoD h
theorem eZ {ops:Array Oper} {rest:List Oper} {o:Oper} {a:Act} {w:World} {Q:Exit->Act->World->Prop} (hgd:o.guard=none) (x y:Operand) (ho:o.op=.store 36 x y)
  (g:Nat) (u v u' v':Value) (hx:a.eval x=.pointer (some ⟨g,0,none⟩)) (hy:a.eval y=.agg #[u,v]) (hu:u.oneCell'=true) (hv:v.oneCell'=true) (hr:cK w g 36 u' v')
  (h:∀w',cK w' g 36 u v->w.grownBy w' (some g)->wpList Tryz.prog ops Q rest (a.put o.dst undef) w'):wpList Tryz.prog ops Q (o::rest) a w:=
 wpList_store_row hgd _ x y ho g #[u,v] hx hy _ _ hr Tryz.infoD rfl (sQ hu hv) (h _ (setRow_heap w g _ _ _ _ hr) (sR w g _))
theorem eJ {fn:Func} {p:Tmp} (h:fn.results=#[.cell p 36]) (tmps:Array Value) (w:World) (g:Nat) (u v:Value)
  (hp:tmps.getD p undef=.pointer (some ⟨g,0,none⟩)) (hr:cK w g 36 u v):(results fn tmps).run Tryz.prog w=.ok (.agg #[u,v]) w:=by
 obtain⟨fs,hu⟩:=Tryz.underD;exact results_cell_row h tmps w g _ _ _ _ hp hr hu rfl Tryz.infoD
theorem jL {fn:Func} {p q:Tmp} (h:fn.results=#[.cell p 36,.tmp q]) (tmps:Array Value) (w:World) (g:Nat) (u v x:Value)
  (hp:tmps.getD p undef=.pointer (some ⟨g,0,none⟩)) (hx:tmps.getD q undef=x) (hr:cK w g 36 u v):(results fn tmps).run Tryz.prog w=.ok (.tuple #[.agg #[u,v],x]) w:=by
 obtain⟨fs,hu⟩:=Tryz.underD;rw[results_cell_tmp h,hp,hx];simp only[asAddr,Sem.run_pure,Result.andThen_ok];rw[run_loadVar_row w g _ _ _ _ _ hr hu rfl Tryz.infoD];rfl
theorem vx (u v:Value) (xs ys:List Int) (w:World) (h:ag w u xs) (h':ag w v ys) (gx:xs.length<=1099511627776) (gy:ys.length<=1099511627776):
  Calls Tryz.prog 19 #[.agg #[u,v]] w fun e w'=>∃a b,e=.returned (.agg #[a,b])/\aS w' w.heap.size a b xs ys/\bB w w':=by
 have HR:Hid (ag w u xs/\ag w v ys):=⟨h,h'⟩
 clear h h';obtain⟨w3,hw3⟩:=eX (((w.alloc (.cells #[u,v] 24)).alloc (.cells #[.slice none 0 0,.slice none 0 0] 36)).alloc (.cells #[.slice none 0 0,.slice none 0 0] 36))
 have p0:cK w3 w.heap.size 24 u v:=by rw[hw3];exact((cK.new w _ u v).alloc _).alloc _
 have p1:cK w3 (w.heap.size+1) 36 (.slice none 0 0) (.slice none 0 0):=by rw[hw3];have:=(cK.new (w.alloc (.cells #[u,v] 24)) 36 (.slice none 0 0) (.slice none 0 0)).alloc (.cells #[.slice none 0 0,.slice none 0 0] 36);simpa using this
 have p2:cK w3 (w.heap.size+1+1) 36 (.slice none 0 0) (.slice none 0 0):=by rw[hw3];have:=cK.new ((w.alloc (.cells #[u,v] 24)).alloc (.cells #[.slice none 0 0,.slice none 0 0] 36)) 36 (.slice none 0 0) (.slice none 0 0);simpa using this
 have b3:bB w w3:=by rw[hw3];exact(bA.alloc (by simp) _).alloc (by simp;omega) _
 have hs3:w3.heap.size=w.heap.size+3:=by rw[hw3];simp
 go_enter Tryz.func19,Tryz.ntmps19;go_wp2_with fail
 rw[<-hw3];clear hw3;refine(oL u xs _ (HR.out.1.below b3 (Nat.le_refl _)) gx).mono ?_;rintro e w4 ⟨a,rfl,o4,b4⟩;have hs4:=b4.size;replace p0:=p0.below b4;replace p1:=p1.below b4;replace p2:=p2.below b4;replace b4:=b3.trans (b4.mono b3.size);obtain⟨ao,ca,hea⟩:=o4.reads.form;have c2:=p2.cell0;have f2:=p2.frozen 0;have c1:=p0.cell1;have q0:=p0.other ⟨w.heap.size+1+1,0,none⟩ a (by simp;omega);have q1:=p1.other ⟨w.heap.size+1+1,0,none⟩ a (by simp);have q2:=p2.set0 a;have b5:bB w (w4.setCell ⟨w.heap.size+1+1,0,none⟩ a):=b4.setCell (by simp;omega) _;have o5:=o4.setLt (g:=w.heap.size+1+1) (by omega) 0 a;subst hea;obtain⟨w5,hw5⟩:=eX (w4.setCell ⟨w.heap.size+1+1,0,none⟩ (.slice ao xs.length ca))
 have hs45:w5.heap.size=w4.heap.size:=by rw[hw5];simp
 rw[<-hw5]at q0 q1 q2 b5 o5;clear p0 p1 p2 o4 b3;have hne:w.heap.size≠w.heap.size+1+1:=by omega
 go_wp2_with fail
 rw[<-hw5];clear hw5 c1 c2 f2;refine(oL v ys _ (HR.out.2.below b5 (Nat.le_refl _)) gy).mono ?_;rintro e w6 ⟨b,rfl,o6,b6⟩;have hap:apart (.slice ao xs.length ca) b:=dt o5 o6 (Nat.le_refl _);replace q0:=q0.below b6;replace q1:=q1.below b6;replace q2:=q2.below b6;replace o5:=o5.below b6;have hs5:=b5.size;replace b6:=b5.trans (b6.mono b5.size);replace o6:=o6.mono (show w3.heap.size<=w5.heap.size by omega);obtain⟨bo,cb,heb⟩:=o6.reads.form;have c2:=q2.cell1;have f2:=q2.frozen 1;have r1:=q1.other ⟨w.heap.size+1+1,1,none⟩ b (by simp);have r2:=q2.set1 b;have b7:bB w (w6.setCell ⟨w.heap.size+1+1,1,none⟩ b):=b6.setCell (by simp;omega) _;replace o5:=o5.setLt (g:=w.heap.size+1+1) (by omega) 1 b;have o7:=o6.setLt (g:=w.heap.size+1+1) (by omega) 1 b;subst heb;obtain⟨w7,hw7⟩:=eX (w6.setCell ⟨w.heap.size+1+1,1,none⟩ (.slice bo ys.length cb))
 rw[<-hw7]at r1 r2 b7 o5 o7;clear q0 q1 q2 o6 b5 b6;go_wp2_with (first
  |(refine iX rfl _ rfl (w.heap.size+1+1) rfl _ _ (by rw[<-hw7];exact r2) ?_)
  |(refine eZ rfl _ _ rfl (w.heap.size+1) _ _ _ _ rfl rfl rfl rfl (by rw[<-hw7];exact r1) ?_;rw[<-hw7];intro w8 s1 g8))
 refine bodyPost_ret (eJ rfl _ _ (w.heap.size+1) _ _ rfl s1) rfl ?_;refine⟨_,_,rfl,⟨(o5.keptLt g8 (by omega)).mono (by omega),(o7.keptLt g8 (by omega)).mono (by omega),hap⟩,b7.grown g8 b7.size (fun k e=>by cases e;omega)⟩
theorem vy (u v a b:Value) (xs ys:List Int) (w:World) (hu:ag w u xs) (hv:ag w v ys) (ha:ag w a xs) (hb:ag w b ys) (gx:xs.length<=1099511627776) (gy:ys.length<=1099511627776):
  Calls Tryz.prog 30 #[.agg #[u,v],.agg #[a,b]] w fun e w'=>e=.returned (.bool true)/\bB w w':=by
 obtain⟨w2,hw2⟩:=eX ((w.alloc (.cells #[u,v] 36)).alloc (.cells #[a,b] 36))
 have p0:cK w2 w.heap.size 36 u v:=by rw[hw2];exact(cK.new w _ u v).alloc _
 have p1:cK w2 (w.heap.size+1) 36 a b:=by rw[hw2];have:=cK.new (w.alloc (.cells #[u,v] 36)) 36 a b;simpa using this
 have b2:bB w w2:=by rw[hw2];exactbA.alloc (by simp) _
 have c1:=oN u a xs xs w2 (hu.below b2 (Nat.le_refl _)) (ha.below b2 (Nat.le_refl _)) gx;rw[show decide (xs=xs)=true by simp]at c1;have c2:∀n,_:=fun n=>oN v b ys ys (w2.drewN n) (hv.below (below_drewN b2 n) (Nat.le_refl _)) (hb.below (below_drewN b2 n) (Nat.le_refl _)) gy
 rw[show decide (ys=ys)=true by simp]at c2;clear hu hv ha hb gx gy;go_enter Tryz.func30,Tryz.ntmps30;go_wp2_with fail
 rw[<-hw2];clear hw2;refine c1.mono ?_;rintro e w3 ⟨rfl,n3,hw3⟩;have d0:=p0.cell1;have d1:=p1.cell1;have e0:w3.cell? ⟨w.heap.size,1,none⟩=some v:=by rw[hw3];exact d0
 have e1:w3.cell? ⟨w.heap.size+1,1,none⟩=some b:=by rw[hw3];exact d1
 replace c2:=c2 n3;have HB:Hid (bB w w3):=by rw[hw3];exact below_drewN b2 n3
 rw[<-hw3]at c2;clear hw3 d0 d1 p0 p1 c1 b2;go_wp2_with fail
 refine c2.mono ?_;rintro e w4 ⟨rfl,n4,hw4⟩;have HC:Hid (bB w w4):=by rw[hw4];exact below_drewN HB.out n4
 clear hw4 HB e0 e1 c2;go_wp2_with fail
 go_ret;exact⟨rfl,HC.out⟩
def iB (w w':World) (u v:Value):Prop:=∃w1,w.grownBy w1 u.ownBlock/\w1.grownBy w' v.ownBlock
theorem Own.marked {w w':World} {base:Nat} {u v z:Value} {zs:List Int} (h:Own w base z zs) (m:iB w w' u v) (hu:z.ownBlock=none∨z.ownBlock≠u.ownBlock) (hv:z.ownBlock=none∨z.ownBlock≠v.ownBlock):Own w' base z zs:=by
 obtain⟨w1,g1,g2⟩:=m;exact(h.kept g1 hu).kept g2 hv
theorem rB (u v:Value) (xs ys:List Int) (k:Int) (w:World) (base:Nat) (ho:aS w base u v xs ys) (gx:xs.length<=1048576) (gy:ys.length<=1048576) (h0:0<=k) (h1:k<=1048576):
  Calls Tryz.prog 35 #[.agg #[u,v],.int .i64 k] w fun e w'=>e=.returned (.int .i64 (k+xs.length+ys.length))/\aS w' base u v (aP k xs.length) (aP (k+xs.length) ys.length)/\iB w w' u v:=by
 obtain⟨ou,ov,ha⟩:=ho;obtain⟨w1,hw1⟩:=eX (w.alloc (.cells #[u,v] 36))
 have p0:cK w1 w.heap.size 36 u v:=by rw[hw1];exact cK.new w _ u v
 have b1:bB w w1:=by rw[hw1];exact aZ w _
 have g1:w.grownBy w1 u.ownBlock:=by rw[hw1];exact mv w _ _
 have hnu:some w.heap.size≠u.ownBlock:=by
  intro e;have:=ou.lt _ e.symm;omega
 replace ou:=ou.below b1;replace ov:=ov.below b1;go_enter Tryz.func35,Tryz.ntmps35;go_wp2_with fail
 rw[<-hw1];clear hw1 b1;refine(jd u xs k w1 base ou (by omega) (by omega) (by omega)).mono ?_;rintro e w2 ⟨rfl,ou2,g2⟩;have e0:=(p0.kept g2 hnu).cell1;have ov2:=ov.kept g2 ha.2;have g12:=g1.trans g2;clear p0 ou ov g1 g2;go_wp2_with fail
 refine(jd v ys (k+xs.length) w2 base ov2 (by omega) (by omega) (by omega)).mono ?_;rintro e w3 ⟨rfl,ov3,g3⟩;have HC:Hid (aS w3 base u v (aP k xs.length) (aP (k+xs.length) ys.length)/\iB w w3 u v):=⟨⟨ou2.kept g3 ha.1,ov3,ha⟩,_,g12,g3⟩
 clear ou2 ov2 ov3 g12 g3 e0;go_wp2_with fail
 go_ret;exact⟨rfl,HC.out⟩
theorem rC (u v:Value) (n m:Nat) (k:Int) (w:World) (hu:ag w u (aP k n)) (hv:ag w v (aP (k+n) m)) (gx:n<=1048576) (gy:m<=1048576) (h0:0<=k) (h1:k<=1048576):
  Calls Tryz.prog 39 #[.agg #[u,v],.int .i64 k] w fun e w'=>e=.returned (.int .i64 (k+n+m))/\bB w w':=by
 have b1:bB w (w.alloc (.cells #[u,v] 36)):=aZ w _;have c1:=gN u n k _ (hu.below b1 (Nat.le_refl _)) (by omega) (by omega) (by omega);have c2:=gN v m (k+n) _ (hv.below b1 (Nat.le_refl _)) (by omega) (by omega) (by omega);clear hu hv;go_enter Tryz.func39,Tryz.ntmps39;go_wp2_with fail
 refine mo c1 ?_;go_wp2_with fail
 refine mo c2 ?_;go_wp2_with fail
 go_ret;exact⟨rfl,b1⟩
end Go.Proofs.YthldeiojlllkdaaGreatDoor
