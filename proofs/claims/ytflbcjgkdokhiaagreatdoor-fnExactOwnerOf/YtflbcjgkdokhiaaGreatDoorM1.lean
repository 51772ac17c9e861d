/- Sets of blocks as plain numbers: what is in one, what it is with one more or one less, its least, and that Go's bit operations on them are just that. -/
import Derived.WalkKit
import Derived.Test.YtflbcjgkdokhiaaGreatDoorRows
import Derived.ProofKit
import Derived.OpenShut
import Derived.WalkSmall
import Derived.WalkSpells
import Derived.BigQuiet
namespace Go.Proofs.YtflbcjgkdokhiaaGreatDoor
open Go.RowKit
theorem ret_int {k:IntKind} {a b:Int} (h:a=b):Ending.returned (.int k a)=.returned (.int k b):=by rw[h]
theorem ret_bool {a b:Bool} (h:a=b):Ending.returned (.bool a)=.returned (.bool b):=by rw[h]
def setOk (s:Int):Bool:=decide (0≤s)&&decide (s<256)
def itemOk (i:Int):Bool:=decide (0≤i)&&decide (i<8)
def inN (s i:Nat):Bool:=s/2^i%2==1
def inB (s i:Int):Bool:=setOk s&&itemOk i&&inN s.toNat i.toNat
def withI (s i:Int):Int:=if setOk s then(if itemOk i then((s.toNat|||2^i.toNat:Nat):Int)else s)else-1
def withoutI (s i:Int):Int:=if setOk s then(if itemOk i then(if inN s.toNat i.toNat then s-2^i.toNat else s)else s)else-1
def fullI (n:Int):Int:=if 0≤n∧n≤8 then 2^n.toNat-1 else-1
theorem setOk_pos {s:Int} (h0:0≤s) (h1:s<256):setOk s=true:=by simp[setOk,h0,h1]
theorem setOk_neg {s:Int} (h:s<0∨256≤s):setOk s=false:=by
 simp[setOk];omega
theorem nat_of {s:Int} (h0:0≤s):∃n:Nat,s=n:=⟨s.toNat,by omega⟩
end Go.Proofs.YtflbcjgkdokhiaaGreatDoor
set_option maxRecDepth 20000
set_option maxHeartbeats 1000000
namespace Go.Proofs.YtflbcjgkdokhiaaGreatDoor
open Go.ChangeShapes Go.WideShapes Go.ChangeAt Go.RowKit
abbrev Bs:=List UInt8
def S (l:Bs):Value:=.string ⟨l.toArray⟩
def byteI (b:UInt8):Int:=(b.toNat:Int)
def chk:Bs→Int:=fun l=>l.foldl (fun h b=>(31*h+byteI b+1)%999983) 19
theorem byteAt_is (l:Bs) (j:Nat) (h:j<l.length) (c:UInt8) (n:Int) (hc:byteI c=n):(((((⟨l.toArray⟩:ByteArray)[j]'(show j<(⟨l.toArray⟩:ByteArray).size from h)).toNat:Nat):Int)==n)=decide (l[j]=c):=by
 have e:((((⟨l.toArray⟩:ByteArray)[j]'(show j<(⟨l.toArray⟩:ByteArray).size from h)).toNat:Nat):Int)=byteI l[j]:=rfl
 rw[e,←hc]
 by_cases hb:l[j]=c
 ·simp[hb]
 ·have:byteI l[j]≠byteI c:=fun h=>hb (by
   unfold byteI at h
   exact UInt8.toNat_inj.1 (by omega))
  simp[hb,this]
theorem byteI_bd (b:UInt8):0≤byteI b∧byteI b<256:=by
 have:=b.toNat_lt
 unfold byteI;omega
theorem wrap_small {x:Int} (h0:0≤x) (h1:x<9223372036854775808):wrap64 x=x:=by
 unfold wrap64;omega
theorem chk_snoc (l:Bs) (b:UInt8):chk (l++[b])=(31*chk l+byteI b+1)%999983:=by
 simp[chk]
theorem chk_bd (l:Bs):0≤chk l∧chk l<999983:=by
 rcases List.eq_nil_or_concat l with rfl|⟨m,b,rfl⟩
 ·simp[chk]
 ·rw[List.concat_eq_append,chk_snoc];omega
theorem take_snocB (l:Bs) (j:Nat) (h:j<l.length):l.take (j+1)=l.take j++[l[j]]:=List.take_succ_eq_append_getElem h
theorem chk_step (l:Bs) (j:Nat) (h:j<l.length):(wrap64 (wrap64 (31*chk (l.take j)+wrap64 (byteI l[j]))+1)).tmod 999983=chk (l.take (j+1)):=by
 have h1:=chk_bd (l.take j)
 have h2:=byteI_bd l[j]
 rw[take_snocB l j h,chk_snoc]
 rw[wrap_small (x:=byteI l[j]) h2.1 (by omega),wrap_small (x:=31*chk (l.take j)+byteI l[j]) (by omega) (by omega),wrap_small (by omega) (by omega)]
 exact Int.tmod_eq_emod_of_nonneg (by omega)
theorem scheck_any (l:Bs) (w:World) (hl:l.length≤1099511627776):
  Calls Tryz.prog 94 #[S l] w fun e w'=>e=.returned (.int .i64 (chk l))∧w'=w:=by
 unfold S
 go_enter Tryz.func94,Tryz.ntmps94
 go_wp2
 go_loop [3,4] (fun h i=>∃j:Nat,j≤l.length∧i=.int .i64 j∧∃x:Int,h=.int .i64 x∧0≤x∧x<999983∧Hid (x=chk (l.take j))) (fun _ i=>l.length-(intOf i).toNat)
 case atStart=>exact⟨0,Nat.zero_le _,rfl,19,rfl,by omega,by omega,by simp[Hid,chk]⟩
 case round=>
  obtain⟨j,hj,rfl,x,rfl,hx0,hx1,HX⟩:=hrel
  by_cases hlt:(j:Int)<(l.length:Int)
  ·go_wp2
   go_round
   case rel=>
    have h1:j<l.length:=by omega
    have h2:=chk_bd (l.take (j+1))
    have h3:=chk_step l j h1
    rw[←HX.out]at h3
    exact⟨j+1,by omega,by go_num,_,congrArg (Value.int .i64) h3,h2.1,h2.2,rfl⟩
   case measure=>simp[intOf];omega
  ·go_wp2
   go_ret
   have e:j=l.length:=by omega
   have:=HX.out
   rw[e,List.take_length]at this
   exact⟨ret_int this,rfl⟩
def plainB (l:Bs):Bool:=l.all (fun b=>b !=10)&&decide (l.length≤300)
theorem plain_not {l:Bs} {j:Nat} (h:j<l.length) (e:l[j]=10):plainB l=false:=by
 have:l.all (fun b=>b !=10)=false:=by
  rw[List.all_eq_false]
  exact⟨l[j],List.getElem_mem h,by simp[e]⟩
 simp[plainB,this]
theorem splain_any (l:Bs) (w:World) (hl:l.length≤1099511627776):
  Calls Tryz.prog 113 #[S l] w fun e w'=>e=.returned (.bool (plainB l))∧w'=w:=by
 unfold S
 go_enter Tryz.func113,Tryz.ntmps113
 go_wp2
 go_loop [3] (fun i=>∃j:Nat,j≤l.length∧i=.int .i64 j∧Hid ((l.take j).all (fun b=>b !=10)=true)) (fun i=>l.length-(intOf i).toNat)
 case atStart=>exact⟨0,Nat.zero_le _,rfl,by simp[Hid]⟩
 case round=>
  obtain⟨j,hj,rfl,HX⟩:=hrel
  by_cases hlt:(j:Int)<(l.length:Int)
  ·have h1:j<l.length:=by omega
   have ht:=byteAt_is l j h1 10 10 rfl
   by_cases hb:l[j]=10
   ·have HN:Hid (plainB l=false):=plain_not h1 hb
    rw[show decide (l[j]=10)=true by simp[hb]]at ht
    clear hb HX
    go_wp2
    go_ret
    exact⟨ret_bool HN.out.symm,rfl⟩
   ·rw[show decide (l[j]=10)=false by simp[hb]]at ht
    have HS:Hid ((l.take (j+1)).all (fun b=>b !=10)=true):=by
     rw[Hid,take_snocB l j h1,List.all_append,HX.out];simp[hb]
    clear hb HX
    go_wp2
    go_round
    case rel=>exact⟨j+1,by omega,by go_num,HS⟩
    case measure=>simp[intOf];omega
  ·go_wp2
   go_ret
   have e:j=l.length:=by omega
   have:=HX.out
   rw[e,List.take_length]at this
   refine⟨ret_bool ?_,rfl⟩
   simp[plainB,this]
   omega
end Go.Proofs.YtflbcjgkdokhiaaGreatDoor
namespace Go.Proofs.YtflbcjgkdokhiaaGreatDoor
open Go.RowKit
structure Cm where
 o:Int
 p:Int
 a:Int
 b:Int
 k:Int
def Cm.zero:Cm:=⟨0,0,0,0,0⟩
def inI (x lo hi:Int):Bool:=decide (lo≤x)&&decide (x≤hi)
theorem inI_iff (x lo hi:Int):inI x lo hi=true↔lo≤x∧x≤hi:=by simp[inI]
def Cm.told (c:Cm):Bool:=inI c.o 1 12&&(decide (c.o≤4)||decide (c.p=0))&&(decide (c.o=2)||decide (c.o=3)||decide (c.o=6)||decide (c.o=10)||decide (c.a=0))&&(decide (c.o=3)||decide (c.o=10)||decide (c.b=0))&&(decide (c.o=7)||decide (c.o=10)||decide (c.k=0))
def Cm.fits (c:Cm):Bool:=
 if c.o=6 then inI c.a 0 9999
 else if c.o=10 then inI c.a 0 9999&&inI c.b 1 9999&&inI c.k 1 6
 else if c.o=7 then inI c.k 1 6
 else inI c.p 0 255&&inI c.a 0 65535&&inI c.b 0 65535
def Cm.ok (c:Cm):Bool:=c.told&&c.fits
def Cm.chg (c:Cm):Bool:=c.ok&&inI c.o 2 4
def Cm.Byt (c:Cm):Prop:=(0≤c.o∧c.o≤255)∧(0≤c.p∧c.p≤255)∧(0≤c.a∧c.a≤65535)∧(0≤c.b∧c.b≤65535)∧(0≤c.k∧c.k≤255)
theorem Cm.ok_byt {c:Cm} (h:c.ok=true):c.Byt:=by
 obtain⟨o,p,a,b,k⟩:=c
 unfold Cm.ok Cm.told Cm.fits at h
 dsimp only at h
 unfold Cm.Byt
 dsimp only
 simp only[Bool.and_eq_true,Bool.or_eq_true,decide_eq_true_eq,inI_iff]at h
 obtain⟨⟨⟨⟨⟨h1,h2⟩,h3⟩,h4⟩,h5⟩,h6⟩:=h
 split at h6
 ·rw[inI_iff]at h6;omega
 ·split at h6
  ·simp only[Bool.and_eq_true,inI_iff]at h6;omega
  ·split at h6
   ·rw[inI_iff]at h6;omega
   ·simp only[Bool.and_eq_true,inI_iff]at h6;omega
def bt (x:Int):UInt8:=UInt8.ofNat x.toNat
theorem byteI_bt {x:Int} (h0:0≤x) (h1:x≤255):byteI (bt x)=x:=by
 unfold byteI bt
 rw[UInt8.toNat_ofNat']
 omega
def sumI (l:Bs):Int:=255-(l.foldl (fun n b=>n+byteI b) 0)%256
def front (c:Cm):Bs:=[bt c.o,bt c.p,bt (c.a/256),bt (c.a%256),bt (c.b/256),bt (c.b%256),bt c.k]
def showC (c:Cm):Bs:=front c++[bt (sumI (front c))]
theorem sumI_bd (l:Bs):0≤sumI l∧sumI l≤255:=by unfold sumI;omega
def cmOf (l:Bs):Cm:=⟨byteI (l.getD 0 0),byteI (l.getD 1 0),byteI (l.getD 2 0)*256+byteI (l.getD 3 0),byteI (l.getD 4 0)*256+byteI (l.getD 5 0),byteI (l.getD 6 0)⟩
def codeC (l:Bs):Int:=
 if l.length<8 then 1
 else if 8<l.length then 2
 else if byteI (l.getD 7 0)≠sumI (l.take 7)then 3
 else if inI (cmOf l).o 1 12=false then 4
 else if(cmOf l).ok=false then 5
 else 0
def readC (l:Bs):Cm:=if codeC l=0 then cmOf l else Cm.zero
theorem sum_set (l:Bs) (j:Nat) (h:j<l.length) (x:UInt8):∀n:Int,(l.set j x).foldl (fun n b=>n+byteI b) n=l.foldl (fun n b=>n+byteI b) n+byteI x-byteI l[j]:=by
 induction l generalizing j with
 |nil=>simp at h
 |cons b l ih=>
  intro n
  cases j with
  |zero=>
   simp only[List.set_cons_zero,List.foldl_cons,List.getElem_cons_zero]
   have hs:∀(l:Bs) (m d:Int),l.foldl (fun n b=>n+byteI b) (m+d)=l.foldl (fun n b=>n+byteI b) m+d:=by
    intro l
    induction l with
    |nil=>intro m d;rfl
    |cons c l ih2=>intro m d;simp only[List.foldl_cons];rw[show m+d+byteI c=m+byteI c+d by omega,ih2]
   rw[show n+byteI x=n+byteI b+(byteI x-byteI b) by omega,hs]
   omega
  |succ j=>
   simp only[List.set_cons_succ,List.foldl_cons,List.getElem_cons_succ]
   exact ih j (by simpa using h) _
theorem byteI_inj {a b:UInt8} (h:byteI a=byteI b):a=b:=by
 unfold byteI at h
 exact UInt8.toNat_inj.1 (by omega)
theorem sumI_set (l:Bs) (j:Nat) (h:j<l.length) (x:UInt8) (hne:x≠l[j]):sumI (l.set j x)≠sumI l:=by
 have h1:=sum_set l j h x 0
 have h2:=byteI_bd x
 have h3:=byteI_bd l[j]
 have h4:byteI x≠byteI l[j]:=fun e=>hne (byteI_inj e)
 unfold sumI
 omega
theorem turned (c:Cm) (j:Nat) (hj:j<8) (x:UInt8) (hne:(showC c).set j x≠showC c):codeC ((showC c).set j x)=3:=by
 have hl:(showC c).length=8:=rfl
 have hl2:((showC c).set j x).length=8:=by rw[List.length_set,hl]
 have hx:x≠(showC c)[j]'(by omega):=fun e=>hne (by rw[e,List.set_getElem_self])
 have hlen:(front c).length=7:=rfl
 have key:byteI (((showC c).set j x).getD 7 0)≠sumI (((showC c).set j x).take 7):=by
  have hb:=sumI_bd (front c)
  by_cases h7:j=7
  ·subst h7
   have e1:((showC c).set 7 x).getD 7 0=x:=rfl
   have e2:((showC c).set 7 x).take 7=front c:=rfl
   rw[e1,e2]
   intro e
   apply hx
   apply byteI_inj
   rw[e]
   exact(byteI_bt hb.1 hb.2).symm
  ·have hj7:j<(front c).length:=by omega
   have e1:((showC c).set j x).getD 7 0=bt (sumI (front c)):=by
    rw[List.getD_eq_getElem?_getD,List.getElem?_set_ne h7]
    rfl
   have e2:((showC c).set j x).take 7=(front c).set j x:=by
    unfold showC
    rw[List.set_append_left _ _ hj7,List.take_append_of_le_length (by rw[List.length_set];omega),List.take_of_length_le (by rw[List.length_set];omega)]
   have e3:(showC c)[j]'(by omega)=(front c)[j]:=by
    unfold showC
    rw[List.getElem_append_left hj7]
   rw[e1,e2,byteI_bt hb.1 hb.2]
   exact fun e=>sumI_set (front c) j hj7 x (by rw[←e3];exact hx) e.symm
 unfold codeC
 rw[hl2,if_neg (by omega),if_neg (by omega),if_pos key]
end Go.Proofs.YtflbcjgkdokhiaaGreatDoor
namespace Go.Proofs.YtflbcjgkdokhiaaGreatDoor
def Cm.rd (c:Cm):Bool:=c.ok&&decide (c.o=1)
def Cm.wr (c:Cm):Bool:=c.ok&&inI c.o 2 5
end Go.Proofs.YtflbcjgkdokhiaaGreatDoor
