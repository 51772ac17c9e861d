/- Sets of blocks as plain numbers: what is in one, what it is with one more or one less, its least, and that Go's bit operations on them are just that. -/
import Derived.WalkKit
import Derived.Test.YthmnmaemnihkeaaGreatDoorRows
import Derived.ProofKit
import Derived.OpenShut
import Derived.WalkSmall
import Derived.WalkSpells
import Derived.BigQuiet
import Derived.Laws.OwnMore
import Derived.Deep.AppendLies
import Derived.Deep.QuietTactic
namespace Go.Proofs.YthmnmaemnihkeaaGreatDoor
open Go.RowKit
theorem ret_int {k:IntKind} {a b:Int} (h:a=b):Ending.returned (.int k a)=.returned (.int k b):=by rw[h]
theorem ret_bool {a b:Bool} (h:a=b):Ending.returned (.bool a)=.returned (.bool b):=by rw[h]
def setOk (s:Int):Bool:=decide (0≤s)&&decide (s<256)
def itemOk (i:Int):Bool:=decide (0≤i)&&decide (i<8)
def inN (s i:Nat):Bool:=s/2^i%2==1
def inB (s i:Int):Bool:=setOk s&&itemOk i&&inN s.toNat i.toNat
def withI (s i:Int):Int:=if setOk s then(if itemOk i then((s.toNat|||2^i.toNat:Nat):Int)else s)else-1
def withoutI (s i:Int):Int:=if setOk s then(if itemOk i then(if inN s.toNat i.toNat then s-2^i.toNat else s)else s)else-1
def fullI (n:Int):Int:=if 0≤n∧n≤8 then 2^n.toNat-1 else-1
theorem setOk_pos {s:Int} (h0:0≤s) (h1:s<256):setOk s=true:=by simp[setOk,h0,h1]
theorem setOk_neg {s:Int} (h:s<0∨256≤s):setOk s=false:=by
 simp[setOk];omega
theorem nat_of {s:Int} (h0:0≤s):∃n:Nat,s=n:=⟨s.toNat,by omega⟩
end Go.Proofs.YthmnmaemnihkeaaGreatDoor
set_option maxRecDepth 20000
set_option maxHeartbeats 1000000
namespace Go.Proofs.YthmnmaemnihkeaaGreatDoor
open Go.ChangeShapes Go.WideShapes Go.ChangeAt Go.RowKit
abbrev Bs:=List UInt8
def S (l:Bs):Value:=.string ⟨l.toArray⟩
def byteI (b:UInt8):Int:=(b.toNat:Int)
def chk:Bs→Int:=fun l=>l.foldl (fun h b=>(31*h+byteI b+1)%999983) 19
theorem byteAt_is (l:Bs) (j:Nat) (h:j<l.length) (c:UInt8) (n:Int) (hc:byteI c=n):(((((⟨l.toArray⟩:ByteArray)[j]'(show j<(⟨l.toArray⟩:ByteArray).size from h)).toNat:Nat):Int)==n)=decide (l[j]=c):=by
 have e:((((⟨l.toArray⟩:ByteArray)[j]'(show j<(⟨l.toArray⟩:ByteArray).size from h)).toNat:Nat):Int)=byteI l[j]:=rfl
 rw[e,←hc]
 by_cases hb:l[j]=c
 ·simp[hb]
 ·have:byteI l[j]≠byteI c:=fun h=>hb (by
   unfold byteI at h
   exact UInt8.toNat_inj.1 (by omega))
  simp[hb,this]
theorem byteI_bd (b:UInt8):0≤byteI b∧byteI b<256:=by
 have:=b.toNat_lt
 unfold byteI;omega
theorem wrap_small {x:Int} (h0:0≤x) (h1:x<9223372036854775808):wrap64 x=x:=by
 unfold wrap64;omega
theorem chk_snoc (l:Bs) (b:UInt8):chk (l++[b])=(31*chk l+byteI b+1)%999983:=by
 simp[chk]
theorem chk_bd (l:Bs):0≤chk l∧chk l<999983:=by
 rcases List.eq_nil_or_concat l with rfl|⟨m,b,rfl⟩
 ·simp[chk]
 ·rw[List.concat_eq_append,chk_snoc];omega
theorem take_snocB (l:Bs) (j:Nat) (h:j<l.length):l.take (j+1)=l.take j++[l[j]]:=List.take_succ_eq_append_getElem h
theorem chk_step (l:Bs) (j:Nat) (h:j<l.length):(wrap64 (wrap64 (31*chk (l.take j)+wrap64 (byteI l[j]))+1)).tmod 999983=chk (l.take (j+1)):=by
 have h1:=chk_bd (l.take j)
 have h2:=byteI_bd l[j]
 rw[take_snocB l j h,chk_snoc]
 rw[wrap_small (x:=byteI l[j]) h2.1 (by omega),wrap_small (x:=31*chk (l.take j)+byteI l[j]) (by omega) (by omega),wrap_small (by omega) (by omega)]
 exact Int.tmod_eq_emod_of_nonneg (by omega)
theorem scheck_any (l:Bs) (w:World) (hl:l.length≤1099511627776):
  Calls Tryz.prog 116 #[S l] w fun e w'=>e=.returned (.int .i64 (chk l))∧w'=w:=by
 unfold S
 go_enter Tryz.func116,Tryz.ntmps116
 go_wp2
 go_loop [3,4] (fun h i=>∃j:Nat,j≤l.length∧i=.int .i64 j∧∃x:Int,h=.int .i64 x∧0≤x∧x<999983∧Hid (x=chk (l.take j))) (fun _ i=>l.length-(intOf i).toNat)
 case atStart=>exact⟨0,Nat.zero_le _,rfl,19,rfl,by omega,by omega,by simp[Hid,chk]⟩
 case round=>
  obtain⟨j,hj,rfl,x,rfl,hx0,hx1,HX⟩:=hrel
  by_cases hlt:(j:Int)<(l.length:Int)
  ·go_wp2
   go_round
   case rel=>
    have h1:j<l.length:=by omega
    have h2:=chk_bd (l.take (j+1))
    have h3:=chk_step l j h1
    rw[←HX.out]at h3
    exact⟨j+1,by omega,by go_num,_,congrArg (Value.int .i64) h3,h2.1,h2.2,rfl⟩
   case measure=>simp[intOf];omega
  ·go_wp2
   go_ret
   have e:j=l.length:=by omega
   have:=HX.out
   rw[e,List.take_length]at this
   exact⟨ret_int this,rfl⟩
def plainB (l:Bs):Bool:=l.all (fun b=>b !=10)&&decide (l.length≤300)
theorem plain_not {l:Bs} {j:Nat} (h:j<l.length) (e:l[j]=10):plainB l=false:=by
 have:l.all (fun b=>b !=10)=false:=by
  rw[List.all_eq_false]
  exact⟨l[j],List.getElem_mem h,by simp[e]⟩
 simp[plainB,this]
theorem splain_any (l:Bs) (w:World) (hl:l.length≤1099511627776):
  Calls Tryz.prog 135 #[S l] w fun e w'=>e=.returned (.bool (plainB l))∧w'=w:=by
 unfold S
 go_enter Tryz.func135,Tryz.ntmps135
 go_wp2
 go_loop [3] (fun i=>∃j:Nat,j≤l.length∧i=.int .i64 j∧Hid ((l.take j).all (fun b=>b !=10)=true)) (fun i=>l.length-(intOf i).toNat)
 case atStart=>exact⟨0,Nat.zero_le _,rfl,by simp[Hid]⟩
 case round=>
  obtain⟨j,hj,rfl,HX⟩:=hrel
  by_cases hlt:(j:Int)<(l.length:Int)
  ·have h1:j<l.length:=by omega
   have ht:=byteAt_is l j h1 10 10 rfl
   by_cases hb:l[j]=10
   ·have HN:Hid (plainB l=false):=plain_not h1 hb
    rw[show decide (l[j]=10)=true by simp[hb]]at ht
    clear hb HX
    go_wp2
    go_ret
    exact⟨ret_bool HN.out.symm,rfl⟩
   ·rw[show decide (l[j]=10)=false by simp[hb]]at ht
    have HS:Hid ((l.take (j+1)).all (fun b=>b !=10)=true):=by
     rw[Hid,take_snocB l j h1,List.all_append,HX.out];simp[hb]
    clear hb HX
    go_wp2
    go_round
    case rel=>exact⟨j+1,by omega,by go_num,HS⟩
    case measure=>simp[intOf];omega
  ·go_wp2
   go_ret
   have e:j=l.length:=by omega
   have:=HX.out
   rw[e,List.take_length]at this
   refine⟨ret_bool ?_,rfl⟩
   simp[plainB,this]
   omega
end Go.Proofs.YthmnmaemnihkeaaGreatDoor
namespace Go.Proofs.YthmnmaemnihkeaaGreatDoor
open Go.RowKit
structure Cm where
 o:Int
 p:Int
 a:Int
 b:Int
 k:Int
def Cm.zero:Cm:=⟨0,0,0,0,0⟩
def inI (x lo hi:Int):Bool:=decide (lo≤x)&&decide (x≤hi)
theorem inI_iff (x lo hi:Int):inI x lo hi=true↔lo≤x∧x≤hi:=by simp[inI]
def Cm.told (c:Cm):Bool:=inI c.o 1 12&&(decide (c.o≤4)||decide (c.p=0))&&(decide (c.o=2)||decide (c.o=3)||decide (c.o=6)||decide (c.o=10)||decide (c.a=0))&&(decide (c.o=3)||decide (c.o=10)||decide (c.b=0))&&(decide (c.o=7)||decide (c.o=10)||decide (c.k=0))
def Cm.fits (c:Cm):Bool:=
 if c.o=6 then inI c.a 0 9999
 else if c.o=10 then inI c.a 0 9999&&inI c.b 1 9999&&inI c.k 1 6
 else if c.o=7 then inI c.k 1 6
 else inI c.p 0 255&&inI c.a 0 65535&&inI c.b 0 65535
def Cm.ok (c:Cm):Bool:=c.told&&c.fits
def Cm.chg (c:Cm):Bool:=c.ok&&inI c.o 2 4
def Cm.Byt (c:Cm):Prop:=(0≤c.o∧c.o≤255)∧(0≤c.p∧c.p≤255)∧(0≤c.a∧c.a≤65535)∧(0≤c.b∧c.b≤65535)∧(0≤c.k∧c.k≤255)
theorem Cm.ok_byt {c:Cm} (h:c.ok=true):c.Byt:=by
 obtain⟨o,p,a,b,k⟩:=c
 unfold Cm.ok Cm.told Cm.fits at h
 dsimp only at h
 unfold Cm.Byt
 dsimp only
 simp only[Bool.and_eq_true,Bool.or_eq_true,decide_eq_true_eq,inI_iff]at h
 obtain⟨⟨⟨⟨⟨h1,h2⟩,h3⟩,h4⟩,h5⟩,h6⟩:=h
 split at h6
 ·rw[inI_iff]at h6;omega
 ·split at h6
  ·simp only[Bool.and_eq_true,inI_iff]at h6;omega
  ·split at h6
   ·rw[inI_iff]at h6;omega
   ·simp only[Bool.and_eq_true,inI_iff]at h6;omega
def bt (x:Int):UInt8:=UInt8.ofNat x.toNat
theorem byteI_bt {x:Int} (h0:0≤x) (h1:x≤255):byteI (bt x)=x:=by
 unfold byteI bt
 rw[UInt8.toNat_ofNat']
 omega
def sumI (l:Bs):Int:=255-(l.foldl (fun n b=>n+byteI b) 0)%256
def front (c:Cm):Bs:=[bt c.o,bt c.p,bt (c.a/256),bt (c.a%256),bt (c.b/256),bt (c.b%256),bt c.k]
def showC (c:Cm):Bs:=front c++[bt (sumI (front c))]
theorem sumI_bd (l:Bs):0≤sumI l∧sumI l≤255:=by unfold sumI;omega
def cmOf (l:Bs):Cm:=⟨byteI (l.getD 0 0),byteI (l.getD 1 0),byteI (l.getD 2 0)*256+byteI (l.getD 3 0),byteI (l.getD 4 0)*256+byteI (l.getD 5 0),byteI (l.getD 6 0)⟩
def codeC (l:Bs):Int:=
 if l.length<8 then 1
 else if 8<l.length then 2
 else if byteI (l.getD 7 0)≠sumI (l.take 7)then 3
 else if inI (cmOf l).o 1 12=false then 4
 else if(cmOf l).ok=false then 5
 else 0
def readC (l:Bs):Cm:=if codeC l=0 then cmOf l else Cm.zero
theorem sum_set (l:Bs) (j:Nat) (h:j<l.length) (x:UInt8):∀n:Int,(l.set j x).foldl (fun n b=>n+byteI b) n=l.foldl (fun n b=>n+byteI b) n+byteI x-byteI l[j]:=by
 induction l generalizing j with
 |nil=>simp at h
 |cons b l ih=>
  intro n
  cases j with
  |zero=>
   simp only[List.set_cons_zero,List.foldl_cons,List.getElem_cons_zero]
   have hs:∀(l:Bs) (m d:Int),l.foldl (fun n b=>n+byteI b) (m+d)=l.foldl (fun n b=>n+byteI b) m+d:=by
    intro l
    induction l with
    |nil=>intro m d;rfl
    |cons c l ih2=>intro m d;simp only[List.foldl_cons];rw[show m+d+byteI c=m+byteI c+d by omega,ih2]
   rw[show n+byteI x=n+byteI b+(byteI x-byteI b) by omega,hs]
   omega
  |succ j=>
   simp only[List.set_cons_succ,List.foldl_cons,List.getElem_cons_succ]
   exact ih j (by simpa using h) _
theorem byteI_inj {a b:UInt8} (h:byteI a=byteI b):a=b:=by
 unfold byteI at h
 exact UInt8.toNat_inj.1 (by omega)
theorem sumI_set (l:Bs) (j:Nat) (h:j<l.length) (x:UInt8) (hne:x≠l[j]):sumI (l.set j x)≠sumI l:=by
 have h1:=sum_set l j h x 0
 have h2:=byteI_bd x
 have h3:=byteI_bd l[j]
 have h4:byteI x≠byteI l[j]:=fun e=>hne (byteI_inj e)
 unfold sumI
 omega
theorem turned (c:Cm) (j:Nat) (hj:j<8) (x:UInt8) (hne:(showC c).set j x≠showC c):codeC ((showC c).set j x)=3:=by
 have hl:(showC c).length=8:=rfl
 have hl2:((showC c).set j x).length=8:=by rw[List.length_set,hl]
 have hx:x≠(showC c)[j]'(by omega):=fun e=>hne (by rw[e,List.set_getElem_self])
 have hlen:(front c).length=7:=rfl
 have key:byteI (((showC c).set j x).getD 7 0)≠sumI (((showC c).set j x).take 7):=by
  have hb:=sumI_bd (front c)
  by_cases h7:j=7
  ·subst h7
   have e1:((showC c).set 7 x).getD 7 0=x:=rfl
   have e2:((showC c).set 7 x).take 7=front c:=rfl
   rw[e1,e2]
   intro e
   apply hx
   apply byteI_inj
   rw[e]
   exact(byteI_bt hb.1 hb.2).symm
  ·have hj7:j<(front c).length:=by omega
   have e1:((showC c).set j x).getD 7 0=bt (sumI (front c)):=by
    rw[List.getD_eq_getElem?_getD,List.getElem?_set_ne h7]
    rfl
   have e2:((showC c).set j x).take 7=(front c).set j x:=by
    unfold showC
    rw[List.set_append_left _ _ hj7,List.take_append_of_le_length (by rw[List.length_set];omega),List.take_of_length_le (by rw[List.length_set];omega)]
   have e3:(showC c)[j]'(by omega)=(front c)[j]:=by
    unfold showC
    rw[List.getElem_append_left hj7]
   rw[e1,e2,byteI_bt hb.1 hb.2]
   exact fun e=>sumI_set (front c) j hj7 x (by rw[←e3];exact hx) e.symm
 unfold codeC
 rw[hl2,if_neg (by omega),if_neg (by omega),if_pos key]
end Go.Proofs.YthmnmaemnihkeaaGreatDoor
namespace Go.Proofs.YthmnmaemnihkeaaGreatDoor
def Cm.rd (c:Cm):Bool:=c.ok&&decide (c.o=1)
def Cm.wr (c:Cm):Bool:=c.ok&&inI c.o 2 5
end Go.Proofs.YthmnmaemnihkeaaGreatDoor
set_option maxRecDepth 20000
set_option maxHeartbeats 400000
namespace Go.Proofs.YthmnmaemnihkeaaGreatDoor
open Go.ChangeShapes Go.WideShapes Go.ChangeAt Go.RowKit
def Reads (w:World) (v:Value) (xs:List Int):Prop:=
 ∃ao cap,v=.slice ao xs.length cap∧xs.length≤cap∧(cap≤maxLen∧(ao=none→cap=0))∧
  (xs=[]∨∃b off,ao=some ⟨b,off,none⟩∧∀j,j<xs.length→w.cell? ⟨b,off+j,none⟩=some (.int .i64 (xs.getD j 0)))
def Own (w:World) (base:Nat) (v:Value) (xs:List Int):Prop:=
 w.ownsRow base 2 1 v xs.length (xs.map (Value.int .i64))
theorem Own.nil (w:World) (base:Nat):Own w base (.slice none 0 0) []:=World.ownsRow_nil w base _ _
theorem Own.reads {w:World} {base:Nat} {v:Value} {xs:List Int} (h:Own w base v xs):Reads w v xs:=by
 rcases h.2 with⟨rfl,h0⟩|⟨g,cap,cur,rfl,hb,hg,hnc,hcm,hcs,ht⟩
 ·have e:xs=[]:=List.eq_nil_of_length_eq_zero h0
  subst e
  exact⟨none,0,rfl,Nat.le_refl _,⟨Nat.zero_le _,fun _=>rfl⟩,.inl rfl⟩
 ·refine⟨_,cap,rfl,hnc,⟨hcm,fun e=>by cases e⟩,.inr ⟨g,0,rfl,fun j hj=>?_⟩⟩
  have:=World.ownsRow.cellAt (w:=w) h j (by omega)
  rw[Nat.zero_add,this]
  simp[List.getD,hj]
theorem Own.le {w:World} {base:Nat} {v:Value} {xs:List Int} (h:Own w base v xs):xs.length≤maxLen:=by
 obtain⟨_,cap,_,h1,h2,_⟩:=h.reads
 omega
theorem Own.mono {w:World} {base base':Nat} {v:Value} {xs:List Int} (h:Own w base v xs) (hb:base'≤base):Own w base' v xs:=by
 refine⟨h.1,?_⟩
 rcases h.2 with h'|⟨g,cap,cur,e,hg,r⟩
 ·exact .inl h'
 ·exact .inr ⟨g,cap,cur,e,Nat.le_trans hb hg,r⟩
theorem Own.lt {w:World} {base:Nat} {v:Value} {xs:List Int} (h:Own w base v xs):∀k,v.ownBlock=some k→base≤k∧k<w.heap.size:=World.ownsRow.lt h
theorem Own.below {w w':World} {base:Nat} {v:Value} {xs:List Int} (h:Own w base v xs) (hb:Below w.heap.size w w'):Own w' base v xs:=by
 refine⟨h.1,?_⟩
 rcases h.2 with h'|⟨g,cap,cur,e,hg,hh,r⟩
 ·exact .inl h'
 ·have hlt:g<w.heap.size:=by
   rcases Nat.lt_or_ge g w.heap.size with hlt|hge
   ·exact hlt
   ·rw[Array.getElem?_eq_none hge]at hh;cases hh
  exact .inr ⟨g,cap,cur,e,hg,(hb.block g hlt).trans hh,r⟩
theorem Own.drew_eq {w w':World} {base:Nat} {v:Value} {xs:List Int} {n:Nat} (h:Own w base v xs) (e:w'=w.drewN n):Own w' base v xs:=by subst e;exact h
theorem Own.apart {w1 w2:World} {b1 b2:Nat} {v0 v1:Value} {xs ys:List Int} (h:Own w1 b1 v0 xs) (k:Own w2 b2 v1 ys) (hb:w1.heap.size≤b2):v0.ownBlock=none∨v0.ownBlock≠v1.ownBlock:=by
 by_cases e:v0.ownBlock=none
 ·exact .inl e
 ·refine .inr fun e2=>?_
  obtain⟨g,hg⟩:=Option.ne_none_iff_exists'.1 e
  have a:=h.lt g hg
  have b:=k.lt g (e2▸hg)
  omega
theorem Own.apart' {w1 w2:World} {b1 b2:Nat} {v0 v1:Value} {xs ys:List Int} (h:Own w1 b1 v0 xs) (k:Own w2 b2 v1 ys) (hb:w1.heap.size≤b2):v1.ownBlock=none∨v1.ownBlock≠v0.ownBlock:=by
 by_cases e:v1.ownBlock=none
 ·exact .inl e
 ·refine .inr fun e2=>?_
  obtain⟨g,hg⟩:=Option.ne_none_iff_exists'.1 e
  have a:=k.lt g hg
  have b:=h.lt g (e2▸hg)
  omega
theorem Own.kept {w w':World} {base:Nat} {v:Value} {row:Option Nat} {xs:List Int} (h:Own w base v xs) (hg:w.grownBy w' row) (hne:v.ownBlock=none∨v.ownBlock≠row):Own w' base v xs:=
 World.ownsRow.kept h hg hne
theorem Reads.below {w w':World} {B:Nat} {v:Value} {xs:List Int} (h:Reads w v xs) (hb:Below B w w') (hB:w.heap.size≤B):Reads w' v xs:=by
 obtain⟨ao,cap,rfl,h1,h2,h3⟩:=h
 refine⟨ao,cap,rfl,h1,h2,?_⟩
 rcases h3 with h3|⟨b,off,rfl,h4⟩
 ·exact .inl h3
 ·refine .inr ⟨b,off,rfl,fun j hj=>?_⟩
  have h5:=h4 j hj
  have h6:=World.block_lt_of_cell? w _ h5
  rw[hb.cell (p:=⟨b,off+j,none⟩) (Nat.lt_of_lt_of_le h6 hB)]
  exact h5
def marks (k:Int) (n:Nat):List Int:=(List.range n).map fun j=>k+(j:Nat)
theorem marks_length (k:Int) (n:Nat):(marks k n).length=n:=by simp[marks]
theorem marks_getD (k:Int) (n j:Nat) (h:j<n):(marks k n).getD j 0=k+j:=by
 simp[marks,List.getD,h]
theorem marks_step (k:Int) (xs:List Int) (j:Nat) (h:j<xs.length):((marks k j++xs.drop j).set j (k+j))=marks k (j+1)++xs.drop (j+1):=by
 rw[List.set_append_right _ _ (by simp[marks_length]),marks_length,Nat.sub_self]
 rw[List.drop_eq_getElem_cons h,List.set_cons_zero]
 simp[marks,List.range_succ]
theorem marks_all (k:Int) (xs:List Int):marks k xs.length++xs.drop xs.length=marks k xs.length:=by simp
theorem held_any (v:Value) (xs:List Int) (k:Int) (w:World) (h:Reads w v xs) (hx:xs=marks k xs.length) (hbig:xs.length≤1099511627776) (h0:0≤k) (h1:k≤1099511627776):
  Calls Tryz.prog 60 #[v,.int .i64 k] w fun e w'=>e=.returned (.int .i64 (k+xs.length))∧w'=w:=by
 obtain⟨ao,cap,rfl,hl,⟨hm, -⟩,hc⟩:=h
 obtain⟨n,hn⟩:∃n,n=xs.length:=⟨_,rfl⟩
 rw[←hn]at hl hx hc hbig⊢
 unfold maxLen at hm
 have HN:Hid (n=xs.length):=hn
 clear hn
 have hcell:∀j,j<n→∃b off,ao=some ⟨b,off,none⟩∧w.cell? ⟨b,off+j,none⟩=some (.int .i64 (k+j)):=by
  intro j hj
  rcases hc with e|⟨b,off,e,h4⟩
  ·rw[e]at HN;simp[Hid]at HN;omega
  ·refine⟨b,off,e,?_⟩
   rw[h4 j hj]
   rw[hx,marks_getD k n j hj]
 clear hc hx
 go_enter Tryz.func60,Tryz.ntmps60
 go_wp2
 go_loop [1,5] (fun q i=>∃j:Nat,j≤n∧i=.int .i64 j∧q=.int .i64 (k+j)) (fun _ i=>n-(intOf i).toNat)
 case atStart=>exact⟨0,Nat.zero_le _,rfl,by simp⟩
 case round=>
  obtain⟨j,hj,rfl,rfl⟩:=hrel
  by_cases hlt:(j:Int)<(n:Int)
  ·obtain⟨b,off,rfl,hc1⟩:=hcell j (by omega)
   clear hcell
   go_wp2
   go_round
   case rel=>exact⟨j+1,by omega,by go_num,by go_num⟩
   case measure=>simp[intOf];omega
  ·go_wp2
   go_ret
   exact⟨ret_int (by omega),rfl⟩
theorem held_marks (v:Value) (n:Nat) (k:Int) (w:World) (h:Reads w v (marks k n)) (hbig:n≤1099511627776) (h0:0≤k) (h1:k≤1099511627776):
  Calls Tryz.prog 60 #[v,.int .i64 k] w fun e w'=>e=.returned (.int .i64 (k+n))∧w'=w:=by
 have:=held_any v (marks k n) k w h (by rw[marks_length]) (by rw[marks_length];exact hbig) h0 h1
 rwa[marks_length]at this
theorem take_snoc (xs:List Int) (j:Nat) (h:j<xs.length):xs.take (j+1)=xs.take j++[xs.getD j 0]:=by
 rw[List.take_succ_eq_append_getElem h];simp[List.getD,h]
theorem take_step {xs ys:List Int} {j:Nat} (h:xs.take j=ys.take j) (hx:j<xs.length) (hy:j<ys.length) (e:xs.getD j 0=ys.getD j 0):xs.take (j+1)=ys.take (j+1):=by
 rw[take_snoc xs j hx,take_snoc ys j hy,h,e]
theorem ne_of_getD {xs ys:List Int} {j:Nat} (e:xs.getD j 0≠ys.getD j 0):xs≠ys:=fun h=>e (by rw[h])
theorem eq_any (va vb:Value) (xs ys:List Int) (w:World) (ha:Reads w va xs) (hb:Reads w vb ys) (hbig:xs.length≤1099511627776):
  Calls Tryz.prog 54 #[va,vb] w fun e w'=>e=.returned (.bool (decide (xs=ys)))∧∃n,w'=w.drewN n:=by
 obtain⟨ao,ca,rfl,hla,⟨hma, -⟩,hca⟩:=ha
 obtain⟨bo,cb,rfl,hlb,⟨hmb, -⟩,hcb⟩:=hb
 by_cases hlen:xs.length=ys.length
 ·obtain⟨n,hn⟩:∃n,n=xs.length:=⟨_,rfl⟩
  rw[←hlen]at hlb hcb⊢
  rw[←hn]at hla hlb hca hcb hbig⊢
  have HN:Hid (n=xs.length∧n=ys.length):=⟨hn,hn.trans hlen⟩
  clear hn hlen hma hmb
  have hcell:∀j,j<n→∃b off b' off',ao=some ⟨b,off,none⟩∧bo=some ⟨b',off',none⟩∧w.cell? ⟨b,off+j,none⟩=some (.int .i64 (xs.getD j 0))∧w.cell? ⟨b',off'+j,none⟩=some (.int .i64 (ys.getD j 0)):=by
   intro j hj
   rcases hca with e|⟨b,off,e,h4⟩
   ·have:=HN.out.1;rw[e]at this;simp at this;omega
   ·rcases hcb with e'|⟨b',off',e',h4'⟩
    ·have:=HN.out.2;rw[e']at this;simp at this;omega
    ·exact⟨b,off,b',off',e,e',h4 j hj,h4' j hj⟩
  clear hca hcb
  go_enter Tryz.func54,Tryz.ntmps54
  go_wp2
  go_loopw [5] (fun i wr=>∃j q:Nat,j≤n∧i=.int .i64 j∧Hid (xs.take j=ys.take j)∧wr=w.drewN q) (fun i _=>n-(intOf i).toNat)
  case atStart=>exact⟨0,0,Nat.zero_le _,rfl,by simp[Hid],rfl⟩
  case round=>
   obtain⟨j,q,hj,rfl,ht,rfl⟩:=hrel
   by_cases hlt:(j:Int)<(n:Int)
   ·obtain⟨b,off,b',off',rfl,rfl,hc1,hc2⟩:=hcell j (by omega)
    clear hcell
    obtain⟨x,hx⟩:∃x,x=xs.getD j 0:=⟨_,rfl⟩
    obtain⟨y,hy⟩:∃y,y=ys.getD j 0:=⟨_,rfl⟩
    rw[←hx]at hc1
    rw[←hy]at hc2
    have HX:Hid (x=xs.getD j 0∧y=ys.getD j 0):=⟨hx,hy⟩
    clear hx hy
    by_cases hxy:(x !=y)=true
    ·go_wp2
     go_quiet (fail)
     go_wp2
     go_ret
     exact⟨ret_bool (by
      have h1:x≠y:=by simpa using hxy
      have h2:xs≠ys:=ne_of_getD (j:=j) (by rw[←HX.out.1,←HX.out.2];exact h1)
      simp[h2]),⟨_,World.drewN_drewN ..⟩⟩
    ·go_wp2
     go_quiet (fail)
     go_wp2
     go_roundw
     case rel=>
      have h1:x=y:=by simpa using hxy
      exact⟨j+1,_,by omega,by go_num,take_step ht (by have:=HN.out.1;omega) (by have:=HN.out.2;omega) (by rw[←HX.out.1,←HX.out.2];exact h1),rfl⟩
     case measure=>simp[intOf];omega
   ·go_wp2
    go_ret
    exact⟨ret_bool (by
     have h1:xs=ys:=by
      have h2:=ht.out
      rw[List.take_of_length_le (by have:=HN.out.1;omega),List.take_of_length_le (by have:=HN.out.2;omega)]at h2
      exact h2
     simp[h1]),⟨_,rfl⟩⟩
 ·have hne:((xs.length:Int) !=(ys.length:Int))=true:=by simp;omega
  have he:decide (xs=ys)=false:=by
   have:xs≠ys:=fun h=>hlen (by rw[h])
   simp[this]
  rw[he]
  clear he hlen hca hcb
  go_enter Tryz.func54,Tryz.ntmps54
  go_wp2
  go_ret
  exact⟨rfl,0,rfl⟩
theorem mark_any (v:Value) (xs:List Int) (k:Int) (w:World) (base:Nat) (h:Own w base v xs) (hbig:xs.length≤1099511627776) (h0:0≤k) (h1:k≤1099511627776):
  Calls Tryz.prog 58 #[v,.int .i64 k] w fun e w'=>e=.returned (.int .i64 (k+xs.length))∧Own w' base v (marks k xs.length)∧w.grownBy w' v.ownBlock:=by
 by_cases hz:0<xs.length
 ·obtain⟨g,cap,rfl,hbg,hgl⟩:=World.ownsRow.form h hz
  have HO:Hid (Own w base (.slice (some ⟨g,0,none⟩) xs.length cap) xs):=h
  clear h
  obtain⟨n,hn⟩:∃n,n=xs.length:=⟨_,rfl⟩
  rw[←hn]at hz hbig HO⊢
  have HN:Hid (n=xs.length):=hn
  clear hn
  go_enter Tryz.func58,Tryz.ntmps58
  go_wp2
  go_loopw [1,5] (fun q i wr=>∃j:Nat,j≤n∧i=.int .i64 j∧q=.int .i64 (k+j)∧Hid (Own wr base (.slice (some ⟨g,0,none⟩) n cap) (marks k j++xs.drop j)∧w.grownBy wr (some g))) (fun _ i _=>n-(intOf i).toNat)
  case atStart=>exact⟨0,Nat.zero_le _,rfl,by simp,by simpa[marks]using HO.out,World.grownBy.refl _ _⟩
  case round=>
   obtain⟨j,hj,rfl,rfl,HR⟩:=hrel
   have hn':=HN.out
   have hlen:(marks k j++xs.drop j).length=n:=by simp[marks_length];omega
   by_cases hlt:(j:Int)<(n:Int)
   ·have hown:wr.ownsRow base 2 1 (.slice (some ⟨g,0,none⟩) n cap) n ((marks k j++xs.drop j).map (Value.int .i64)):=by
     have:=HR.out.1
     unfold Own at this
     rwa[hlen]at this
    have hfr:=World.ownsRow.frozenAt hown j
    obtain⟨x,hc⟩:∃x,wr.cell? ⟨g,j,none⟩=some x:=by
     have:=World.ownsRow.cellAt hown j (by omega)
     rw[this]
     exact⟨_,List.getElem?_eq_getElem (by simp[marks_length];omega)⟩
    have hst:=World.ownsRow.stored hown j (.int .i64 (k+j))
    have HS:Hid (Own (wr.setCell ⟨g,j,none⟩ (.int .i64 (k+j))) base (.slice (some ⟨g,0,none⟩) n cap) (marks k (j+1)++xs.drop (j+1))∧w.grownBy (wr.setCell ⟨g,j,none⟩ (.int .i64 (k+j))) (some g)):=by
     refine⟨?_,HR.out.2.trans hst.2⟩
     have:=hst.1
     rw[←List.map_set,marks_step k xs j (by omega)]at this
     unfold Own
     rwa[show(marks k (j+1)++xs.drop (j+1)).length=n by simp[marks_length];omega]
    clear hst hown HR hlen hn'
    go_wp2
    go_roundw
    case rel=>exact⟨j+1,by omega,by go_num,by go_num,HS⟩
    case measure=>simp[intOf];omega
   ·clear hn' hlen
    go_wp2
    go_ret
    have hjn:j=n:=by omega
    have hn':=HN.out
    have this:=HR.out
    rw[hjn,hn',marks_all,←hn']at this
    exact⟨ret_int (by omega),this.1,this.2⟩
 ·have hx:xs=[]:=List.eq_nil_of_length_eq_zero (by omega)
  subst hx
  obtain⟨ao,cap,rfl,_,_,_⟩:=h.reads
  have HO:Hid (Own w base (.slice ao 0 cap) []):=h
  clear h
  simp only[List.length_nil]at hz hbig⊢
  go_enter Tryz.func58,Tryz.ntmps58
  go_wp2
  go_loop [1,5] (fun q i=>i=.int .i64 0∧q=.int .i64 k) (fun _ _=>0)
  case atStart=>exact⟨rfl,rfl⟩
  case round=>
   obtain⟨rfl,rfl⟩:=hrel
   go_wp2
   go_ret
   exact⟨ret_int (by simp),by simpa[marks]using HO.out,World.grownBy.refl _ _⟩
theorem Tryz.infoI:(Tryz.prog.info? 2).map (fun i=>(i.zero,i.size,i.bytes))=some (some (.int .i64 0),1,8):=by kernel_rfl
end Go.Proofs.YthmnmaemnihkeaaGreatDoor
