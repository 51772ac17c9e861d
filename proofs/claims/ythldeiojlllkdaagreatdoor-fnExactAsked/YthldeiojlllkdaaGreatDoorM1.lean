/- Words for what is said often. -/
import Derived.Test.YthldeiojlllkdaaGreatDoorRows
import Derived.WalkKit
import Derived.Below
import Derived.KernelRfl
import Derived.ProofKit
import Derived.OpenShut
import Derived.WalkSmall
import Derived.WalkSpells
import Derived.BigQuiet
import Derived.Laws.OwnMore
import Derived.Deep.AppendLies
import Derived.Deep.QuietTactic
import Derived.OwnWalk
import Derived.Laws.AppendOwnNone
set_option maxRecDepth 20000
set_option maxHeartbeats 1000000
namespace Go.Proofs.YthldeiojlllkdaaGreatDoor
open Go.ChangeShapes Go.WideShapes Go.ChangeAt Go.RowKit
abbrev iO (w w':World):=Below w.heap.size w w'
theorem Fc {w:World} {b:Obj}:Below w.heap.size w (w.alloc b):=(Below.refl _ _).alloc (Nat.le_refl _) _
theorem Fd {P:Program} {f:FuncId} {args:Array Value} {w w1:World} {e1:Ending} {Q:Ending->World->Prop} (h:Calls P f args w fun e w'=>e=e1/\w'=w1) (k:Q e1 w1):Calls P f args w Q:=h.mono fun _ _ ⟨h1,h2⟩=>by subst h1;subst h2;exact k
theorem Fe {α:Sort _} (a:α):∃s,s=a:=⟨a,rfl⟩
theorem Ff {P:Prop} (h:P:=by omega):P:=h
theorem Fg {P:Prop} (h:P:=by simp):P:=h
theorem Fh {P:Prop} (h:P:=by decide):P:=h
theorem Fi {P:Prop} (h:P:=by kernel_rfl):P:=h
theorem Fj {P:Prop} (h:P:=by first | rfl | kernel_rfl):P:=h
section
open Go.RowKit
theorem cZ {k:IntKind} {a b:Int} (h:a=b):Ending.returned (.int k a)=.returned (.int k b):=by rw[h]
theorem af {a b:Bool} (h:a=b):Ending.returned (.bool a)=.returned (.bool b):=by rw[h]
def mX (s:Int):Bool:=decide (0<=s)&&decide (s<256)
def il (i:Int):Bool:=decide (0<=i)&&decide (i<8)
def inN (s i:Nat):Bool:=s/2^i%2==1
def inB (s i:Int):Bool:=mX s&&il i&&inN s.toNat i.toNat
def cv (s i:Int):Int:=if mX s then(if il i then((s.toNat|||2^i.toNat:Nat):Int)else s)else-1
def jo (s i:Int):Int:=if mX s then(if il i then(if inN s.toNat i.toNat then s-2^i.toNat else s)else s)else-1
def cO (n:Int):Int:=if 0<=n/\n<=8 then 2^n.toNat-1 else-1
theorem mp {s:Int} (h0:0<=s) (h1:s<256):mX s=true:=by simp[mX,h0,h1]
theorem qS {s:Int} (h:s<0∨256<=s):mX s=false:=by
 simp[mX];omega
theorem pj {s:Int} (h0:0<=s) (h1:s<8):il s=true:=by simp[il,h0,h1]
theorem pk {s:Int} (h:s<0∨8<=s):il s=false:=by
 simp[il];omega
theorem ie {s i:Int} (h0:0<=s) (h1:s<256) (h2:0<=i) (h3:i<8):inB s i=inN s.toNat i.toNat:=by
 simp[inB,mp h0 h1,pj h2 h3]
theorem qV {s i:Int} (h:s<0∨256<=s):inB s i=false:=by simp[inB,qS h]
theorem gU {s i:Int} (h:i<0∨8<=i):inB s i=false:=by simp[inB,pk h]
theorem De:∀n:Nat,n<256->∀k:Nat,k<8->(bits BinOp.and IntKind.i64 (n:Int) (wrap64 (2^k)) !=0)=inN n k:=by decide+kernel
theorem Ec:∀n:Nat,n<256->∀k:Nat,k<8->bits BinOp.or IntKind.i64 (n:Int) (wrap64 (2^k))=((n|||2^k:Nat):Int):=by decide+kernel
theorem dM {s:Int} (h0:0<=s):∃n:Nat,s=n:=⟨s.toNat,by omega⟩
theorem Ed {s i:Int} (h0:0<=s) (h1:s<256) (h2:0<=i) (h3:i<8):(bits BinOp.and IntKind.i64 s (wrap64 (2^i.toNat)) !=0)=inB s i:=by
 rw[ie h0 h1 h2 h3];obtain⟨n,rfl⟩:=dM h0;exact De n Ff i.toNat Ff
theorem BH {s i:Int} (h0:0<=s) (h1:s<256) (h2:0<=i) (h3:i<8):bits BinOp.or IntKind.i64 s (wrap64 (2^i.toNat))=cv s i:=by
 simp only[cv,mp h0 h1,pj h2 h3,if_true];obtain⟨n,rfl⟩:=dM h0;exact Ec n Ff i.toNat Ff
theorem ig {s i:Int} (h:s<0∨256<=s):cv s i= -1:=by simp[cv,qS h]
theorem eM {s i:Int} (h0:0<=s) (h1:s<256) (h:i<0∨8<=i):cv s i=s:=by simp[cv,mp h0 h1,pk h]
end
abbrev Bs:=List UInt8
def S (l:Bs):Value:=.string ⟨l.toArray⟩
def am (b:UInt8):Int:=(b.toNat:Int)
def chk:Bs->Int:=fun l=>l.foldl (fun h b=>(31*h+am b+1)%999983) 19
theorem eN (l:Bs) (j:Nat) (h:j<l.length) (c:UInt8) (n:Int) (hc:am c=n):(((((⟨l.toArray⟩:ByteArray)[j]'(show j<(⟨l.toArray⟩:ByteArray).size from h)).toNat:Nat):Int)==n)=decide (l[j]=c):=by
 have e:((((⟨l.toArray⟩:ByteArray)[j]'(show j<(⟨l.toArray⟩:ByteArray).size from h)).toNat:Nat):Int)=am l[j]:=rfl;rw[e,<-hc];by_cases hb:l[j]=c
 ·simp[hb]
 ·have:am l[j]≠am c:=fun h=>hb (by
   unfold am at h;exact UInt8.toNat_inj.1 Ff)
  simp[hb,this]
theorem bm (b:UInt8):0<=am b/\am b<256:=by
 have:=b.toNat_lt;unfold am;omega
theorem fN {x:Int} (h0:0<=x) (h1:x<9223372036854775808):wrap64 x=x:=by
 unfold wrap64;omega
theorem vm (l:Bs) (b:UInt8):chk (l++[b])=(31*chk l+am b+1)%999983:=by
 simp[chk]
theorem kD (l:Bs):0<=chk l/\chk l<999983:=by
 rcases List.eq_nil_or_concat l with rfl|⟨m,b,rfl⟩
 ·simp[chk]
 ·rw[List.concat_eq_append,vm];omega
theorem fO (l:Bs) (j:Nat) (h:j<l.length):l.take (j+1)=l.take j++[l[j]]:=List.take_succ_eq_append_getElem h
theorem vn (l:Bs) (j:Nat) (h:j<l.length):(wrap64 (wrap64 (31*chk (l.take j)+wrap64 (am l[j]))+1)).tmod 999983=chk (l.take (j+1)):=by
 have h1:=kD (l.take j);have h2:=bm l[j];rw[fO l j h,vm];rw[fN (x:=am l[j]) h2.1 Ff,fN (x:=31*chk (l.take j)+am l[j]) Ff Ff,fN Ff Ff];exact Int.tmod_eq_emod_of_nonneg Ff
theorem xL (l:Bs) (w:World) (hl:l.length<=1099511627776):
  Calls Tryz.prog 127 #[S l] w fun e w'=>e=.returned (.int .i64 (chk l))/\w'=w:=by
 unfold S;go_enter Tryz.func127,Tryz.ntmps127;go_wp2;go_loop [3,4] (fun h i=>∃j:Nat,j<=l.length/\i=.int .i64 j/\∃x:Int,h=.int .i64 x/\0<=x/\x<999983/\Hid (x=chk (l.take j))) (fun _ i=>l.length-(intOf i).toNat)
 case atStart=>exact⟨0,Nat.zero_le _,rfl,19,rfl,by omega,by omega,by simp[Hid,chk]⟩
 case round=>
  obtain⟨j,hj,rfl,x,rfl,hx0,hx1,HX⟩:=hrel;by_cases hlt:(j:Int)<(l.length:Int)
  ·go_wp2
   go_round
   case rel=>
    have h1:j<l.length:=by omega
    have h2:=kD (l.take (j+1));have h3:=vn l j h1;rw[<-HX.out]at h3;exact⟨j+1,by omega,by go_num,_,congrArg (Value.int .i64) h3,h2.1,h2.2,rfl⟩
   case measure=>simp[intOf];omega
  ·go_wp2
   go_ret;have e:j=l.length:=by omega
   have:=HX.out;rw[e,List.take_length]at this;exact⟨cZ this,rfl⟩
def bR (l:Bs):Bool:=l.all (fun b=>b !=10)&&decide (l.length<=300)
theorem z8 {l:Bs} {j:Nat} (h:j<l.length) (e:l[j]=10):bR l=false:=by
 have:l.all (fun b=>b !=10)=false:=by
  rw[List.all_eq_false];exact⟨l[j],List.getElem_mem h,by simp[e]⟩
 simp[bR,this]
theorem pn (l:Bs) (w:World) (hl:l.length<=1099511627776):
  Calls Tryz.prog 169 #[S l] w fun e w'=>e=.returned (.bool (bR l))/\w'=w:=by
 unfold S;go_enter Tryz.func169,Tryz.ntmps169;go_wp2;go_loop [3] (fun i=>∃j:Nat,j<=l.length/\i=.int .i64 j/\Hid ((l.take j).all (fun b=>b !=10)=true)) (fun i=>l.length-(intOf i).toNat)
 case atStart=>exact⟨0,Nat.zero_le _,rfl,by simp[Hid]⟩
 case round=>
  obtain⟨j,hj,rfl,HX⟩:=hrel;by_cases hlt:(j:Int)<(l.length:Int)
  ·have h1:j<l.length:=by omega
   have ht:=eN l j h1 10 10 rfl;by_cases hb:l[j]=10
   ·have HN:Hid (bR l=false):=z8 h1 hb
    rw[show decide (l[j]=10)=true by simp[hb]]at ht;clear hb HX;go_wp2;go_ret;exact⟨af HN.out.symm,rfl⟩
   ·rw[show decide (l[j]=10)=false by simp[hb]]at ht
    have HS:Hid ((l.take (j+1)).all (fun b=>b !=10)=true):=by
     rw[Hid,fO l j h1,List.all_append,HX.out];simp[hb]
    clear hb HX;go_wp2
    go_round
    case rel=>exact⟨j+1,by omega,by go_num,HS⟩
    case measure=>simp[intOf];omega
  ·go_wp2
   go_ret;have e:j=l.length:=by omega
   have:=HX.out;rw[e,List.take_length]at this;refine⟨af ?_,rfl⟩;simp[bR,this];omega
section
open Go.RowKit
structure Cm where
 o:Int
 p:Int
 a:Int
 b:Int
 k:Int
def Cm.zero:Cm:=⟨0,0,0,0,0⟩
def inI (x lo hi:Int):Bool:=decide (lo<=x)&&decide (x<=hi)
theorem aE (x lo hi:Int):inI x lo hi=true↔lo<=x/\x<=hi:=by simp[inI]
def Cm.told (c:Cm):Bool:=inI c.o 1 12&&(decide (c.o<=4)||decide (c.p=0))&&(decide (c.o=2)||decide (c.o=3)||decide (c.o=6)||decide (c.o=10)||decide (c.a=0))&&(decide (c.o=3)||decide (c.o=10)||decide (c.b=0))&&(decide (c.o=7)||decide (c.o=10)||decide (c.k=0))
def Cm.fits (c:Cm):Bool:=
 if c.o=6 then inI c.a 0 9999
 else if c.o=10 then inI c.a 0 9999&&inI c.b 1 9999&&inI c.k 1 6
 else if c.o=7 then inI c.k 1 6
 else inI c.p 0 255&&inI c.a 0 65535&&inI c.b 0 65535
def Cm.ok (c:Cm):Bool:=c.told&&c.fits
def Cm.chg (c:Cm):Bool:=c.ok&&inI c.o 2 4
def Cm.Byt (c:Cm):Prop:=(0<=c.o/\c.o<=255)/\(0<=c.p/\c.p<=255)/\(0<=c.a/\c.a<=65535)/\(0<=c.b/\c.b<=65535)/\(0<=c.k/\c.k<=255)
theorem Cm.ok_byt {c:Cm} (h:c.ok=true):c.Byt:=by
 obtain⟨o,p,a,b,k⟩:=c;unfold Cm.ok Cm.told Cm.fits at h;dsimp only at h;unfold Cm.Byt;dsimp only;simp only[Bool.and_eq_true,Bool.or_eq_true,decide_eq_true_eq,aE]at h;obtain⟨⟨⟨⟨⟨h1,h2⟩,h3⟩,h4⟩,h5⟩,h6⟩:=h;split at h6
 ·rw[aE]at h6;omega
 ·split at h6
  ·simp only[Bool.and_eq_true,aE]at h6;omega
  ·split at h6
   ·rw[aE]at h6;omega
   ·simp only[Bool.and_eq_true,aE]at h6;omega
def bt (x:Int):UInt8:=UInt8.ofNat x.toNat
theorem sJ {x:Int} (h0:0<=x) (h1:x<=255):am (bt x)=x:=by
 unfold am bt;rw[UInt8.toNat_ofNat'];omega
theorem nG (b:UInt8):bt (am b)=b:=by
 apply UInt8.toNat_inj.1;unfold bt am;rw[UInt8.toNat_ofNat'];have:=b.toNat_lt;omega
def eW (l:Bs):Int:=255-(l.foldl (fun n b=>n+am b) 0)%256
def front (c:Cm):Bs:=[bt c.o,bt c.p,bt (c.a/256),bt (c.a%256),bt (c.b/256),bt (c.b%256),bt c.k]
def fB (c:Cm):Bs:=front c++[bt (eW (front c))]
def Ap (c:Cm):Bs:=if c.ok then fB c else[]
theorem xR (l:Bs):0<=eW l/\eW l<=255:=by unfold eW;omega
def fA (l:Bs):Cm:=⟨am (l.getD 0 0),am (l.getD 1 0),am (l.getD 2 0)*256+am (l.getD 3 0),am (l.getD 4 0)*256+am (l.getD 5 0),am (l.getD 6 0)⟩
def aO (l:Bs):Int:=
 if l.length<8 then 1
 else if 8<l.length then 2
 else if am (l.getD 7 0)≠eW (l.take 7)then 3
 else if inI (fA l).o 1 12=false then 4
 else if(fA l).ok=false then 5
 else 0
def ax (l:Bs):Cm:=if aO l=0 then fA l else Cm.zero
theorem sK {l:Bs} (h:l.length=8):∃a b c d e f g i,l=[a,b,c,d,e,f,g,i]:=by
 match l,h with
 |[a,b,c,d,e,f,g,i],_=>exact⟨a,b,c,d,e,f,g,i,rfl⟩
theorem nH {l:Bs} (h:aO l=0):l.length=8/\am (l.getD 7 0)=eW (l.take 7)/\(fA l).ok=true:=by
 unfold aO at h;split at h
 ·omega
 ·split at h
  ·omega
  ·split at h
   ·omega
   ·split at h
    ·omega
    ·split at h
     ·omega
     ·rename_i h1 h2 h3 h4 h5
      refine⟨by omega,by simpa using h3,by simpa using h5⟩
theorem Ca {c:Cm} (h:c.ok=true):inI c.o 1 12=true:=by
 unfold Cm.ok Cm.told at h;simp only[Bool.and_eq_true]at h;exact h.1.1.1.1.1
theorem jX {l:Bs} (h:aO l=0):(ax l).ok=true/\fB (ax l)=l:=by
 obtain⟨h1,h2,h3⟩:=nH h;unfold ax;rw[if_pos h];refine⟨h3,?_⟩;obtain⟨a,b,c,d,e,f,g,i,rfl⟩:=sK h1;have ha:=bm a;have hb:=bm b;have hc:=bm c;have hd:=bm d;have he:=bm e;have hf:=bm f;have hfr:front (fA [a,b,c,d,e,f,g,i])=[a,b,c,d,e,f,g]:=by
  simp only[front,fA,List.getD_cons_zero,List.getD_cons_succ,nG];rw[show(am c*256+am d)/256=am c by omega,show(am c*256+am d)%256=am d by omega,show(am e*256+am f)/256=am e by omega,show(am e*256+am f)%256=am f by omega];simp only[nG]
 have h2':am i=eW [a,b,c,d,e,f,g]:=h2;unfold fB;rw[hfr,<-h2',nG];rfl
theorem gm {l:Bs} (h:aO l≠0):ax l=Cm.zero:=by unfold ax;rw[if_neg h]
theorem Cb (l:Bs) (j:Nat) (h:j<l.length) (x:UInt8):∀n:Int,(l.set j x).foldl (fun n b=>n+am b) n=l.foldl (fun n b=>n+am b) n+am x-am l[j]:=by
 induction l generalizing j with
 |nil=>simp at h
 |cons b l ih=>
  intro n;cases j with
  |zero=>
   simp only[List.set_cons_zero,List.foldl_cons,List.getElem_cons_zero];have hs:∀(l:Bs) (m d:Int),l.foldl (fun n b=>n+am b) (m+d)=l.foldl (fun n b=>n+am b) m+d:=by
    intro l
    induction l with
    |nil=>intro m d;rfl
    |cons c l ih2=>intro m d;simp only[List.foldl_cons];rw[show m+d+am c=m+am c+d by omega,ih2]
   rw[show n+am x=n+am b+(am x-am b) by omega,hs];omega
  |succ j=>
   simp only[List.set_cons_succ,List.foldl_cons,List.getElem_cons_succ];exact ih j (by simpa using h) _
theorem pX {a b:UInt8} (h:am a=am b):a=b:=by
 unfold am at h;exact UInt8.toNat_inj.1 Ff
theorem Aq (l:Bs) (j:Nat) (h:j<l.length) (x:UInt8) (hne:x≠l[j]):eW (l.set j x)≠eW l:=by
 have h1:=Cb l j h x 0;have h2:=bm x;have h3:=bm l[j];have h4:am x≠am l[j]:=fun e=>hne (pX e)
 unfold eW;omega
theorem turned (c:Cm) (j:Nat) (hj:j<8) (x:UInt8) (hne:(fB c).set j x≠fB c):aO ((fB c).set j x)=3:=by
 have hl:(fB c).length=8:=rfl;have hl2:((fB c).set j x).length=8:=by rw[List.length_set,hl]
 have hx:x≠(fB c)[j]' Ff:=fun e=>hne (by rw[e,List.set_getElem_self])
 have hlen:(front c).length=7:=rfl;have key:am (((fB c).set j x).getD 7 0)≠eW (((fB c).set j x).take 7):=by
  have hb:=xR (front c);by_cases h7:j=7
  ·subst h7
   have e1:((fB c).set 7 x).getD 7 0=x:=rfl;have e2:((fB c).set 7 x).take 7=front c:=rfl;rw[e1,e2];intro e;apply hx;apply pX;rw[e];exact(sJ hb.1 hb.2).symm
  ·have hj7:j<(front c).length:=by omega
   have e1:((fB c).set j x).getD 7 0=bt (eW (front c)):=by
    rw[List.getD_eq_getElem?_getD,List.getElem?_set_ne h7];rfl
   have e2:((fB c).set j x).take 7=(front c).set j x:=by
    unfold fB;rw[List.set_append_left _ _ hj7,List.take_append_of_le_length (by rw[List.length_set];omega),List.take_of_length_le (by rw[List.length_set];omega)]
   have e3:(fB c)[j]' Ff=(front c)[j]:=by
    unfold fB;rw[List.getElem_append_left hj7]
   rw[e1,e2,sJ hb.1 hb.2];exact fun e=>Aq (front c) j hj7 x (by rw[<-e3];exact hx) e.symm
 unfold aO;rw[hl2,if_neg Ff,if_neg Ff,if_pos key]
end
def Cm.rd (c:Cm):Bool:=c.ok&&decide (c.o=1)
def Cm.wr (c:Cm):Bool:=c.ok&&inI c.o 2 5
def ag (w:World) (v:Value) (xs:List Int):Prop:=
 ∃ao cap,v=.slice ao xs.length cap/\xs.length<=cap/\(cap<=maxLen/\(ao=none->cap=0))/\
  (xs=[]∨∃b off,ao=some ⟨b,off,none⟩/\∀j,j<xs.length->w.cell? ⟨b,off+j,none⟩=some (.int .i64 (xs.getD j 0)))
def Own (w:World) (base:Nat) (v:Value) (xs:List Int):Prop:=
 w.ownsRow base 2 1 v xs.length (xs.map (Value.int .i64))
theorem Own.nil (w:World) (base:Nat):Own w base (.slice none 0 0) []:=World.ownsRow_nil w base _ _
theorem Own.reads {w:World} {base:Nat} {v:Value} {xs:List Int} (h:Own w base v xs):ag w v xs:=by
 rcases h.2 with⟨rfl,h0⟩|⟨g,cap,cur,rfl,hb,hg,hnc,hcm,hcs,ht⟩
 ·have e:xs=[]:=List.eq_nil_of_length_eq_zero h0
  subst e;exact⟨none,0,rfl,Nat.le_refl _,⟨Nat.zero_le _,fun _=>rfl⟩,.inl rfl⟩
 ·refine⟨_,cap,rfl,hnc,⟨hcm,fun e=>by cases e⟩,.inr ⟨g,0,rfl,fun j hj=>?_⟩⟩
  have:=World.ownsRow.cellAt (w:=w) h j Ff;rw[Nat.zero_add,this];simp[List.getD,hj]
theorem Own.le {w:World} {base:Nat} {v:Value} {xs:List Int} (h:Own w base v xs):xs.length<=maxLen:=by
 obtain⟨_,cap,_,h1,h2,_⟩:=h.reads;omega
theorem Own.mono {w:World} {base base':Nat} {v:Value} {xs:List Int} (h:Own w base v xs) (hb:base'<=base):Own w base' v xs:=by
 refine⟨h.1,?_⟩;rcases h.2 with h'|⟨g,cap,cur,e,hg,r⟩
 ·exact .inl h'
 ·exact .inr ⟨g,cap,cur,e,Nat.le_trans hb hg,r⟩
theorem Own.lt {w:World} {base:Nat} {v:Value} {xs:List Int} (h:Own w base v xs):∀k,v.ownBlock=some k->base<=k/\k<w.heap.size:=World.ownsRow.lt h
theorem Own.below {w w':World} {base:Nat} {v:Value} {xs:List Int} (h:Own w base v xs) (hb:iO w w'):Own w' base v xs:=by
 refine⟨h.1,?_⟩;rcases h.2 with h'|⟨g,cap,cur,e,hg,hh,r⟩
 ·exact .inl h'
 ·have hlt:g<w.heap.size:=by
   rcases Nat.lt_or_ge g w.heap.size with hlt|hge
   ·exact hlt
   ·rw[Array.getElem?_eq_none hge]at hh;cases hh
  exact .inr ⟨g,cap,cur,e,hg,(hb.block g hlt).trans hh,r⟩
theorem Own.drew_eq {w w':World} {base:Nat} {v:Value} {xs:List Int} {n:Nat} (h:Own w base v xs) (e:w'=w.drewN n):Own w' base v xs:=by subst e;exact h
theorem Own.apart {w1 w2:World} {b1 b2:Nat} {v0 v1:Value} {xs ys:List Int} (h:Own w1 b1 v0 xs) (k:Own w2 b2 v1 ys) (hb:w1.heap.size<=b2):v0.ownBlock=none∨v0.ownBlock≠v1.ownBlock:=by
 by_cases e:v0.ownBlock=none
 ·exact .inl e
 ·refine .inr fun e2=>?_
  obtain⟨g,hg⟩:=Option.ne_none_iff_exists'.1 e;have a:=h.lt g hg;have b:=k.lt g (e2▸hg);omega
theorem Own.apart' {w1 w2:World} {b1 b2:Nat} {v0 v1:Value} {xs ys:List Int} (h:Own w1 b1 v0 xs) (k:Own w2 b2 v1 ys) (hb:w1.heap.size<=b2):v1.ownBlock=none∨v1.ownBlock≠v0.ownBlock:=by
 by_cases e:v1.ownBlock=none
 ·exact .inl e
 ·refine .inr fun e2=>?_
  obtain⟨g,hg⟩:=Option.ne_none_iff_exists'.1 e;have a:=k.lt g hg;have b:=h.lt g (e2▸hg);omega
theorem Own.kept {w w':World} {base:Nat} {v:Value} {row:Option Nat} {xs:List Int} (h:Own w base v xs) (hg:w.grownBy w' row) (hne:v.ownBlock=none∨v.ownBlock≠row):Own w' base v xs:=
 World.ownsRow.kept h hg hne
theorem ag.below {w w':World} {B:Nat} {v:Value} {xs:List Int} (h:ag w v xs) (hb:Below B w w') (hB:w.heap.size<=B):ag w' v xs:=by
 obtain⟨ao,cap,rfl,h1,h2,h3⟩:=h;refine⟨ao,cap,rfl,h1,h2,?_⟩;rcases h3 with h3|⟨b,off,rfl,h4⟩
 ·exact .inl h3
 ·refine .inr ⟨b,off,rfl,fun j hj=>?_⟩
  have h5:=h4 j hj;have h6:=World.block_lt_of_cell? w _ h5;rw[hb.cell (p:=⟨b,off+j,none⟩) (Nat.lt_of_lt_of_le h6 hB)];exact h5
def aS (k:Int) (n:Nat):List Int:=(List.range n).map fun j=>k+(j:Nat)
theorem dG (k:Int) (n:Nat):(aS k n).length=n:=by simp[aS]
theorem wQ (k:Int) (n j:Nat) (h:j<n):(aS k n).getD j 0=k+j:=by
 simp[aS,List.getD,h]
theorem wR (k:Int) (xs:List Int) (j:Nat) (h:j<xs.length):((aS k j++xs.drop j).set j (k+j))=aS k (j+1)++xs.drop (j+1):=by
 rw[List.set_append_right _ _ (by simp[dG]),dG,Nat.sub_self];rw[List.drop_eq_getElem_cons h,List.set_cons_zero];simp[aS,List.range_succ]
theorem zD (k:Int) (xs:List Int):aS k xs.length++xs.drop xs.length=aS k xs.length:=by simp
theorem Bi (v:Value) (xs:List Int) (k:Int) (w:World) (h:ag w v xs) (hx:xs=aS k xs.length) (hbig:xs.length<=1099511627776) (h0:0<=k) (h1:k<=1099511627776):
  Calls Tryz.prog 82 #[v,.int .i64 k] w fun e w'=>e=.returned (.int .i64 (k+xs.length))/\w'=w:=by
 obtain⟨ao,cap,rfl,hl,⟨hm, -⟩,hc⟩:=h;obtain⟨n,hn⟩:=Fe xs.length
 rw[<-hn]at hl hx hc hbig⊢;unfold maxLen at hm;have HN:Hid (n=xs.length):=hn;clear hn;have hcell:∀j,j<n->∃b off,ao=some ⟨b,off,none⟩/\w.cell? ⟨b,off+j,none⟩=some (.int .i64 (k+j)):=by
  intro j hj;rcases hc with e|⟨b,off,e,h4⟩
  ·rw[e]at HN;simp[Hid]at HN;omega
  ·refine⟨b,off,e,?_⟩
   rw[h4 j hj];rw[hx,wQ k n j hj]
 clear hc hx;go_enter Tryz.func82,Tryz.ntmps82;go_wp2;go_loop [1,5] (fun q i=>∃j:Nat,j<=n/\i=.int .i64 j/\q=.int .i64 (k+j)) (fun _ i=>n-(intOf i).toNat)
 case atStart=>exact⟨0,Nat.zero_le _,rfl,by simp⟩
 case round=>
  obtain⟨j,hj,rfl,rfl⟩:=hrel;by_cases hlt:(j:Int)<(n:Int)
  ·obtain⟨b,off,rfl,hc1⟩:=hcell j Ff
   clear hcell;go_wp2
   go_round
   case rel=>exact⟨j+1,by omega,by go_num,by go_num⟩
   case measure=>simp[intOf];omega
  ·go_wp2
   go_ret;exact⟨cZ Ff,rfl⟩
theorem gM (v:Value) (n:Nat) (k:Int) (w:World) (h:ag w v (aS k n)) (hbig:n<=1099511627776) (h0:0<=k) (h1:k<=1099511627776):
  Calls Tryz.prog 82 #[v,.int .i64 k] w fun e w'=>e=.returned (.int .i64 (k+n))/\w'=w:=by
 have:=Bi v (aS k n) k w h (by rw[dG]) (by rw[dG];exact hbig) h0 h1
 rwa[dG]at this
theorem jx (xs:List Int) (j:Nat) (h:j<xs.length):xs.take (j+1)=xs.take j++[xs.getD j 0]:=by
 rw[List.take_succ_eq_append_getElem h];simp[List.getD,h]
theorem zE {xs ys:List Int} {j:Nat} (h:xs.take j=ys.take j) (hx:j<xs.length) (hy:j<ys.length) (e:xs.getD j 0=ys.getD j 0):xs.take (j+1)=ys.take (j+1):=by
 rw[jx xs j hx,jx ys j hy,h,e]
theorem wT {xs ys:List Int} {j:Nat} (e:xs.getD j 0≠ys.getD j 0):xs≠ys:=fun h=>e (by rw[h])
theorem oM (va vb:Value) (xs ys:List Int) (w:World) (ha:ag w va xs) (hb:ag w vb ys) (hbig:xs.length<=1099511627776):
  Calls Tryz.prog 80 #[va,vb] w fun e w'=>e=.returned (.bool (decide (xs=ys)))/\∃n,w'=w.drewN n:=by
 obtain⟨ao,ca,rfl,hla,⟨hma, -⟩,hca⟩:=ha;obtain⟨bo,cb,rfl,hlb,⟨hmb, -⟩,hcb⟩:=hb;by_cases hlen:xs.length=ys.length
 ·obtain⟨n,hn⟩:=Fe xs.length
  rw[<-hlen]at hlb hcb⊢;rw[<-hn]at hla hlb hca hcb hbig⊢;have HN:Hid (n=xs.length/\n=ys.length):=⟨hn,hn.trans hlen⟩
  clear hn hlen hma hmb;have hcell:∀j,j<n->∃b off b' off',ao=some ⟨b,off,none⟩/\bo=some ⟨b',off',none⟩/\w.cell? ⟨b,off+j,none⟩=some (.int .i64 (xs.getD j 0))/\w.cell? ⟨b',off'+j,none⟩=some (.int .i64 (ys.getD j 0)):=by
   intro j hj;rcases hca with e|⟨b,off,e,h4⟩
   ·have:=HN.out.1;rw[e]at this;simp at this;omega
   ·rcases hcb with e'|⟨b',off',e',h4'⟩
    ·have:=HN.out.2;rw[e']at this;simp at this;omega
    ·exact⟨b,off,b',off',e,e',h4 j hj,h4' j hj⟩
  clear hca hcb;go_enter Tryz.func80,Tryz.ntmps80;go_wp2;go_loopw [5] (fun i wr=>∃j q:Nat,j<=n/\i=.int .i64 j/\Hid (xs.take j=ys.take j)/\wr=w.drewN q) (fun i _=>n-(intOf i).toNat)
  case atStart=>exact⟨0,0,Nat.zero_le _,rfl,by simp[Hid],rfl⟩
  case round=>
   obtain⟨j,q,hj,rfl,ht,rfl⟩:=hrel;by_cases hlt:(j:Int)<(n:Int)
   ·obtain⟨b,off,b',off',rfl,rfl,hc1,hc2⟩:=hcell j Ff
    clear hcell;obtain⟨x,hx⟩:=Fe (xs.getD j 0)
    obtain⟨y,hy⟩:=Fe (ys.getD j 0)
    rw[<-hx]at hc1;rw[<-hy]at hc2;have HX:Hid (x=xs.getD j 0/\y=ys.getD j 0):=⟨hx,hy⟩
    clear hx hy;by_cases hxy:(x !=y)=true
    ·go_wp2
     go_quiet (fail)
     go_wp2;go_ret;exact⟨af (by
      have h1:x≠y:=by simpa using hxy
      have h2:xs≠ys:=wT (j:=j) (by rw[<-HX.out.1,<-HX.out.2];exact h1);simp[h2]),⟨_,World.drewN_drewN ..⟩⟩
    ·go_wp2
     go_quiet (fail)
     go_wp2;go_roundw
     case rel=>
      have h1:x=y:=by simpa using hxy
      exact⟨j+1,_,by omega,by go_num,zE ht (by have:=HN.out.1;omega) (by have:=HN.out.2;omega) (by rw[<-HX.out.1,<-HX.out.2];exact h1),rfl⟩
     case measure=>simp[intOf];omega
   ·go_wp2
    go_ret;exact⟨af (by
     have h1:xs=ys:=by
      have h2:=ht.out;rw[List.take_of_length_le (by have:=HN.out.1;omega),List.take_of_length_le (by have:=HN.out.2;omega)]at h2;exact h2
     simp[h1]),⟨_,rfl⟩⟩
 ·have hne:((xs.length:Int) !=(ys.length:Int))=true:=by simp;omega
  have he:decide (xs=ys)=false:=by
   have:xs≠ys:=fun h=>hlen (by rw[h])
   simp[this]
  rw[he];clear he hlen hca hcb;go_enter Tryz.func80,Tryz.ntmps80;go_wp2;go_ret;exact⟨rfl,0,rfl⟩
theorem je (v:Value) (xs:List Int) (k:Int) (w:World) (base:Nat) (h:Own w base v xs) (hbig:xs.length<=1099511627776) (h0:0<=k) (h1:k<=1099511627776):
  Calls Tryz.prog 81 #[v,.int .i64 k] w fun e w'=>e=.returned (.int .i64 (k+xs.length))/\Own w' base v (aS k xs.length)/\w.grownBy w' v.ownBlock:=by
 by_cases hz:0<xs.length
 ·obtain⟨g,cap,rfl,hbg,hgl⟩:=World.ownsRow.form h hz
  have HO:Hid (Own w base (.slice (some ⟨g,0,none⟩) xs.length cap) xs):=h;clear h;obtain⟨n,hn⟩:=Fe xs.length
  rw[<-hn]at hz hbig HO⊢;have HN:Hid (n=xs.length):=hn;clear hn;go_enter Tryz.func81,Tryz.ntmps81;go_wp2;go_loopw [1,5] (fun q i wr=>∃j:Nat,j<=n/\i=.int .i64 j/\q=.int .i64 (k+j)/\Hid (Own wr base (.slice (some ⟨g,0,none⟩) n cap) (aS k j++xs.drop j)/\w.grownBy wr (some g))) (fun _ i _=>n-(intOf i).toNat)
  case atStart=>exact⟨0,Nat.zero_le _,rfl,by simp,by simpa[aS]using HO.out,World.grownBy.refl _ _⟩
  case round=>
   obtain⟨j,hj,rfl,rfl,HR⟩:=hrel;have hn':=HN.out;have hlen:(aS k j++xs.drop j).length=n:=by simp[dG];omega
   by_cases hlt:(j:Int)<(n:Int)
   ·have hown:wr.ownsRow base 2 1 (.slice (some ⟨g,0,none⟩) n cap) n ((aS k j++xs.drop j).map (Value.int .i64)):=by
     have:=HR.out.1;unfold Own at this
     rwa[hlen]at this
    have hfr:=World.ownsRow.frozenAt hown j;obtain⟨x,hc⟩:∃x,wr.cell? ⟨g,j,none⟩=some x:=by
     have:=World.ownsRow.cellAt hown j Ff;rw[this];exact⟨_,List.getElem?_eq_getElem (by simp[dG];omega)⟩
    have hst:=World.ownsRow.stored hown j (.int .i64 (k+j));have HS:Hid (Own (wr.setCell ⟨g,j,none⟩ (.int .i64 (k+j))) base (.slice (some ⟨g,0,none⟩) n cap) (aS k (j+1)++xs.drop (j+1))/\w.grownBy (wr.setCell ⟨g,j,none⟩ (.int .i64 (k+j))) (some g)):=by
     refine⟨?_,HR.out.2.trans hst.2⟩;have:=hst.1;rw[<-List.map_set,wR k xs j Ff]at this;unfold Own
     rwa[show(aS k (j+1)++xs.drop (j+1)).length=n by simp[dG];omega]
    clear hst hown HR hlen hn';go_wp2;go_roundw
    case rel=>exact⟨j+1,by omega,by go_num,by go_num,HS⟩
    case measure=>simp[intOf];omega
   ·clear hn' hlen
    go_wp2;go_ret;have hjn:j=n:=by omega
    have hn':=HN.out;have this:=HR.out;rw[hjn,hn',zD,<-hn']at this;exact⟨cZ Ff,this.1,this.2⟩
 ·have hx:xs=[]:=List.eq_nil_of_length_eq_zero Ff
  subst hx;obtain⟨ao,cap,rfl,_,_,_⟩:=h.reads;have HO:Hid (Own w base (.slice ao 0 cap) []):=h;clear h;simp only[List.length_nil]at hz hbig⊢;go_enter Tryz.func81,Tryz.ntmps81;go_wp2;go_loop [1,5] (fun q i=>i=.int .i64 0/\q=.int .i64 k) (fun _ _=>0)
  case atStart=>exact⟨rfl,rfl⟩
  case round=>
   obtain⟨rfl,rfl⟩:=hrel;go_wp2;go_ret;exact⟨cZ Fg,by simpa[aS]using HO.out,World.grownBy.refl _ _⟩
theorem Gz:(Tryz.prog.info? 2).map (fun i=>(i.zero,i.size,i.bytes))=some (some (.int .i64 0),1,8):=by kernel_rfl
theorem uu (n:Nat):(madeCells #[Value.int .i64 0] n).toList=(List.replicate n (0:Int)).map (Value.int .i64):=by
 rw[toList_madeCells_one,List.map_replicate]
theorem zB (xs:List Int) (j:Nat) (h:j<xs.length):((xs.take j++List.replicate (xs.length-j) 0).set j (xs.getD j 0))=xs.take (j+1)++List.replicate (xs.length-(j+1)) 0:=by
 have hl:(xs.take j).length=j:=by simp;omega
 rw[List.set_append_right _ _ Ff,hl,Nat.sub_self,jx xs j h,show xs.length-j=(xs.length-(j+1))+1 by omega,List.replicate_succ,List.set_cons_zero];simp
theorem oK (v:Value) (xs:List Int) (w:World) (h:ag w v xs) (hbig:xs.length<=1099511627776):
  Calls Tryz.prog 61 #[v] w fun e w'=>∃u,e=.returned u/\Own w' w.heap.size u xs/\iO w w':=by
 obtain⟨i0,hi,hz0,hz1,hz2⟩:=info_parts Gz;obtain⟨ao,cap,rfl,hl,⟨hm, -⟩,hc⟩:=h;obtain⟨n,hn⟩:=Fe xs.length
 rw[<-hn]at hl hc hbig⊢;have HN:Hid (n=xs.length):=hn;clear hn;unfold maxLen at hm;have hcell:∀j,j<n->∃b off,ao=some ⟨b,off,none⟩/\b<w.heap.size/\w.cell? ⟨b,off+j,none⟩=some (.int .i64 (xs.getD j 0)):=by
  intro j hj;rcases hc with e|⟨b,off,e,h4⟩
  ·have:=HN.out;rw[e]at this;simp at this;omega
  ·exact⟨b,off,e,World.block_lt_of_cell? w _ (h4 j hj),h4 j hj⟩
 clear hc;go_enter Tryz.func61,Tryz.ntmps61;go_wp2_with (refine wpList_make_full _ rfl _ _ 22 rfl w.heap.size 2 i0 (.int .i64 0) 1 Tryz.underlying22 hi hz0 hz1 _ _ _ _ n rfl rfl rfl rfl (by rw[hz2];omega) (by unfold maxLen;omega) (Nat.le_refl _) ?_)
 intro w1 hown hgr;rw[uu]at hown;have HO:Hid (Own w1 w.heap.size (.slice (some ⟨w.heap.size,0,none⟩) n n) (List.replicate n 0)/\iO w w1):=by
  refine⟨?_,(Below.refl _ _).grown hgr (Nat.le_refl _) (fun k e=>by cases e)⟩;unfold Own;simpa using hown
 clear hown hgr;go_wp2;go_loopw [4] (fun i wr=>∃j:Nat,j<=n/\i=.int .i64 j/\Hid (Own wr w.heap.size (.slice (some ⟨w.heap.size,0,none⟩) n n) (xs.take j++List.replicate (xs.length-j) 0)/\iO w wr)) (fun i _=>n-(intOf i).toNat)
 case atStart=>exact⟨0,Nat.zero_le _,rfl,by have this:=HO.out;rw[HN.out]at this⊢;simpa[Hid]using this⟩
 case round=>
  obtain⟨j,hj,rfl,HR⟩:=hrel;have hn':=HN.out;have hlen:(xs.take j++List.replicate (xs.length-j) (0:Int)).length=n:=by simp;omega
  by_cases hlt:(j:Int)<(n:Int)
  ·obtain⟨b,off,rfl,hb,hc0⟩:=hcell j Ff
   have hc1:=(HR.out.2.cell (p:=⟨b,off+j,none⟩) hb).trans hc0;obtain⟨x,hx⟩:=Fe (xs.getD j 0)
   rw[<-hx]at hc1;have hown:wr.ownsRow w.heap.size 2 1 (.slice (some ⟨w.heap.size,0,none⟩) n n) n ((xs.take j++List.replicate (xs.length-j) 0).map (Value.int .i64)):=by
    have:=HR.out.1;unfold Own at this
    rwa[hlen]at this
   have hfr:=World.ownsRow.frozenAt hown j;obtain⟨y,hc⟩:∃y,wr.cell? ⟨w.heap.size,j,none⟩=some y:=by
    have:=World.ownsRow.cellAt hown j Ff;rw[this];exact⟨_,List.getElem?_eq_getElem (by simp;omega)⟩
   have hst:=World.ownsRow.stored hown j (.int .i64 x);have HS:Hid (Own (wr.setCell ⟨w.heap.size,j,none⟩ (.int .i64 x)) w.heap.size (.slice (some ⟨w.heap.size,0,none⟩) n n) (xs.take (j+1)++List.replicate (xs.length-(j+1)) 0)/\iO w (wr.setCell ⟨w.heap.size,j,none⟩ (.int .i64 x))):=by
    refine⟨?_,HR.out.2.setCell (Nat.le_refl _) _⟩;have:=hst.1;rw[<-List.map_set,hx,zB xs j Ff]at this;unfold Own;rw[<-hx]at this
    rwa[show(xs.take (j+1)++List.replicate (xs.length-(j+1)) (0:Int)).length=n by simp;omega]
   clear hst hown HR hlen hn' hcell hc0 hx HO;go_wp2;go_roundw
   case rel=>exact⟨j+1,by omega,by go_num,HS⟩
   case measure=>simp[intOf];omega
  ·clear hn' hlen
   go_wp2;go_ret;have hjn:j=xs.length:=by have:=HN.out;omega
   have this:=HR.out;rw[hjn,List.take_length,Nat.sub_self,List.replicate_zero,List.append_nil]at this;exact⟨_,rfl,this⟩
theorem Own.put {w:World} {base g n cap:Nat} {xs:List Int} (h:Own w base (.slice (some ⟨g,0,none⟩) n cap) xs) (hn:n=xs.length) (j:Nat) (hj:j<n) (x:Int):
  w.frozen? ⟨g,j,none⟩=false/\(∃y,w.cell? ⟨g,j,none⟩=some y)/\Own (w.setCell ⟨g,j,none⟩ (.int .i64 x)) base (.slice (some ⟨g,0,none⟩) n cap) (xs.set j x):=by
 subst hn;have hown:w.ownsRow base 2 1 (.slice (some ⟨g,0,none⟩) xs.length cap) xs.length (xs.map (Value.int .i64)):=h;refine⟨World.ownsRow.frozenAt hown j,?_,?_⟩
 ·rw[World.ownsRow.cellAt hown j Ff]
  exact⟨_,List.getElem?_eq_getElem (by simpa using hj)⟩
 ·have:=(World.ownsRow.stored hown j (.int .i64 x)).1
  rw[<-List.map_set]at this;unfold Own
  rwa[List.length_set]
theorem gK (v:Value) (xs:List Int) (w:World) (h:ag w v xs) (hbig:xs.length<=1099511627776):
  Calls Tryz.prog 94 #[v] w fun e w'=>∃u,e=.returned u/\Own w' w.heap.size u xs/\iO w w':=by
 obtain⟨i0,hi,hz0,hz1,hz2⟩:=info_parts Gz;obtain⟨ao,cap,rfl,hl,hm,hc⟩:=h;have hown:(w.alloc (.cells #[] 2)).ownsRow w.heap.size 2 1 (.slice (some ⟨w.heap.size,0,none⟩) 0 0) 0 []:=World.ownsRow_lit w #[] 0 (Nat.le_refl _) (Nat.zero_le _) rfl;rcases ao with _|ad
 ·have e0:cap=0:=hm.2 rfl
  subst e0;have e1:xs=[]:=List.eq_nil_of_length_eq_zero Ff;subst e1;clear hc hm hl;go_enter Tryz.func94,Tryz.ntmps94;go_wp2_with (at_builtin;refine wpList_append_own_none rfl _ _ 22 rfl w.heap.size 2 i0 1 Tryz.underlying22 hi _ _ _ rfl hown rfl ?_)
  go_wp2;go_ret;exact⟨_,rfl,hown,Fc⟩
 ·obtain⟨n,hn⟩:=Fe xs.length
  have hnews:∀j u,(xs.map (Value.int .i64))[j]?=some u->(w.alloc (.cells #[] 2)).cell? (ad.add j)=some u:=by
   intro j u hj;rcases hc with e|⟨b,off,e,h4⟩
   ·subst e;simp at hj
   ·cases e
    have hlt:j<xs.length:=by
     rcases Nat.lt_or_ge j xs.length with h|h
     ·exact h
     ·rw[List.getElem?_eq_none (by simpa using h)]at hj;cases hj
    have h5:=h4 j hlt;have hb:=World.block_lt_of_cell? w _ h5;rw[show(⟨b,off,none⟩:Addr).add j=⟨b,off+j,none⟩ by unfold Addr.add;split<;>simp_all];rw[World.cell?_of_block (w:=w) (Below.heap_alloc w _ b hb),h5];simp[List.getD,hlt]at hj⊢;exact hj
  have hone:∀u∈xs.map (Value.int .i64),u.oneCell'=true:=by
   intro u hu;obtain⟨x,_,rfl⟩:=List.mem_map.1 hu;rfl
  have hll:(xs.map (Value.int .i64)).length=n*1:=by simp[hn]
  rw[<-hn]at hbig hl⊢;have HN:Hid (n=xs.length):=hn;clear hn hc hm hl;go_enter Tryz.func94,Tryz.ntmps94;go_wp2_with (at_builtin;refine wpList_append_own _ rfl _ _ 22 rfl w.heap.size 2 i0 (.int .i64 0) 1 8 Tryz.underlying22 hi hz0 hz1 hz2 rfl Fh _ _ _ rfl hown _ n cap (xs.map (Value.int .i64)) rfl hll hnews hone (by unfold maxLen;omega) Ff Fg ?_)
  intro v' w1 hown' hgrow _;go_wp2;go_ret;refine⟨_,rfl,?_,((Below.refl w.heap.size w).alloc (Nat.le_refl _) _).grown hgrow Fg (fun g e=>by simp[Value.ownBlock]at e;omega)⟩;unfold Own;have:=HN.out;simpa[this]using hown'
theorem zC {w:World} {a:Option Addr} {len cap:Nat} {zs:List Int} (h:(a=none/\len=0/\cap=0/\zs=[])∨
  ∃x,a=some x/\len<=cap/\cap<=maxLen/\zs.length=cap/\(∀i,i<zs.length->w.cell? (x.add i)=some (.int .i64 (zs.getD i 0)))/\∀n∈zs,(Lit.int .i64 n).wf=true):
  ∃xs:List Int,xs.length=len/\ag w (.slice a len cap) xs:=by
 rcases h with⟨rfl,rfl,rfl,_⟩|⟨x,rfl,h1,h2,h3,h4,h5⟩
 ·exact⟨[],rfl,none,0,rfl,Nat.le_refl _,⟨Nat.zero_le _,fun _=>rfl⟩,.inl rfl⟩
 ·have hl:(zs.take len).length=len:=by simp;omega
  refine⟨zs.take len,hl,some x,cap,by rw[hl],by omega,⟨h2,fun e=>by cases e⟩,?_⟩;rcases Nat.eq_zero_or_pos len with rfl|hp
  ·exact .inl Fg
  ·obtain⟨b,off,rfl,hc⟩:=ints_at h4 Ff
   refine .inr ⟨b,off,rfl,fun j hj=>?_⟩;rw[hc j Ff];have hj':j<len:=by omega
   simp[List.getD,hj']
def bJ (x:Int):Bool:=decide (0<=x)&&decide (x<=9999)
def jK (n:Nat):Bool:=decide (1<=(n:Int))&&decide ((n:Int)<=8)
def aK (xs:List Int):Bool:=xs.all bJ&&jK xs.length
def Al (n:Int):List Int:=if 1<=n/\n<=8 then List.replicate n.toNat 0 else[]
def ex (xs:List Int) (i v:Int):Bool:=decide (0<=i)&&(decide (i<(xs.length:Int))&&bJ v)
def eV (xs:List Int) (i v:Int):List Int:=if aK xs then(if ex xs i v then xs.set i.toNat v else xs)else[]
def fy (xs:List Int) (i v:Int):Bool:=aK xs&&ex xs i v
def au (a b:List Int):Bool:=aK a&&(aK b&&decide (a.length=b.length))
def fi (a b:List Int) (s:Int) (k n:Nat):List Int:=(List.range n).map fun j=>if j<k/\inB s j=true then b.getD j 0 else a.getD j 0
def iW (n:Int):Bool:=decide (1<=n)&&decide (n<=8)
theorem yu {x:Int} (h0:1<=x) (h1:x<=8):iW x=true:=by simp[iW,h0,h1]
theorem sG {x:Int} (h:x<1∨8<x):iW x=false:=by simp[iW];omega
theorem yv (n:Nat):iW n=jK n:=rfl
theorem fR {a b:List Int} (h:au a b=true):aK a=true/\aK b=true/\a.length=b.length:=by
 simpa[au]using h
theorem yw {n:Nat} (h1:1<=n) (h8:n<=8):jK n=true:=by simp[jK];omega
theorem sH {n:Nat} (h:n<1∨8<n):jK n=false:=by simp[jK];omega
theorem bE {xs:List Int} (h:aK xs=true):1<=xs.length/\xs.length<=8:=by
 simp[aK,jK]at h;omega
theorem rx {xs:List Int} (h:aK xs=true):∀x∈xs,0<=x/\x<=9999:=by
 simp[aK,bJ]at h;exact h.1
theorem yx (xs:List Int) (j:Nat) (h:xs.length<=j):xs.getD j 0=0:=by
 simp[List.getD,List.getElem?_eq_none h]
theorem sI {xs:List Int} {j:Nat} (h:j<xs.length) (h1:(xs.take j).all bJ=true) (h2:bJ (xs.getD j 0)=true):(xs.take (j+1)).all bJ=true:=by
 rw[jx xs j h,List.all_append,h1];simpa using h2
theorem ry {xs:List Int} {j:Nat} (h:j<xs.length) (h2:bJ (xs.getD j 0)=false):xs.all bJ=false:=by
 rw[List.all_eq_false];exact⟨xs.getD j 0,by simp[List.getD,h],by rw[h2];simp⟩
theorem xQ (v:Value) (xs:List Int) (w:World) (h:ag w v xs) (hbig:xs.length<=1099511627776):
  Calls Tryz.prog 83 #[v] w fun e w'=>e=.returned (.bool (aK xs))/\w'=w:=by
 obtain⟨ao,cap,rfl,hl,⟨hm, -⟩,hc⟩:=h;obtain⟨n,hn⟩:=Fe xs.length
 rw[<-hn]at hl hc hbig⊢;have HN:Hid (n=xs.length):=hn;clear hn;unfold maxLen at hm;have hcell:∀j,j<n->∃b off,ao=some ⟨b,off,none⟩/\w.cell? ⟨b,off+j,none⟩=some (.int .i64 (xs.getD j 0)):=by
  intro j hj;rcases hc with e|⟨b,off,e,h4⟩
  ·have:=HN.out;rw[e]at this;simp at this;omega
  ·exact⟨b,off,e,h4 j hj⟩
 clear hc;go_enter Tryz.func83,Tryz.ntmps83;go_wp2;go_loop [3] (fun i=>∃j:Nat,j<=n/\i=.int .i64 j/\Hid ((xs.take j).all bJ=true)) (fun i=>n-(intOf i).toNat)
 case atStart=>exact⟨0,Nat.zero_le _,rfl,by simp[Hid]⟩
 case round=>
  obtain⟨j,hj,rfl,ht⟩:=hrel;by_cases hlt:(j:Int)<(n:Int)
  ·obtain⟨b,off,rfl,hc1⟩:=hcell j Ff
   clear hcell;obtain⟨x,hx⟩:=Fe (xs.getD j 0)
   rw[<-hx]at hc1;have HX:Hid (x=xs.getD j 0):=hx;clear hx;by_cases h0:0<=x
   ·by_cases h1:x<=9999
    ·go_wp2
     go_round
     case rel=>exact⟨j+1,by omega,by go_num,sI (by have:=HN.out;omega) ht.out (by rw[<-HX.out];simp[bJ,h0,h1])⟩
     case measure=>simp[intOf];omega
    ·go_wp2
     go_ret;exact⟨af (by simp[aK,ry (xs:=xs) (j:=j) (by have:=HN.out;omega) (by rw[<-HX.out];simp[bJ];omega)]),rfl⟩
   ·go_wp2
    go_ret;exact⟨af (by simp[aK,ry (xs:=xs) (j:=j) (by have:=HN.out;omega) (by rw[<-HX.out];simp[bJ];omega)]),rfl⟩
  ·have hall:Hid (aK xs=jK n):=by
    have hn':=HN.out;have h2:=ht.out;rw[List.take_of_length_le Ff]at h2;simp[Hid,aK,h2,<-hn']
   by_cases h1:1<=(n:Int)
   ·by_cases h8:(n:Int)<=8
    ·go_wp2
     go_ret;exact⟨af (by rw[hall.out,yw Ff Ff]),rfl⟩
    ·go_wp2
     go_ret;exact⟨af (by rw[hall.out,sH Ff]),rfl⟩
   ·go_wp2
    go_ret;exact⟨af (by rw[hall.out,sH Ff]),rfl⟩
theorem Am (w:World):Own (w.alloc (.cells #[] 2)) w.heap.size (.slice (some ⟨w.heap.size,0,none⟩) 0 0) []:=World.ownsRow_lit w #[] 0 (Nat.le_refl _) (Nat.zero_le _) rfl
theorem Ao (w:World) (o:Obj):iO w (w.alloc o):=Fc
def digit (n:Nat):UInt8:=UInt8.ofNat (48+n%10)
def dec (n:Nat):Bs:=if n<10 then[digit n]else dec (n/10)++[digit n]
def ce (n:Int):Bs:=if n<0 then 45::dec n.natAbs else dec n.natAbs
def vv (n:Nat):Bs:=if n=0 then[]else dec n
theorem qa (n:Nat) (h:n≠0):vv n=vv (n/10)++[digit n]:=by
 unfold vv;rw[if_neg h,dec];by_cases h10:n<10
 ·rw[if_pos h10,if_pos Ff];rfl
 ·rw[if_neg h10,if_neg Ff]
theorem kJ:dec 0=[digit 0]:=by rw[dec];rfl
theorem yF (k:Int) (h:k<0):k.tmod 10= -((k.natAbs%10:Nat):Int)/\k.tdiv 10= -((k.natAbs/10:Nat):Int):=by
 obtain⟨m,rfl⟩:∃m:Nat,k= -(m:Int):=⟨k.natAbs,by omega⟩
 rw[Int.neg_tmod,Int.neg_tdiv,Int.natAbs_neg,Int.natAbs_natCast];constructor<;>rfl
theorem yG (k:Int) (h:0<=k):k.tmod 10=((k.natAbs%10:Nat):Int)/\k.tdiv 10=((k.natAbs/10:Nat):Int):=by
 obtain⟨m,rfl⟩:∃m:Nat,k=(m:Int):=⟨k.natAbs,by omega⟩
 rw[Int.natAbs_natCast];constructor<;>rfl
theorem Aw (d:Nat) (h:d<=9):((digit d).toNat:Int)=48+(d:Int):=by
 have:(digit d).toNat=48+d%10:=by unfold digit;rw[UInt8.toNat_ofNat'];omega
 rw[this];omega
theorem Ej (w:World) (d:Nat) (h:d<=9):(convert 120 9 (.slice (some ⟨w.heap.size,0,none⟩) 1 1)).run Tryz.prog (w.alloc (.cells #[.int .u8 (48+(d:Int))] 5))=.ok (.string ⟨#[digit d]⟩) (w.alloc (.cells #[.int .u8 (48+(d:Int))] 5)):=by
 have:=run_convert_bytes_back (P:=Tryz.prog) (w.alloc (.cells #[.int .u8 (48+(d:Int))] 5)) 120 9 5 ⟨w.heap.size,0,none⟩ 1 [digit d] Tryz.underlying120 Tryz.underlying5 Tryz.underlying9 (by
  intro j hj;have e:j=0:=by simpa using hj
  subst e;have h1:(w.alloc (.cells #[.int .u8 (48+(d:Int))] 5)).heap[w.heap.size]?=some (.cells #[.int .u8 (48+(d:Int))] 5):=heap_alloc_new w _;have h2:=cell_of_row _ w.heap.size 0 _ _ _ h1;have h3:((([digit d]:List UInt8)[0]).toNat:Int)=48+(d:Int):=Aw d h;rw[h3];exact h2)
 exact this
theorem yH (n:Nat):digit (n%10)=digit n:=by unfold digit;rw[Nat.mod_mod]
theorem eI (k:Nat):∀n,n<10^(k+1)->(dec n).length<=k+1:=by
 induction k with
 |zero=>intro n h;rw[dec,if_pos Ff];simp
 |succ k ih=>
  intro n h;rw[dec];split
  ·simp
  ·have:=ih (n/10) (by rw[Nat.pow_succ]at h;omega)
   simp;omega
theorem _root_.ByteArray.mk_append_mk' (a b:List UInt8):(({data:=a.toArray}:ByteArray)++{data:=b.toArray})={data:=(a++b).toArray}:=ByteArray.mk_append_mk a b
def ij (n k:Int) (l:Bs):Prop:=(l=[]/\k=n)∨(l≠[]/\vv k.natAbs++l=dec n.natAbs)
theorem ij.step {n k k':Int} {l:Bs} {d:Nat} (h:ij n k l) (hg:l=[]∨k≠0) (hd:d=k.natAbs%10) (hk:k'.natAbs=k.natAbs/10):ij n k' (digit d::l):=by
 refine .inr ⟨by simp,?_⟩;rw[hk,hd,yH];rcases h with⟨rfl,rfl⟩|⟨h1,h2⟩
 ·by_cases h0:k.natAbs=0
  ·rw[h0];simp[vv,kJ]
  ·rw[<-qa _ h0];simp[vv,h0]
 ·have hk0:k≠0:=by
   rcases hg with h|h
   ·exact absurd h h1
   ·exact h
  rw[<-h2,qa k.natAbs Ff];simp
theorem ij.len {n k:Int} {l:Bs} (h:ij n k l) (h0: -9223372036854775808<=n) (h1:n<=9223372036854775807):l.length<=20:=by
 rcases h with⟨rfl,_⟩|⟨_,h2⟩
 ·simp
 ·have:=congrArg List.length h2
  have h3:=eI 19 n.natAbs Ff;rw[List.length_append]at this;omega
theorem ij.done {n:Int} {l:Bs} (h:ij n 0 l) (hl:l≠[]):l=dec n.natAbs:=by
 rcases h with⟨h,_⟩|⟨_,h2⟩
 ·exact absurd h hl
 ·simpa[vv]using h2
theorem nM (k k':Int) (q d:Nat) (l:Bs) (hk':k'.natAbs=q) (h:(q:Int)<k.natAbs∨(q:Int)=k.natAbs/\l=[]):
  2*(intOf (.int .i64 k')).natAbs+(match Value.string (({data:=#[digit d]}:ByteArray)++{data:=l.toArray})with| .string b=>if b.size=0 then 1 else 0|_=>0)<2*(intOf (.int .i64 k)).natAbs+(match Value.string ⟨l.toArray⟩with| .string b=>if b.size=0 then 1 else 0|_=>0):=by
 rw[ByteArray.mk_append_mk' [digit d] l];have e1:(⟨([digit d]++l).toArray⟩:ByteArray).size=l.length+1:=by simp[ByteArray.size]
 have e2:(⟨l.toArray⟩:ByteArray).size=l.length:=rfl;simp only[intOf,e1,e2,hk'];rcases h with h|⟨h,rfl⟩
 ·split<;>simp<;>omega
 ·simp;omega
theorem ir (n:Int) (w:World) (h0: -9223372036854775808<=n) (h1:n<=9223372036854775807):
  Calls Tryz.prog 57 #[.int .i64 n] w fun e w'=>e=.returned (S (ce n))/\iO w w':=by
 unfold S;go_enter Tryz.func57,Tryz.ntmps57;go_wp2;go_loopw [0,3] (fun m s wr=>∃(k:Int) (l:Bs),m=.int .i64 k/\s=.string ⟨l.toArray⟩/\-9223372036854775808<=k/\k<=9223372036854775807/\Hid (ij n k l/\iO w wr)) (fun m s _=>2*(intOf m).natAbs+(match s with| .string b=>if b.size=0 then 1 else 0|_=>0))
 case atStart=>exact⟨n,[],rfl,rfl,h0,h1,.inl ⟨rfl,rfl⟩,Below.refl _ _⟩
 case round=>
  obtain⟨k,l,rfl,rfl,hk0,hk1,HI⟩:=hrel;have hl20:=HI.out.1.len h0 h1;have hsz:(⟨l.toArray⟩:ByteArray).size=l.length:=rfl;by_cases hend:l≠[]/\k=0
  ·obtain⟨hl,rfl⟩:=hend
   have HE:Hid (l=dec n.natAbs):=HI.out.1.done hl;have hie:l.isEmpty=false:=by simpa using hl
   clear hl;by_cases hneg:n<0
   ·go_wp2
    go_ret;refine⟨congrArg (fun x=>Ending.returned (Value.string x)) ?_,HI.out.2⟩;rw[ByteArray.mk_append_mk' [45] l,ce,if_pos hneg,<-HE.out];rfl
   ·go_wp2
    go_ret;refine⟨congrArg (fun x=>Ending.returned (Value.string ⟨List.toArray x⟩)) ?_,HI.out.2⟩;rw[ce,if_neg Ff,<-HE.out]
  ·have hg:l=[]∨k≠0:=by
    by_cases h:l=[]
    ·exact .inl h
    ·exact .inr (fun e=>hend ⟨h,e⟩)
   clear hend;obtain⟨d,hd⟩:∃d:Nat,d=k.natAbs%10:=⟨_,rfl⟩
   obtain⟨q,hq⟩:∃q:Nat,q=k.natAbs/10:=⟨_,rfl⟩
   have hd9:(d:Int)<=9:=by omega
   have hq9:(q:Int)<=922337203685477580:=by omega
   have hconv:=Ej wr d Ff;have HM:Hid ((q:Int)<k.natAbs∨(q:Int)=k.natAbs/\l=[]):=by
    rcases hg with h|h
    ·by_cases h0:k=0
     ·exact .inr ⟨by subst h0;simp at hq;omega,h⟩
     ·exact .inl Ff
    ·exact .inl Ff
   have HS:Hid (∀k':Int,k'.natAbs=q->ij n k' (digit d::l)):=fun k' e=>HI.out.1.step hg hd (by rw[e,hq])
   have HB:Hid (iO w (wr.alloc (.cells #[.int .u8 (48+(d:Int))] 5))):=HI.out.2.alloc HI.out.2.size _;have hgo:l.isEmpty=true∨(l.isEmpty=false/\(k !=0)=true):=by
    by_cases h:l=[]
    ·exact .inl (by simp[h])
    ·refine .inr ⟨by simpa using h,?_⟩
     rcases hg with h'|h'
     ·exact absurd h' h
     ·simpa using h'
   have key:∀k':Int,k'.natAbs=q->(∃(k:Int) (l_1:Bs),Value.int .i64 k'=Value.int .i64 k/\Value.string (({data:=#[digit d]}:ByteArray)++{data:=l.toArray})=.string ⟨l_1.toArray⟩/\-9223372036854775808<=k/\k<=9223372036854775807/\Hid (ij n k l_1/\iO w (wr.alloc (.cells #[.int .u8 (48+(d:Int))] 5)))):=fun k' e=>
    ⟨k',digit d::l,rfl,by rw[ByteArray.mk_append_mk' [digit d] l];rfl,by omega,by omega,HS.out k' e,HB.out⟩
   have hlen:Hid ((⟨l.toArray⟩:ByteArray).size=l.length):=rfl;have kneg:∀e:(k<0),k.tmod 10= -(d:Int)/\k.tdiv 10= -(q:Int):=fun e=>by rw[hd,hq];exact yF k e
   have kpos:∀e:(0<=k),k.tmod 10=(d:Int)/\k.tdiv 10=(q:Int):=fun e=>by rw[hd,hq];exact yG k e
   clear hd hq hg;rcases hgo with hie|⟨hie,hkn⟩
   all_goals
    by_cases hneg:k<0
    ·obtain⟨hmod,hdiv⟩:=kneg hneg
     clear kneg kpos;by_cases hd0:0<(d:Int)
     ·go_wp2
      go_roundw
      case rel=>exact key (-(q:Int)) Ff
      case measure=>exact nM k _ q _ l Ff HM.out
     ·obtain rfl:d=0:=by omega
      have e48:(48:Int)+((0:Nat):Int)=48:=rfl;rw[e48]at hconv;simp only[e48]at key;go_wp2;go_roundw
      case rel=>exact key (-(q:Int)) Ff
      case measure=>exact nM k _ q _ l Ff HM.out
    ·obtain⟨hmod,hdiv⟩:=kpos Ff
     clear kneg kpos;go_wp2;go_roundw
     case rel=>exact key (q:Int) Ff
     case measure=>exact nM k _ q _ l Ff HM.out
end Go.Proofs.YthldeiojlllkdaaGreatDoor
