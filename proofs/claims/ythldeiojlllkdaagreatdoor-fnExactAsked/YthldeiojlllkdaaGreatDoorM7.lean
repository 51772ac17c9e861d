/- More of the law on frames, of plain lists: the frames one behind the other, up to the j-th. -/
import Derived.Test.YthldeiojlllkdaaGreatDoorM1
import Derived.Test.YthldeiojlllkdaaGreatDoorM6
import Derived.Test.YthldeiojlllkdaaGreatDoorRows
import Derived.WalkKit
import Derived.ProofKit
import Derived.OpenShut
import Derived.WalkSmall
import Derived.WalkSpells
import Derived.BigQuiet
import Derived.Below
import Derived.Laws.Tables
import Derived.Laws.ResultCell
import Derived.Test.YthldeiojlllkdaaGreatDoorM2
import Derived.Test.YthldeiojlllkdaaGreatDoorM5
set_option maxRecDepth 20000
set_option maxHeartbeats 400000
namespace Go.Proofs.YthldeiojlllkdaaGreatDoor
open Go.ChangeShapes Go.WideShapes Go.ChangeAt Go.RowKit
section
open Go.RowKit
theorem AB (xs:List Bs) (j:Nat) (h:j<xs.length):cat (xs.take (j+1))=cat (xs.take j)++aF (xs.getD j []):=by
 rw[List.take_succ_eq_append_getElem h,kM];simp[h]
theorem kN (xs:List Bs) (j:Nat):(cat (xs.take j)).length<=(cat xs).length:=by
 have h2:cat xs=cat (xs.take j)++cat (xs.drop j):=by rw[cat,cat,cat,<-List.flatten_append,<-List.map_append,List.take_append_drop]
 rw[h2,List.length_append];omega
theorem vA {l:Bs} (h:bP l=true):l.length<=300:=by
 simp only[bP,Bool.and_eq_true,decide_eq_true_eq]at h;exact h.2
theorem my {l:Bs} (h:bP l=true):dR l=aF l:=by simp[dR,h]
theorem kO (xs:List Bs) (j:Nat) (h:j<xs.length):xs.getD j []∈xs:=by simp[h]
end
structure Rc where
 e:Int
 s:Int
 t:Int
 n:Int
def d8 (r q:Rc):Bool:=decide (r.e=q.e)&&decide (r.s=q.s)&&decide (r.t=q.t)&&decide (r.n=q.n)
def Rc.zero:Rc:=⟨0,0,0,0⟩
def epI (n:Int):Bool:=decide (0<=n)&&decide (n<=100000)
def stI (n:Int):Bool:=decide (1<=n)&&decide (n<=3)
def Rc.ok (r:Rc):Bool:=epI r.e&&stI r.s&&epI r.t&&epI r.n
def Rc.Fit (r:Rc):Prop:=(-9223372036854775808<=r.e/\r.e<=9223372036854775807)/\(-9223372036854775808<=r.s/\r.s<=9223372036854775807)/\(-9223372036854775808<=r.t/\r.t<=9223372036854775807)/\(-9223372036854775808<=r.n/\r.n<=9223372036854775807)
theorem Rc.ok_iff (r:Rc):r.ok=true↔(0<=r.e/\r.e<=100000)/\(1<=r.s/\r.s<=3)/\(0<=r.t/\r.t<=100000)/\(0<=r.n/\r.n<=100000):=by
 simp[Rc.ok,epI,stI,and_assoc]
def db (r:Rc):Array Value:=#[.int .i64 r.e,.int .i64 r.s,.int .i64 r.t,.int .i64 r.n]
def RV (r:Rc):Value:=.agg (db r)
theorem uI (x lo hi:Int) (w:World):
  Calls Tryz.prog 44 #[.int .i64 x,.int .i64 lo,.int .i64 hi] w fun e w'=>e=.returned (.bool (decide (lo<=x)&&decide (x<=hi)))/\w'=w:=by
 by_cases h0:lo<=x
 ·by_cases h1:x<=hi
  ·have he:(decide (lo<=x)&&decide (x<=hi))=true:=by simp[h0,h1]
   rw[he];clear he;go_enter Tryz.func44,Tryz.ntmps44;go_wp2;go_ret;exact⟨af (by simp),rfl⟩
  ·have he:(decide (lo<=x)&&decide (x<=hi))=false:=by simp[h1]
   rw[he];clear he;go_enter Tryz.func44,Tryz.ntmps44;go_wp2;go_ret;exact⟨af (by simp),rfl⟩
 ·have he:(decide (lo<=x)&&decide (x<=hi))=false:=by simp[h0]
  rw[he];clear he;go_enter Tryz.func44,Tryz.ntmps44;go_wp2;go_ret;exact⟨af (by simp),rfl⟩
theorem kx (x:Int) (w:World):
  Calls Tryz.prog 88 #[.int .i64 x] w fun e w'=>e=.returned (.bool (epI x))/\w'=w:=by
 have c1:=uI x 0 100000 w;unfold epI;go_enter Tryz.func88,Tryz.ntmps88;go_wp2_with fail
 refine mo c1 ?_;clear c1;go_wp2_with fail
 go_ret;exact⟨rfl,rfl⟩
theorem ky (x:Int) (w:World):
  Calls Tryz.prog 221 #[.int .i64 x] w fun e w'=>e=.returned (.bool (epI x))/\w'=w:=by
 by_cases h0:0<=x
 ·by_cases h1:x<=100000
  ·have he:epI x=true:=by simp[epI,h0,h1]
   rw[he];clear he;go_enter Tryz.func221,Tryz.ntmps221;go_wp2;go_ret;exact⟨af (by simp),rfl⟩
  ·have he:epI x=false:=by simp[epI,h1]
   rw[he];clear he;go_enter Tryz.func221,Tryz.ntmps221;go_wp2;go_ret;exact⟨af (by simp),rfl⟩
 ·have he:epI x=false:=by simp[epI,h0]
  rw[he];clear he;go_enter Tryz.func221,Tryz.ntmps221;go_wp2;go_ret;exact⟨af (by simp),rfl⟩
theorem wX (x:Int) (w:World):
  Calls Tryz.prog 222 #[.int .i64 x] w fun e w'=>e=.returned (.bool (stI x))/\w'=w:=by
 by_cases h0:1<=x
 ·by_cases h1:x<=3
  ·have he:stI x=true:=by simp[stI,h0,h1]
   rw[he];clear he;go_enter Tryz.func222,Tryz.ntmps222;go_wp2;go_ret;exact⟨af (by simp),rfl⟩
  ·have he:stI x=false:=by simp[stI,h1]
   rw[he];clear he;go_enter Tryz.func222,Tryz.ntmps222;go_wp2;go_ret;exact⟨af (by simp),rfl⟩
 ·have he:stI x=false:=by simp[stI,h0]
  rw[he];clear he;go_enter Tryz.func222,Tryz.ntmps222;go_wp2;go_ret;exact⟨af (by simp),rfl⟩
section
open Go.RowKit
def gP:Bs:=[114,101,99,111,114,100]
def cy (r:Rc):Bs:=gP++32::(bV r.e++32::(bV r.s++32::(bV r.t++32::bV r.n)))
def dc (ws:List Bs):Rc:=⟨num (ws.getD 0 []),num (ws.getD 1 []),num (ws.getD 2 []),num (ws.getD 3 [])⟩
def mT (ws:List Bs):Bool:=decide (ws.length=4)&&ws.all okN&&(dc ws).ok
def cE (s:Bs):Option Rc:=if(ay 32 s).head? =some gP/\mT (ay 32 s).tail=true then some (dc (ay 32 s).tail)else none
theorem uJ (r:Rc) (h:r.ok=true):ay 32 (cy r)=[gP,dec r.e.toNat,dec r.s.toNat,dec r.t.toNat,dec r.n.toNat]:=by
 rw[Rc.ok_iff]at h;unfold cy;rw[eg h.1.1,eg (by omega:0<=r.s),eg h.2.2.1.1,eg h.2.2.2.1];have hr:∀b∈gP,b≠32:=by decide
 have hd:∀n,∀b∈dec n,b≠32:=fun n b hb=>(iY n b hb).2
 rw[fF 32 _ _ hr,fF 32 _ _ (hd _),fF 32 _ _ (hd _),fF 32 _ _ (hd _),uD 32 _ (hd _)]
theorem wZ (r:Rc) (h:r.ok=true):cE (cy r)=some r:=by
 have hs:=uJ r h;have hk:=(Rc.ok_iff r).1 h;obtain⟨a1,a2⟩:=ly r.e.toNat (by omega);obtain⟨b1,b2⟩:=ly r.s.toNat (by omega);obtain⟨c1,c2⟩:=ly r.t.toNat (by omega);obtain⟨d1,d2⟩:=ly r.n.toNat (by omega);have hr:dc [dec r.e.toNat,dec r.s.toNat,dec r.t.toNat,dec r.n.toNat]=r:=by
  unfold dc;simp only[List.getD_cons_zero,List.getD_cons_succ,a2,b2,c2,d2];obtain⟨e,s,t,n⟩:=r;dsimp only at hk⊢;simp only[Rc.mk.injEq];omega
 unfold cE;rw[hs];simp only[List.head?_cons,List.tail_cons,hr];have hg:mT [dec r.e.toNat,dec r.s.toNat,dec r.t.toNat,dec r.n.toNat]=true:=by
  unfold mT;rw[hr,h];simp[a1,b1,c1,d1]
 simp[hg]
theorem xa (s:Bs) (r:Rc) (h:cE s=some r):r.ok=true/\cy r=s:=by
 unfold cE at h;split at h
 ·rename_i hc
  obtain⟨h1,h2⟩:=hc;simp only[Option.some.injEq]at h;have hj:=uG 32 s;cases hs:ay 32 s with
  |nil=>exact absurd hs (dU 32 s)
  |cons w0 ws=>
   rw[hs]at h1 h2 h hj;simp only[List.head?_cons,Option.some.injEq,List.tail_cons]at h1 h2 h;unfold mT at h2;simp only[Bool.and_eq_true,decide_eq_true_eq]at h2;obtain⟨⟨h4,ha⟩,hk⟩:=h2;rw[h]at hk
   match ws,h4 with
   |[a,b,c,d],_=>
    have hk':=(Rc.ok_iff r).1 hk;refine⟨hk,?_⟩;simp only[List.all_cons,List.all_nil,Bool.and_true,Bool.and_eq_true]at ha;subst h h1;simp only[dc,List.getD_cons_zero,List.getD_cons_succ]at hk'⊢;unfold cy;simp only;rw[eg hk'.1.1,eg (by omega:0<=num b),eg hk'.2.2.1.1,eg hk'.2.2.2.1];rw[jy a ha.1 hk'.1.1,jy b ha.2.1 (by omega),jy c ha.2.2.1 hk'.2.2.1.1,jy d ha.2.2.2 hk'.2.2.2.1];rw[<-hj];simp[ic]
 ·simp at h
theorem Bu (s:Bs) (r:Rc) (h:cE s=some r):r.ok=true:=(xa s r h).1
end
section
open Go.RowKit
def posB (c:UInt8) (l:Bs):Nat:=(l.takeWhile (fun b=>b !=c)).length
theorem nz (c:UInt8) (l:Bs):posB c l<=l.length:=(List.takeWhile_prefix _).length_le
theorem lH (c b:UInt8) (l:Bs):posB c (b::l)=if b=c then 0 else posB c l+1:=by
 unfold posB;by_cases h:b=c
 ·simp[h]
 ·simp[h]
theorem sP (c:UInt8) (l:Bs):posB c l=l.length↔l.all (fun b=>b !=c)=true:=by
 induction l with
 |nil=>simp[posB]
 |cons b l ih=>
  rw[lH];by_cases h:b=c
  ·simp[h]
  ·simp[h,ih]
def behind (c:UInt8) (l:Bs):Bs:=l.drop (posB c l+1)
def cg (c:UInt8) (l:Bs):Bs:=l.take (posB c l)
theorem jK (c:UInt8) (l:Bs):(behind c l).length<=l.length:=by simp[behind]
def iW (c:UInt8) (l:Bs):Nat:=(l.takeWhile (fun b=>b !=c)).length
def de (c:UInt8):Nat->Bs->List Bs
 |0,l=>[l]
 |k+1,l=>if iW c l=l.length then[l]else l.take (iW c l)::de c k (l.drop (iW c l+1))
theorem fm (c:UInt8) (l:Bs):ay c l=if iW c l=l.length then[l]else l.take (iW c l)::ay c (l.drop (iW c l+1)):=by
 induction l with
 |nil=>simp[ay,iW]
 |cons b l ih=>
  by_cases h:b=c
  ·subst h
   simp[ay,iW]
  ·have hp:iW c (b::l)=iW c l+1:=by simp[iW,h]
   rw[ay,if_neg h,ih,hp];by_cases h2:iW c l=l.length
   ·simp[h2,eR]
   ·simp[h2,eR]
theorem vu (c:UInt8) (l:Bs):(ay c l).length<=l.length+1:=by
 induction l with
 |nil=>simp[ay]
 |cons b l ih=>
  rw[ay];split
  ·simp;omega
  ·cases hs:ay c l with
   |nil=>simp[eR]
   |cons p ps=>rw[hs]at ih;simp[eR]at ih⊢;omega
theorem yF (c:UInt8) (k:Nat):∀l:Bs,de c k l=ay c l∨((de c k l).length=k+1/\k+1<(ay c l).length):=by
 induction k with
 |zero=>
  intro l;rw[de,fm];by_cases h:iW c l=l.length
  ·simp[h]
  ·right
   have:=dU c (l.drop (iW c l+1));have:=List.length_pos_iff.2 this;simp[h];omega
 |succ k ih=>
  intro l;rw[de,fm];by_cases h:iW c l=l.length
  ·simp[h]
  ·simp only[h,if_false]
   rcases ih (l.drop (iW c l+1))with e|⟨e1,e2⟩
   ·left;rw[e]
   ·right;simp only[List.length_cons];omega
theorem kI (c:UInt8) (l:Bs):iW c l=posB c l:=rfl
end
section
open Go.RowKit
def cI:Nat->Nat->Bs->List (Bs×Nat)
 |0,_,_=>[]
 |k+1,a,s=>if(av (s.drop a)).2=0 then[]else((av (s.drop a)).1,a+(av (s.drop a)).2)::cI k (a+(av (s.drop a)).2) s
def yp (a:Nat) (l:List (Bs×Nat)):Nat:=l.foldl (fun _ x=>x.2) a
theorem xM (s:Bs):∀(k a:Nat),(cI k a s).map Prod.fst=(cv k (s.drop a)).1/\yp a (cI k a s)=a+(cv k (s.drop a)).2:=by
 intro k
 induction k with
 |zero=>intro a;simp[cI,cv,yp]
 |succ k ih=>
  intro a;rw[cI,cv];by_cases h:(av (s.drop a)).2=0
  ·simp[h,yp]
  ·have:=ih (a+(av (s.drop a)).2)
   rw[<-List.drop_drop]at this;rw[if_neg h,if_neg h];refine⟨by simp[this.1],?_⟩;show yp (a+(av (s.drop a)).2) (cI k (a+(av (s.drop a)).2) s)=_;rw[this.2];simp only;omega
def bR (s:Bs):List (Bs×Nat):=cI 2000 0 s
theorem ip (s:Bs):(bR s).map Prod.fst=(ar s).1:=by have:=(xM s 2000 0).1;simpa[ar,bR]using this
def mu (s:Bs) (pre:List (Bs×Nat)) (a:Nat):Prop:=bR s=pre++cI (2000-pre.length) a s
theorem mu.start (s:Bs):mu s [] 0:=by simp[mu,bR]
theorem mu.next {s:Bs} {pre:List (Bs×Nat)} {a:Nat} (h:mu s pre a) (hl:pre.length<2000) (hn:(av (s.drop a)).2≠0):
  mu s (pre++[((av (s.drop a)).1,a+(av (s.drop a)).2)]) (a+(av (s.drop a)).2)/\pre.length<(bR s).length:=by
 unfold mu at h⊢;obtain⟨k,hk⟩:∃k,2000-pre.length=k+1:=⟨2000-pre.length-1,by omega⟩
 rw[hk,cI,if_neg hn]at h;refine⟨?_,by rw[h];simp⟩;have hk2:2000-(pre++[((av (s.drop a)).1,a+(av (s.drop a)).2)]).length=k:=by simp;omega
 rw[hk2,h];simp
theorem mu.stop {s:Bs} {pre:List (Bs×Nat)} {a:Nat} (h:mu s pre a) (hn:(av (s.drop a)).2=0∨2000<=pre.length):pre=bR s:=by
 rw[h];rcases hn with hn|hn
 ·cases hk:2000-pre.length with
  |zero=>simp[cI]
  |succ k=>rw[cI,if_pos hn];simp
 ·rw[show 2000-pre.length=0 by omega];simp[cI]
theorem nv (s:Bs):(av s).1.length<=s.length:=by
 by_cases h:(av s).2=0
 ·rw[mw s h];simp
 ·obtain⟨_,hf,_⟩:=gh s h
  have h1:=congrArg List.length hf;have h2:=lK s;rw[gB,List.length_take,Nat.min_eq_left h2]at h1;have h3:(av s).1.length<=(fB (av s).1).length:=by simp[fB];omega
  omega
end
section
open Go.RowKit
def gg (a:Option (Rc×Nat)) (x:Bs×Nat):Option (Rc×Nat):=match cE x.1 with
 |some r=>some (r,x.2)
 |none=>a
def df (l:List (Bs×Nat)):Option (Rc×Nat):=l.foldl gg none
def aE (s:Bs):Option (Rc×Nat):=df (bR s)
theorem lB (l:List (Bs×Nat)) (x:Bs×Nat):df (l++[x])=gg (df l) x:=by simp[df]
def gQ (a:Option (Rc×Nat)):Rc:=(a.map Prod.fst).getD Rc.zero
def recAt (a:Option (Rc×Nat)):Nat:=(a.map Prod.snd).getD 0
theorem sl (s:Bs):∀(k a i:Nat) (h:i<(cI k a s).length),((cI k a s)[i]).2=a+(cat (((cI k a s).map Prod.fst).take (i+1))).length:=by
 intro k
 induction k with
 |zero=>intro a i h;simp[cI]at h
 |succ k ih=>
  intro a i h;by_cases h0:(av (s.drop a)).2=0
  ·exfalso
   rw[cI,if_pos h0]at h;simp at h
  ·obtain⟨_,_,h3⟩:=gh (s.drop a) h0
   have e:cI (k+1) a s=((av (s.drop a)).1,a+(av (s.drop a)).2)::cI k (a+(av (s.drop a)).2) s:=by rw[cI,if_neg h0]
   simp only[e];cases i with
   |zero=>
    simp only[List.getElem_cons_zero,List.map_cons,Nat.zero_add,List.take_succ_cons,List.take_zero];rw[iZ,List.length_append,<-h3];simp[cat]
   |succ i=>
    have hi:i<(cI k (a+(av (s.drop a)).2) s).length:=by rw[e]at h;simpa using h
    have:=ih (a+(av (s.drop a)).2) i hi;simp only[List.getElem_cons_succ,List.map_cons,List.take_succ_cons];rw[this,iZ,List.length_append,<-h3];omega
theorem mh (s:Bs) (i:Nat) (h:i<(ar s).1.length):∃h':i<(bR s).length,(bR s)[i]=((ar s).1.getD i [],(cat ((ar s).1.take (i+1))).length):=by
 have ht:=ip s;have hl:(bR s).length=(ar s).1.length:=by rw[<-ht,List.length_map]
 refine⟨by omega,?_⟩;have h2:=sl s 2000 0 i (show i<(bR s).length by omega);have e:cI 2000 0 s=bR s:=rfl;simp only[e]at h2;rw[ht,Nat.zero_add]at h2;have h3:((bR s)[i]'(by omega)).1=(ar s).1.getD i []:=by
  have:(ar s).1.getD i []=((bR s).map Prod.fst).getD i []:=by rw[ht]
  rw[this];simp[List.getD,show i<(bR s).length by omega]
 exact Prod.ext h3 h2
theorem jg (s:Bs) (i:Nat) (h:i<(ar s).1.length):df ((bR s).take (i+1))=gg (df ((bR s).take i)) ((ar s).1.getD i [],(cat ((ar s).1.take (i+1))).length):=by
 obtain⟨h1,h2⟩:=mh s i h;rw[List.take_succ_eq_append_getElem h1,lB,h2]
theorem kB (s:Bs):df ((bR s).take (ar s).1.length)=aE s:=by
 have hl:(bR s).length=(ar s).1.length:=by rw[<-ip,List.length_map]
 rw[<-hl,List.take_length];rfl
theorem Bv (a:Option (Rc×Nat)) (x:Bs×Nat) (m:Nat) (ha:recAt a<=m) (hx:x.2<=m):recAt (gg a x)<=m:=by
 unfold gg;split
 ·exact hx
 ·exact ha
theorem jh (s:Bs) (i:Nat) (h:i<=(ar s).1.length):recAt (df ((bR s).take i))<=s.length:=by
 induction i with
 |zero=>simp[df,recAt]
 |succ i ih=>
  rw[jg s i (by omega)];refine Bv _ _ _ (ih (by omega)) ?_;have h1:=kN (ar s).1 (i+1);have h2:=(dI s).2.2.1;have h3:=j9 s;dsimp only;omega
theorem jB (s:Bs):recAt (aE s)<=s.length:=by rw[<-kB];exact jh s _ (Nat.le_refl _)
theorem oS (r:Rc) (h:r.ok=true):bP (cy r)=true/\(cy r).length<=40:=by
 have hk:=(Rc.ok_iff r).1 h;have e:cy r=gP++32::(dec r.e.toNat++32::(dec r.s.toNat++32::(dec r.t.toNat++32::dec r.n.toNat))):=by
  unfold cy;rw[eg hk.1.1,eg (by omega:0<=r.s),eg hk.2.2.1.1,eg hk.2.2.2.1]
 have l1:=eI 5 r.e.toNat (by omega);have l2:=eI 5 r.s.toNat (by omega);have l3:=eI 5 r.t.toNat (by omega);have l4:=eI 5 r.n.toNat (by omega);have hl:(cy r).length<=40:=by rw[e];simp[gP];omega
 refine⟨?_,hl⟩;have hd:∀n,(dec n).all (fun b=>b !=10)=true:=fun n=>by
  rw[List.all_eq_true];intro b hb;simpa using(iY n b hb).1
 unfold bP;rw[e]at hl⊢;have hw:gP.all (fun b=>b !=10)=true:=by decide
 simp only[List.all_append,List.all_cons,hd,hw];simp only[Bool.and_eq_true,decide_eq_true_eq];refine⟨by decide,by omega⟩
theorem zM (r:Rc) (p:Nat) (h:r.ok=true) (hp:p<(aF (cy r)).length):(av ((aF (cy r)).take p)).2=0:=by
 apply mx;have hb:=nA (oS r h).1;rw[gB]at hp;rw[fc,List.take_append_of_le_length (by omega),List.all_eq_true];intro b hm;exact List.all_eq_true.1 hb b (List.mem_of_mem_take hm)
theorem uK:(av ([]:Bs)).2=0:=mx rfl
theorem oT (l:Bs):(de 32 (min 5 (l.length+1)-1) l=ay 32 l)∨((de 32 (min 5 (l.length+1)-1) l).length≠4/\(ay 32 l).length≠4):=by
 rcases yF 32 (min 5 (l.length+1)-1) l with e|⟨e1,e2⟩
 ·exact .inl e
 ·right
  have:=vu 32 l;omega
end
section
open Go.RowKit
theorem fR (s:Bs):(bR s).length=(ar s).1.length:=by
 rw[<-ip,List.length_map]
theorem Bh {s t:Bs} (h:(ar s).1=(ar t).1):bR s=bR t:=by
 apply List.ext_getElem (by rw[fR,fR,h]);intro i h1 h2;obtain⟨_,e1⟩:=mh s i (by rw[<-fR];exact h1);obtain⟨_,e2⟩:=mh t i (by rw[<-fR];exact h2);rw[e1,e2,h]
theorem qt {s t:Bs} (h:(ar s).1=(ar t).1):aE s=aE t:=by
 unfold aE;rw[Bh h]
theorem wO (s:Bs):recAt (aE s)<=(ar s).2:=by
 obtain⟨h1,h2,h3,h4⟩:=dI s;have e:(ar s).1=(ar (s.take (ar s).2)).1:=by
  rw[h2];have:=i6 (ar s).1 [] h1 2000 h4 (.inr uK);rw[List.append_nil]at this;exact(congrArg Prod.fst this).symm
 rw[qt e];have:=jB (s.take (ar s).2);rw[List.length_take]at this;omega
structure iw (log:Bs) (r:Rc) (up:Bool):Prop where
 is:(aE log).isSome=true
 rc:gQ (aE log)=r
 al:up=true->recAt (aE log)=log.length
theorem iw.frames {log:Bs} {r:Rc} (h:iw log r true):(ar log).2=log.length:=by
 have h1:=wO log;have h2:=j9 log;rw[h.al rfl]at h1;omega
theorem iw.isCat {log:Bs} {r:Rc} (h:iw log r true):log=cat (ar log).1:=by
 obtain⟨-,h2, -, -⟩:=dI log;rw[h.frames,List.take_length]at h2;exact h2
theorem uv {log:Bs} (hc:log=cat (ar log).1) (t rest:Bs) (hp:bP t=true) (hl:(ar log).1.length<2000) (hr:(av rest).2=0):
  ar (log++aF t++rest)=((ar log).1++[t],(log++aF t).length):=by
 obtain⟨h1, -, -, -⟩:=dI log;obtain⟨ts,hts⟩:=eX ((ar log).1)
 rw[<-hts]at h1 hc hl⊢;have hcat:log++aF t++rest=cat (ts++[t])++rest:=by rw[kM,<-hc]
 have hsl:(log++aF t).length=(cat (ts++[t])).length:=by rw[kM,<-hc]
 rw[hcat,hsl];refine i6 (ts++[t]) rest (fun x hx=>?_) 2000 (by simp;omega) (.inr hr);rcases List.mem_append.1 hx with hx|hx
 ·exact h1 x hx
 ·simp at hx;subst hx;exact hp
theorem uw {log:Bs} (hc:log=cat (ar log).1) (rest:Bs) (hr:(av rest).2=0):ar (log++rest)=((ar log).1,log.length):=by
 obtain⟨h1, -, -,h4⟩:=dI log;obtain⟨ts,hts⟩:=eX ((ar log).1)
 rw[<-hts]at h1 hc h4⊢;have:=i6 ts rest h1 2000 h4 (.inr hr);rw[<-hc]at this;exact this
theorem iw.noted {log:Bs} {r q:Rc} (h:iw log r true) (hq:q.ok=true) (hl:(ar log).1.length<2000):
  iw (log++aF (cy q)) q true/\(ar (log++aF (cy q))).1.length=(ar log).1.length+1:=by
 have hp:=(oS q hq).1;have f:=uv h.isCat (cy q) [] hp hl uK;rw[List.append_nil]at f;obtain⟨ts,hts⟩:=eX ((ar log).1)
 have hst:=jg (log++aF (cy q)) ts.length (by rw[f,<-hts];simp);have hall:=kB (log++aF (cy q));rw[f,<-hts]at hst hall;simp only[List.length_append,List.length_cons,List.length_nil,Nat.zero_add]at hall;rw[hst]at hall;have e1:(ts++[cy q]).getD ts.length []=cy q:=by simp
 have e2:(ts++[cy q]).take (ts.length+1)=ts++[cy q]:=List.take_of_length_le (by simp);have hsl:(log++aF (cy q)).length=(cat (ts++[cy q])).length:=by rw[kM,hts,<-h.isCat]
 simp only[e1,e2,gg,wZ q hq,<-hsl]at hall;refine⟨⟨by rw[<-hall];rfl,by rw[<-hall];rfl,fun _=>by rw[<-hall];rfl⟩,?_⟩;rw[f];simp
theorem iw.torn {log:Bs} {r q:Rc} (h:iw log r true) (hq:q.ok=true) (p:Nat) (hp:p<(aF (cy q)).length):
  iw (log++(aF (cy q)).take p) r false/\(ar (log++(aF (cy q)).take p)).1=(ar log).1/\(log++(aF (cy q)).take p).take (recAt (aE (log++(aF (cy q)).take p)))=log:=by
 have f:=uw h.isCat ((aF (cy q)).take p) (zM q p hq hp);have e:(ar (log++(aF (cy q)).take p)).1=(ar log).1:=by rw[f]
 have er:=qt e;refine⟨⟨by rw[er];exact h.is,by rw[er];exact h.rc,fun h=>by cases h⟩,e,?_⟩;rw[er,h.al rfl,List.take_left]
theorem iw.down {log:Bs} {r:Rc} {up:Bool} (h:iw log r up):iw log r false:=⟨h.is,h.rc,fun h=>by cases h⟩
end
section
open Go.RowKit
structure Cp where
 tr:Int
 op:Bool
 di:Int
 wa:Int
 ts:List Int
def bg (ts:List Int):Bool:=ts.all (fun t=>inI t 0 1000000000)
def Cp.zero:Cp:=⟨0,false,0,0,[]⟩
def Cp.mid (c:Cp):Bool:=inI c.tr 1 100000&&(bg c.ts&&inI c.ts.length 1 8)&&(inI c.di 0 (cN c.ts.length)&&inI c.wa 0 (cN c.ts.length))
def Cp.ok (c:Cp):Bool:=if c.tr=0 then(!c.op&&decide (c.di=0)&&decide (c.wa=0)&&decide (c.ts.length=0))else c.mid
def Cp.has (c:Cp) (i:Int):Bool:=decide (0<=i)&&decide (i<(c.ts.length:Int))
def Cp.mark (c:Cp) (i:Int):Cp:=if c.has i then{c with di:=cq c.di i}else c
def Cp.goes (c:Cp):Bool:=c.op&&decide (0<=fN c.di)&&decide (c.ts.getD (fN c.di).toNat 0≠1000000000)
def Cp.nx (c:Cp):Int:=if c.goes then fN c.di else-1
def Cp.next (c:Cp):Cp:=if c.goes then{c with di:=jn c.di (fN c.di),wa:=cq c.wa (fN c.di),ts:=c.ts.set (fN c.di).toNat (c.ts.getD (fN c.di).toNat 0+1)}else c
def orI (a b:Int):Int:=((a.toNat|||b.toNat:Nat):Int)
def Cp.again (c:Cp):Cp:={c with di:=orI c.di c.wa,wa:=0}
def Cp.clean (c:Cp):Bool:=c.ok&&c.op&&decide (c.di=0)&&decide (c.wa=0)
def Cp.made (n t:Int):Bool:=inI n 1 8&&inI t 1 100000
def Cp.new (n t:Int):Cp:=if Cp.made n t then⟨t,false,cN n,0,List.replicate n.toNat 0⟩else Cp.zero
def Cp.Mark (c:Cp) (i:Int):Cp:=if c.ok then c.mark i else Cp.zero
def Cp.Next (c:Cp):Cp:=if c.ok then c.next else Cp.zero
def Cp.Again (c:Cp):Cp:=if c.ok then c.again else Cp.zero
theorem yD:∀n:Nat,n<9->∀s:Nat,s<256->(s:Int)<=cN n->fN s<n:=by decide+kernel
theorem Av:∀n:Nat,n<9->∀s:Nat,s<256->(s:Int)<=cN n->∀i:Nat,i<n->cq s i<=cN n/\0<=cq s i:=by decide+kernel
theorem sM:∀s:Nat,s<256->∀i:Nat,i<8->jn s i<=s/\0<=jn s i:=by decide+kernel
theorem rA:∀n:Nat,n<9->cN n<256/\cN n=((2^n-1:Nat):Int):=by decide+kernel
theorem pZ {ts:List Int} (h:bg ts=true) (j:Nat) {x:Int} (hx:inI x 0 1000000000=true):bg (ts.set j x)=true:=by
 unfold bg at*;rw[List.all_eq_true]at*;intro y hy;rcases List.mem_or_eq_of_mem_set hy with hy|rfl
 ·exact h y hy
 ·exact hx
theorem sN {ts:List Int} (h:bg ts=true) (j:Nat):0<=ts.getD j 0/\ts.getD j 0<=1000000000:=by
 rcases Nat.lt_or_ge j ts.length with hj|hj
 ·unfold bg at h
  rw[List.all_eq_true]at h;have:=(aD _ _ _).1 (h _ (List.getElem_mem hj));simpa[hj]using this
 ·simp[List.getD_eq_getElem?_getD,List.getElem?_eq_none hj]
theorem nL (ts:List Int) (j:Nat) (h:j<ts.length) (h0:bg (ts.take j)=true) (hx:inI (ts.getD j 0) 0 1000000000=true):bg (ts.take (j+1))=true:=by
 unfold bg at*;rw[List.take_succ_eq_append_getElem h,List.all_append,h0];have:inI ts[j] 0 1000000000=true:=by simpa[h]using hx
 simp[this]
theorem qa (ts:List Int) (j:Nat) (h:j<ts.length) (hx:inI (ts.getD j 0) 0 1000000000=false):bg ts=false:=by
 unfold bg;rw[List.all_eq_false];exact⟨ts[j],List.getElem_mem h,by have:inI ts[j] 0 1000000000=false:=by{simpa[h]using hx};simp[this]⟩
structure Cp.Fit (c:Cp):Prop where
 len:c.ts.length<=8
 di0:0<=c.di
 di1:c.di<=cN c.ts.length
 wa0:0<=c.wa
 wa1:c.wa<=cN c.ts.length
 turns:bg c.ts=true
theorem Cp.fit {c:Cp} (h:c.ok=true):c.Fit:=by
 unfold Cp.ok Cp.mid at h;by_cases h0:c.tr=0
 ·rw[if_pos h0]at h
  simp only[Bool.and_eq_true,decide_eq_true_eq]at h;obtain⟨⟨⟨-,h1⟩,h2⟩,h3⟩:=h;have e:c.ts=[]:=List.length_eq_zero_iff.1 h3;exact⟨by omega,by omega,by rw[h1,h3];decide,by omega,by rw[h2,h3];decide,by rw[e];rfl⟩
 ·rw[if_neg h0]at h
  simp only[Bool.and_eq_true,aD]at h;obtain⟨⟨-,h1,h2⟩,⟨h3,h4⟩,h5,h6⟩:=h;exact⟨by omega,h3,h4,h5,h6,h1⟩
theorem Cp.Fit.d {c:Cp} (h:c.Fit):c.di<256:=by
 have:=(rA c.ts.length (by have:=h.len;omega)).1;have:=h.di1;omega
theorem Cp.Fit.w {c:Cp} (h:c.Fit):c.wa<256:=by
 have:=(rA c.ts.length (by have:=h.len;omega)).1;have:=h.wa1;omega
theorem Cp.Fit.first {c:Cp} (h:c.Fit):fN c.di<(c.ts.length:Int):=by
 have h1:=h.di0;have h2:=h.d;have h3:=h.di1;have h4:=h.len;obtain⟨n,e⟩:=dM h1;rw[e]at h2 h3⊢;exact yD _ (by omega) n (by omega) h3
theorem Cp.ok_of {c d:Cp} (h:c.ok=true) (ht:d.tr=c.tr) (ho:d.op=c.op) (hl:d.ts.length=c.ts.length) (hts:bg d.ts=true) (h0:0<=d.di) (h1:d.di<=cN c.ts.length) (h2:0<=d.wa) (h3:d.wa<=cN c.ts.length):d.ok=true:=by
 unfold Cp.ok Cp.mid at*;rw[ht,ho,hl,hts];by_cases e:c.tr=0
 ·rw[if_pos e]at h⊢
  simp only[Bool.and_eq_true,decide_eq_true_eq]at h⊢;rw[h.2]at h1 h3;have:cN ((0:Nat):Int)=0:=by decide
  rw[this]at h1 h3;exact⟨⟨⟨h.1.1.1,by omega⟩,by omega⟩,h.2⟩
 ·rw[if_neg e]at h⊢
  simp only[Bool.and_eq_true,aD]at h⊢;exact⟨⟨h.1.1,trivial,h.1.2.2⟩,⟨h0,h1⟩,h2,h3⟩
theorem xV (c:Cp) (i:Int):c.has i=true↔0<=i/\i<(c.ts.length:Int):=by simp[Cp.has]
theorem Cp.with_fit {c:Cp} (h:c.Fit) {s i:Int} (hs0:0<=s) (hs:s<=cN c.ts.length) (h0:0<=i) (h1:i<(c.ts.length:Int)):cq s i<=cN c.ts.length/\0<=cq s i:=by
 have h4:=h.len;have h5:=(rA c.ts.length (by omega)).1;obtain⟨n,rfl⟩:=dM hs0;obtain⟨k,rfl⟩:=dM h0;exact Av _ (by omega) n (by omega) hs k (by omega)
theorem sO {s i:Int} (hs0:0<=s) (hs:s<256) (h0:0<=i) (h1:i<8):jn s i<=s/\0<=jn s i:=by
 obtain⟨n,rfl⟩:=dM hs0;obtain⟨k,rfl⟩:=dM h0;exact sM n (by omega) k (by omega)
theorem Cp.mark_ok {c:Cp} (h:c.ok=true) (i:Int):(c.mark i).ok=true:=by
 unfold Cp.mark;split
 ·rename_i hi
  rw[xV]at hi;have f:=Cp.fit h;have:=Cp.with_fit f f.di0 f.di1 hi.1 hi.2;exact Cp.ok_of h rfl rfl rfl f.turns this.2 this.1 f.wa0 f.wa1
 ·exact h
theorem Cp.goes_iff (c:Cp):c.goes=true↔c.op=true/\0<=fN c.di/\c.ts.getD (fN c.di).toNat 0≠1000000000:=by simp[Cp.goes,and_assoc]
theorem Cp.next_ok {c:Cp} (h:c.ok=true):c.next.ok=true:=by
 unfold Cp.next;split
 ·rename_i hi
  rw[Cp.goes_iff]at hi;have f:=Cp.fit h;have f1:=f.first;have f2:=f.len;have h1:=Cp.with_fit f f.wa0 f.wa1 hi.2.1 f1;have h2:=sO f.di0 f.d hi.2.1 (by omega);have h3:=f.di1;have h4:=sN f.turns (fN c.di).toNat;have h5:=hi.2.2;exact Cp.ok_of h rfl rfl (by simp) (pZ f.turns _ ((aD _ _ _).2 (by omega))) h2.2 (by simp only;omega) h1.2 h1.1
 ·exact h
theorem Cp.zero_ok:Cp.zero.ok=true:=by decide
end
section
open Go.RowKit
structure Sn where
 tr:Int
 ts:List Int
def Sn.zero:Sn:=⟨0,[]⟩
def Sn.ok (s:Sn):Bool:=if s.tr=0 then decide (s.ts.length=0)else inI s.tr 1 100000&&(bg s.ts&&inI s.ts.length 1 8)
def Sn.fits (s:Sn) (t i n:Int):Bool:=decide (0<s.tr)&&decide (s.tr=t)&&decide (0<=i)&&decide (i<(s.ts.length:Int))&&decide (s.ts.getD i.toNat 0<n)
def Sn.Fits (s:Sn) (t i n:Int):Bool:=s.ok&&s.fits t i n
def Sn.takes (s:Sn) (t i n:Int):Bool:=s.fits t i n&&decide (n<=1000000000)
def Sn.got (s:Sn) (t i n:Int):Sn:=if s.takes t i n then{s with ts:=s.ts.set i.toNat n}else s
def Sn.Is (s:Sn) (t i n:Int):Bool:=s.ok&&s.takes t i n
def Sn.new (n t:Int):Sn:=if Cp.made n t then⟨t,List.replicate n.toNat 0⟩else Sn.zero
theorem Sn.takes_iff (s:Sn) (t i n:Int):s.takes t i n=true↔0<s.tr/\s.tr=t/\0<=i/\i<(s.ts.length:Int)/\s.ts.getD i.toNat 0<n/\n<=1000000000:=by
 unfold Sn.takes Sn.fits;simp only[Bool.and_eq_true,decide_eq_true_eq,and_assoc]
theorem Sn.ok_turns {s:Sn} (h:s.ok=true):bg s.ts=true:=by
 unfold Sn.ok at h;split at h
 ·simp only[decide_eq_true_eq]at h
  rw[List.eq_nil_of_length_eq_zero h];rfl
 ·simp only[Bool.and_eq_true]at h
  exact h.2.1
theorem Sn.got_ok {s:Sn} (h:s.ok=true) (t i n:Int):(s.got t i n).ok=true:=by
 unfold Sn.got;split
 ·rename_i hi
  rw[Sn.takes_iff]at hi;have ht:=sN (Sn.ok_turns h) i.toNat;unfold Sn.ok at h⊢;simp only at h⊢;split
  ·rename_i e;omega
  ·rename_i e
   rw[if_neg e]at h;simp only[Bool.and_eq_true,List.length_set]at h⊢;exact⟨h.1,pZ h.2.1 _ ((aD _ _ _).2 (by omega)),h.2.2⟩
 ·exact h
end
section
open Go.RowKit
structure Mg where
 dst:Int
 kd:Int
 tr:Int
 pl:Int
 tn:Int
 va:Int
 ep:Int
 h:Hd
def Mg.zero:Mg:=⟨0,0,0,0,0,0,0,Hd.zero⟩
def Hd.none (h:Hd):Bool:=decide (h.ks.length=0)&&decide (h.kd=0)&&decide (h.ho=0)&&decide (h.tu=0)
def Mg.ok (m:Mg):Bool:=inI m.dst 0 1&&inI m.kd 1 8&&epI m.tr&&im m.pl&&inI m.tn 0 1000000000&&bM m.va&&epI m.ep&&(m.h.ok||m.h.none)
structure Nd where
 id:Int
 up:Bool
 xs:List Int
 ys:List Int
 h:Hd
 log:Bs
 r:Rc
 c:Cp
 s:Sn
def Nd.zero:Nd:=⟨0,false,[],[],Hd.zero,[],Rc.zero,Cp.zero,Sn.zero⟩
def Nd.logB (n:Nd):Bool:=(aE n.log).isSome&&d8 (gQ (aE n.log)) n.r&&(!n.up||decide (n.log.take (recAt (aE n.log))=n.log))&&(n.up||(decide (n.c.tr=0)&&decide (n.s.tr=0)))
def Nd.copB (n:Nd):Bool:=decide (n.c.tr=0)||(decide (n.r.s≠3)&&decide (n.c.tr=n.r.t)&&decide (n.c.ts.length=n.ys.length))
def Nd.snkB (n:Nd):Bool:=decide (n.s.tr=0)||(decide (n.r.s=3)&&decide (n.s.tr=n.r.n)&&decide (n.s.ts.length=n.ys.length))
def Nd.ok (n:Nd):Bool:=(inI n.id 0 1&&au n.xs n.ys&&n.h.ok&&n.r.ok&&decide (n.log.length<=40000)&&n.c.ok&&n.s.ok)&&n.logB&&n.copB&&n.snkB
def Nd.new (id blocks:Int) (owns:Bool):Nd:=
 if iV blocks&&inI id 0 1 then
  ⟨id,true,Am blocks,Am blocks,Hd.new,aF (cy (if owns then⟨1,1,0,0⟩else⟨0,3,0,0⟩)),if owns then⟨1,1,0,0⟩else⟨0,3,0,0⟩,Cp.zero,Sn.zero⟩
 else Nd.zero
def Nd.made (id blocks:Int):Bool:=iV blocks&&inI id 0 1
def Nd.down (n:Nd) (set:Int):Nd:={n with up:=false,xs:=fi n.xs n.ys set 8 n.xs.length,ys:=fi n.xs n.ys set 8 n.xs.length,c:=Cp.zero,s:=Sn.zero}
def Nd.torn (n:Nd) (q:Rc) (t:Nat):Nd:={n with log:=n.log++(aF (cy q)).take ((aF (cy q)).length-min t (aF (cy q)).length)}
def Nd.note (n:Nd) (q:Rc) (torn:Int):Nd×Bool:=
 if 40000<n.log.length+(aF (cy q)).length then(n.down 0,false)
 else if 0<torn then((n.torn q torn.toNat).down 0,false)
 else({n with log:=n.log++aF (cy q),r:=q},true)
def Nd.ask (n:Nd) (who:Int) (b:Bs):Nd×An:=
 if !n.up|| !inI who 0 3 then(n,⟨7,[]⟩)
 else if aN b≠0 then(n,⟨4,bV (aN b)⟩)
 else if n.r.s=2 then(n,⟨5,[]⟩)
 else if n.r.s=3 then(n,⟨6,[]⟩)
 else
  let q:=(Sr.mk n.xs n.ys n.h).doing who (ax b)
  ({n with xs:=q.1.xs,ys:=q.1.ys,h:=q.1.h,c:=if decide (q.2.st=0)&&(ax b).chg then n.c.mark (ax b).p else n.c},q.2)
def Nd.msg (n:Nd) (k:Int):Mg:=⟨1-n.id,k,n.r.t,0,0,0,0,Hd.zero⟩
def Nd.hand (n:Nd):Mg:={n.msg 5 with ep:=n.r.e,h:=n.h}
def Nd.copy (n:Nd):Nd×List Mg×Bool:=
 if n.c.nx<0 then(n,[],false)
 else({n with c:=n.c.next},[{n.msg 3 with pl:=n.c.nx,tn:=n.c.next.ts.getD n.c.nx.toNat 0,va:=n.ys.getD n.c.nx.toNat 0}],true)
def Nd.back (n:Nd) (m:Mg) (k:Int):Mg:=⟨1-n.id,k,m.tr,0,0,0,0,Hd.zero⟩
def Nd.taken (n:Nd) (m:Mg):Mg:={n.back m 6 with ep:=m.ep+1}
def Nd.opened (n:Nd) (m:Mg):Nd×List Mg×Bool:=if n.c.tr=0∨n.c.tr≠m.tr∨n.c.op=true then(n,[],false)else({n with c:={n.c with op:=true}},[],true)
def Nd.copied (n:Nd) (m:Mg):Nd×List Mg×Bool:=
 let is:=n.s.takes m.tr m.pl m.tn
 let q:Nd:=if is then{n with s:=n.s.got m.tr m.pl m.tn,ys:=n.ys.set m.pl.toNat m.va}else n
 if q.s.tr=0∨q.s.tr≠m.tr∨(q.s.ts.length:Int)<=m.pl∨q.s.ts.getD m.pl.toNat 0<m.tn then(q,[],is)
 else(q,[{n.back m 4 with pl:=m.pl,tn:=m.tn}],true)
def Nd.handed (n:Nd) (m:Mg) (torn:Int):Nd×List Mg×Bool:=
 if m.h.ok=false∨m.ep=100000 then(n,[],false)
 else if n.s.tr≠0/\n.s.tr=m.tr/\n.r.e<=m.ep then
  let p:=({n with xs:=n.ys,h:=m.h}:Nd).note {n.r with e:=m.ep+1,s:=1} torn
  if p.2 then({p.1 with s:=Sn.zero},[n.taken m],true)else(p.1,[],true)
 else if m.ep<n.r.e then(n,[n.taken m],true)
 else(n,[],false)
def Nd.mine (n:Nd) (m:Mg):Bool:=decide (n.r.s=2)&&decide (n.r.t=m.tr)
def Nd.gone (n:Nd) (m:Mg) (torn:Int):Nd×List Mg×Bool:=
 if n.mine m=true/\n.r.e<m.ep then
  let p:=n.note {n.r with e:=m.ep,s:=3} torn
  (if p.2 then{p.1 with c:=Cp.zero}else p.1,[],true)
 else(n,[],false)
def Nd.kept (n:Nd) (m:Mg) (torn:Int):Nd×List Mg×Bool:=
 if n.mine m=true then
  let p:=n.note {n.r with s:=1} torn
  (if p.2 then{p.1 with c:=Cp.zero}else p.1,[],true)
 else(n,[],false)
def Nd.Ask (n:Nd) (who:Int) (b:Bs):Nd×An:=if n.ok then n.ask who b else(Nd.zero,⟨7,[]⟩)
end
end Go.Proofs.YthldeiojlllkdaaGreatDoor
