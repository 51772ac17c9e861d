/- More of the law on frames, of plain lists: the frames one behind the other, up to the j-th. -/
import Derived.Test.YtflbcjgkdokhiaaGreatDoorM8
import Derived.Test.YtflbcjgkdokhiaaGreatDoorRows
import Derived.Test.YtflbcjgkdokhiaaGreatDoorM1
import Derived.WalkKit
import Derived.ProofKit
import Derived.OpenShut
import Derived.WalkSmall
import Derived.WalkSpells
import Derived.BigQuiet
import Derived.Below
import Derived.Laws.Tables
import Derived.Laws.ResultCell
import Derived.Test.YtflbcjgkdokhiaaGreatDoorM4
import Derived.Test.YtflbcjgkdokhiaaGreatDoorM3
namespace Go.Proofs.YtflbcjgkdokhiaaGreatDoor
open Go.RowKit
theorem cat_take (xs:List Bs) (j:Nat) (h:j<xs.length):cat (xs.take (j+1))=cat (xs.take j)++framed (xs.getD j []):=by
 rw[List.take_succ_eq_append_getElem h,cat_snoc]
 simp[h]
theorem cat_take_len (xs:List Bs) (j:Nat):(cat (xs.take j)).length≤(cat xs).length:=by
 have h2:cat xs=cat (xs.take j)++cat (xs.drop j):=by rw[cat,cat,cat,←List.flatten_append,←List.map_append,List.take_append_drop]
 rw[h2,List.length_append]
 omega
theorem plainB_len {l:Bs} (h:plainB l=true):l.length≤300:=by
 simp only[plainB,Bool.and_eq_true,decide_eq_true_eq]at h
 exact h.2
theorem framedS_yes {l:Bs} (h:plainB l=true):framedS l=framed l:=by simp[framedS,h]
theorem getD_mem (xs:List Bs) (j:Nat) (h:j<xs.length):xs.getD j []∈xs:=by simp[h]
end Go.Proofs.YtflbcjgkdokhiaaGreatDoor
set_option maxRecDepth 20000
set_option maxHeartbeats 400000
namespace Go.Proofs.YtflbcjgkdokhiaaGreatDoor
open Go.ChangeShapes Go.WideShapes Go.ChangeAt Go.RowKit
structure Rc where
 e:Int
 s:Int
 t:Int
 n:Int
def sameR (r q:Rc):Bool:=decide (r.e=q.e)&&decide (r.s=q.s)&&decide (r.t=q.t)&&decide (r.n=q.n)
def Rc.zero:Rc:=⟨0,0,0,0⟩
def epI (n:Int):Bool:=decide (0≤n)&&decide (n≤100000)
def stI (n:Int):Bool:=decide (1≤n)&&decide (n≤3)
def Rc.ok (r:Rc):Bool:=epI r.e&&stI r.s&&epI r.t&&epI r.n
def Rc.Fit (r:Rc):Prop:=(-9223372036854775808≤r.e∧r.e≤9223372036854775807)∧(-9223372036854775808≤r.s∧r.s≤9223372036854775807)∧(-9223372036854775808≤r.t∧r.t≤9223372036854775807)∧(-9223372036854775808≤r.n∧r.n≤9223372036854775807)
theorem Rc.ok_iff (r:Rc):r.ok=true↔(0≤r.e∧r.e≤100000)∧(1≤r.s∧r.s≤3)∧(0≤r.t∧r.t≤100000)∧(0≤r.n∧r.n≤100000):=by
 simp[Rc.ok,epI,stI,and_assoc]
def recA (r:Rc):Array Value:=#[.int .i64 r.e,.int .i64 r.s,.int .i64 r.t,.int .i64 r.n]
def RV (r:Rc):Value:=.agg (recA r)
theorem sinN_any (x lo hi:Int) (w:World):
  Calls Tryz.prog 42 #[.int .i64 x,.int .i64 lo,.int .i64 hi] w fun e w'=>e=.returned (.bool (decide (lo≤x)&&decide (x≤hi)))∧w'=w:=by
 by_cases h0:lo≤x
 ·by_cases h1:x≤hi
  ·have he:(decide (lo≤x)&&decide (x≤hi))=true:=by simp[h0,h1]
   rw[he]
   clear he
   go_enter Tryz.func42,Tryz.ntmps42
   go_wp2
   go_ret
   exact⟨ret_bool (by simp),rfl⟩
  ·have he:(decide (lo≤x)&&decide (x≤hi))=false:=by simp[h1]
   rw[he]
   clear he
   go_enter Tryz.func42,Tryz.ntmps42
   go_wp2
   go_ret
   exact⟨ret_bool (by simp),rfl⟩
 ·have he:(decide (lo≤x)&&decide (x≤hi))=false:=by simp[h0]
  rw[he]
  clear he
  go_enter Tryz.func42,Tryz.ntmps42
  go_wp2
  go_ret
  exact⟨ret_bool (by simp),rfl⟩
theorem sepoch_any (x:Int) (w:World):
  Calls Tryz.prog 74 #[.int .i64 x] w fun e w'=>e=.returned (.bool (epI x))∧w'=w:=by
 have c1:=sinN_any x 0 100000 w
 unfold epI
 go_enter Tryz.func74,Tryz.ntmps74
 go_wp2_with fail
 refine c1.mono ?_
 rintro e w' ⟨rfl,hw⟩;subst w'
 clear c1
 go_wp2_with fail
 go_ret
 exact⟨rfl,rfl⟩
theorem iepoch_any (x:Int) (w:World):
  Calls Tryz.prog 104 #[.int .i64 x] w fun e w'=>e=.returned (.bool (epI x))∧w'=w:=by
 by_cases h0:0≤x
 ·by_cases h1:x≤100000
  ·have he:epI x=true:=by simp[epI,h0,h1]
   rw[he]
   clear he
   go_enter Tryz.func104,Tryz.ntmps104
   go_wp2
   go_ret
   exact⟨ret_bool (by simp),rfl⟩
  ·have he:epI x=false:=by simp[epI,h1]
   rw[he]
   clear he
   go_enter Tryz.func104,Tryz.ntmps104
   go_wp2
   go_ret
   exact⟨ret_bool (by simp),rfl⟩
 ·have he:epI x=false:=by simp[epI,h0]
  rw[he]
  clear he
  go_enter Tryz.func104,Tryz.ntmps104
  go_wp2
  go_ret
  exact⟨ret_bool (by simp),rfl⟩
theorem istate_any (x:Int) (w:World):
  Calls Tryz.prog 144 #[.int .i64 x] w fun e w'=>e=.returned (.bool (stI x))∧w'=w:=by
 by_cases h0:1≤x
 ·by_cases h1:x≤3
  ·have he:stI x=true:=by simp[stI,h0,h1]
   rw[he]
   clear he
   go_enter Tryz.func144,Tryz.ntmps144
   go_wp2
   go_ret
   exact⟨ret_bool (by simp),rfl⟩
  ·have he:stI x=false:=by simp[stI,h1]
   rw[he]
   clear he
   go_enter Tryz.func144,Tryz.ntmps144
   go_wp2
   go_ret
   exact⟨ret_bool (by simp),rfl⟩
 ·have he:stI x=false:=by simp[stI,h0]
  rw[he]
  clear he
  go_enter Tryz.func144,Tryz.ntmps144
  go_wp2
  go_ret
  exact⟨ret_bool (by simp),rfl⟩
end Go.Proofs.YtflbcjgkdokhiaaGreatDoor
namespace Go.Proofs.YtflbcjgkdokhiaaGreatDoor
open Go.RowKit
def recW:Bs:=[114,101,99,111,114,100]
def showR (r:Rc):Bs:=recW++32::(decI r.e++32::(decI r.s++32::(decI r.t++32::decI r.n)))
def recOf (ws:List Bs):Rc:=⟨num (ws.getD 0 []),num (ws.getD 1 []),num (ws.getD 2 []),num (ws.getD 3 [])⟩
def goodW (ws:List Bs):Bool:=decide (ws.length=4)&&ws.all okN&&(recOf ws).ok
def readR (s:Bs):Option Rc:=if(splitB 32 s).head? =some recW∧goodW (splitB 32 s).tail=true then some (recOf (splitB 32 s).tail)else none
theorem splitB_show (r:Rc) (h:r.ok=true):splitB 32 (showR r)=[recW,dec r.e.toNat,dec r.s.toNat,dec r.t.toNat,dec r.n.toNat]:=by
 rw[Rc.ok_iff]at h
 unfold showR
 rw[decI_pos h.1.1,decI_pos (by omega:0≤r.s),decI_pos h.2.2.1.1,decI_pos h.2.2.2.1]
 have hr:∀b∈recW,b≠32:=by decide
 have hd:∀n,∀b∈dec n,b≠32:=fun n b hb=>(dec_ne n b hb).2
 rw[splitB_app 32 _ _ hr,splitB_app 32 _ _ (hd _),splitB_app 32 _ _ (hd _),splitB_app 32 _ _ (hd _),splitB_word 32 _ (hd _)]
theorem readR_show (r:Rc) (h:r.ok=true):readR (showR r)=some r:=by
 have hs:=splitB_show r h
 have hk:=(Rc.ok_iff r).1 h
 obtain⟨a1,a2⟩:=read_dec r.e.toNat (by omega)
 obtain⟨b1,b2⟩:=read_dec r.s.toNat (by omega)
 obtain⟨c1,c2⟩:=read_dec r.t.toNat (by omega)
 obtain⟨d1,d2⟩:=read_dec r.n.toNat (by omega)
 have hr:recOf [dec r.e.toNat,dec r.s.toNat,dec r.t.toNat,dec r.n.toNat]=r:=by
  unfold recOf
  simp only[List.getD_cons_zero,List.getD_cons_succ,a2,b2,c2,d2]
  obtain⟨e,s,t,n⟩:=r
  dsimp only at hk⊢
  simp only[Rc.mk.injEq]
  omega
 unfold readR
 rw[hs]
 simp only[List.head?_cons,List.tail_cons,hr]
 have hg:goodW [dec r.e.toNat,dec r.s.toNat,dec r.t.toNat,dec r.n.toNat]=true:=by
  unfold goodW
  rw[hr,h]
  simp[a1,b1,c1,d1]
 simp[hg]
theorem showR_read (s:Bs) (r:Rc) (h:readR s=some r):r.ok=true∧showR r=s:=by
 unfold readR at h
 split at h
 ·rename_i hc
  obtain⟨h1,h2⟩:=hc
  simp only[Option.some.injEq]at h
  have hj:=joinB_split 32 s
  cases hs:splitB 32 s with
  |nil=>exact absurd hs (splitB_ne 32 s)
  |cons w0 ws=>
   rw[hs]at h1 h2 h hj
   simp only[List.head?_cons,Option.some.injEq,List.tail_cons]at h1 h2 h
   unfold goodW at h2
   simp only[Bool.and_eq_true,decide_eq_true_eq]at h2
   obtain⟨⟨h4,ha⟩,hk⟩:=h2
   rw[h]at hk
   match ws,h4 with
   |[a,b,c,d],_=>
    have hk':=(Rc.ok_iff r).1 hk
    refine⟨hk,?_⟩
    simp only[List.all_cons,List.all_nil,Bool.and_true,Bool.and_eq_true]at ha
    subst h h1
    simp only[recOf,List.getD_cons_zero,List.getD_cons_succ]at hk'⊢
    unfold showR
    simp only
    rw[decI_pos hk'.1.1,decI_pos (by omega:0≤num b),decI_pos hk'.2.2.1.1,decI_pos hk'.2.2.2.1]
    rw[read_back a ha.1 hk'.1.1,read_back b ha.2.1 (by omega),read_back c ha.2.2.1 hk'.2.2.1.1,read_back d ha.2.2.2 hk'.2.2.2.1]
    rw[←hj]
    simp[joinB]
 ·simp at h
theorem readR_ok (s:Bs) (r:Rc) (h:readR s=some r):r.ok=true:=(showR_read s r h).1
end Go.Proofs.YtflbcjgkdokhiaaGreatDoor
namespace Go.Proofs.YtflbcjgkdokhiaaGreatDoor
open Go.RowKit
def posB (c:UInt8) (l:Bs):Nat:=(l.takeWhile (fun b=>b !=c)).length
theorem posB_le (c:UInt8) (l:Bs):posB c l≤l.length:=(List.takeWhile_prefix _).length_le
theorem posB_cons (c b:UInt8) (l:Bs):posB c (b::l)=if b=c then 0 else posB c l+1:=by
 unfold posB
 by_cases h:b=c
 ·simp[h]
 ·simp[h]
theorem posB_all (c:UInt8) (l:Bs):posB c l=l.length↔l.all (fun b=>b !=c)=true:=by
 induction l with
 |nil=>simp[posB]
 |cons b l ih=>
  rw[posB_cons]
  by_cases h:b=c
  ·simp[h]
  ·simp[h,ih]
def behind (c:UInt8) (l:Bs):Bs:=l.drop (posB c l+1)
def before (c:UInt8) (l:Bs):Bs:=l.take (posB c l)
theorem behind_len_le (c:UInt8) (l:Bs):(behind c l).length≤l.length:=by simp[behind]
def posC (c:UInt8) (l:Bs):Nat:=(l.takeWhile (fun b=>b !=c)).length
def splitN (c:UInt8):Nat→Bs→List Bs
 |0,l=>[l]
 |k+1,l=>if posC c l=l.length then[l]else l.take (posC c l)::splitN c k (l.drop (posC c l+1))
theorem splitB_first (c:UInt8) (l:Bs):splitB c l=if posC c l=l.length then[l]else l.take (posC c l)::splitB c (l.drop (posC c l+1)):=by
 induction l with
 |nil=>simp[splitB,posC]
 |cons b l ih=>
  by_cases h:b=c
  ·subst h
   simp[splitB,posC]
  ·have hp:posC c (b::l)=posC c l+1:=by simp[posC,h]
   rw[splitB,if_neg h,ih,hp]
   by_cases h2:posC c l=l.length
   ·simp[h2,ahead]
   ·simp[h2,ahead]
theorem splitB_len (c:UInt8) (l:Bs):(splitB c l).length≤l.length+1:=by
 induction l with
 |nil=>simp[splitB]
 |cons b l ih=>
  rw[splitB]
  split
  ·simp;omega
  ·cases hs:splitB c l with
   |nil=>simp[ahead]
   |cons p ps=>rw[hs]at ih;simp[ahead]at ih⊢;omega
theorem splitN_or (c:UInt8) (k:Nat):∀l:Bs,splitN c k l=splitB c l∨((splitN c k l).length=k+1∧k+1<(splitB c l).length):=by
 induction k with
 |zero=>
  intro l
  rw[splitN,splitB_first]
  by_cases h:posC c l=l.length
  ·simp[h]
  ·right
   have:=splitB_ne c (l.drop (posC c l+1))
   have:=List.length_pos_iff.2 this
   simp[h];omega
 |succ k ih=>
  intro l
  rw[splitN,splitB_first]
  by_cases h:posC c l=l.length
  ·simp[h]
  ·simp only[h,if_false]
   rcases ih (l.drop (posC c l+1))with e|⟨e1,e2⟩
   ·left;rw[e]
   ·right;simp only[List.length_cons];omega
theorem posC_is (c:UInt8) (l:Bs):posC c l=posB c l:=rfl
end Go.Proofs.YtflbcjgkdokhiaaGreatDoor
namespace Go.Proofs.YtflbcjgkdokhiaaGreatDoor
open Go.RowKit
def framesE:Nat→Nat→Bs→List (Bs×Nat)
 |0,_,_=>[]
 |k+1,a,s=>if(firstB (s.drop a)).2=0 then[]else((firstB (s.drop a)).1,a+(firstB (s.drop a)).2)::framesE k (a+(firstB (s.drop a)).2) s
def endOf (a:Nat) (l:List (Bs×Nat)):Nat:=l.foldl (fun _ x=>x.2) a
theorem framesE_is (s:Bs):∀(k a:Nat),(framesE k a s).map Prod.fst=(framesN k (s.drop a)).1∧endOf a (framesE k a s)=a+(framesN k (s.drop a)).2:=by
 intro k
 induction k with
 |zero=>intro a;simp[framesE,framesN,endOf]
 |succ k ih=>
  intro a
  rw[framesE,framesN]
  by_cases h:(firstB (s.drop a)).2=0
  ·simp[h,endOf]
  ·have:=ih (a+(firstB (s.drop a)).2)
   rw[←List.drop_drop]at this
   rw[if_neg h,if_neg h]
   refine⟨by simp[this.1],?_⟩
   show endOf (a+(firstB (s.drop a)).2) (framesE k (a+(firstB (s.drop a)).2) s)=_
   rw[this.2]
   simp only
   omega
def wholeE (s:Bs):List (Bs×Nat):=framesE 2000 0 s
theorem framesE_texts (s:Bs):(wholeE s).map Prod.fst=(framesB s).1:=by have:=(framesE_is s 2000 0).1;simpa[framesB,wholeE]using this
def EInv (s:Bs) (pre:List (Bs×Nat)) (a:Nat):Prop:=wholeE s=pre++framesE (2000-pre.length) a s
theorem EInv.start (s:Bs):EInv s [] 0:=by simp[EInv,wholeE]
theorem EInv.next {s:Bs} {pre:List (Bs×Nat)} {a:Nat} (h:EInv s pre a) (hl:pre.length<2000) (hn:(firstB (s.drop a)).2≠0):
  EInv s (pre++[((firstB (s.drop a)).1,a+(firstB (s.drop a)).2)]) (a+(firstB (s.drop a)).2)∧pre.length<(wholeE s).length:=by
 unfold EInv at h⊢
 obtain⟨k,hk⟩:∃k,2000-pre.length=k+1:=⟨2000-pre.length-1,by omega⟩
 rw[hk,framesE,if_neg hn]at h
 refine⟨?_,by rw[h];simp⟩
 have hk2:2000-(pre++[((firstB (s.drop a)).1,a+(firstB (s.drop a)).2)]).length=k:=by simp;omega
 rw[hk2,h]
 simp
theorem EInv.stop {s:Bs} {pre:List (Bs×Nat)} {a:Nat} (h:EInv s pre a) (hn:(firstB (s.drop a)).2=0∨2000≤pre.length):pre=wholeE s:=by
 rw[h]
 rcases hn with hn|hn
 ·cases hk:2000-pre.length with
  |zero=>simp[framesE]
  |succ k=>rw[framesE,if_pos hn];simp
 ·rw[show 2000-pre.length=0 by omega];simp[framesE]
theorem firstB_text_len (s:Bs):(firstB s).1.length≤s.length:=by
 by_cases h:(firstB s).2=0
 ·rw[firstB_zero s h];simp
 ·obtain⟨_,hf,_⟩:=firstB_sound s h
  have h1:=congrArg List.length hf
  have h2:=firstB_le s
  rw[framed_len,List.length_take,Nat.min_eq_left h2]at h1
  have h3:(firstB s).1.length≤(body (firstB s).1).length:=by simp[body];omega
  omega
end Go.Proofs.YtflbcjgkdokhiaaGreatDoor
namespace Go.Proofs.YtflbcjgkdokhiaaGreatDoor
open Go.RowKit
def stepE (a:Option (Rc×Nat)) (x:Bs×Nat):Option (Rc×Nat):=match readR x.1 with
 |some r=>some (r,x.2)
 |none=>a
def recallE (l:List (Bs×Nat)):Option (Rc×Nat):=l.foldl stepE none
def recallB (s:Bs):Option (Rc×Nat):=recallE (wholeE s)
theorem recallE_snoc (l:List (Bs×Nat)) (x:Bs×Nat):recallE (l++[x])=stepE (recallE l) x:=by simp[recallE]
def recR (a:Option (Rc×Nat)):Rc:=(a.map Prod.fst).getD Rc.zero
def recAt (a:Option (Rc×Nat)):Nat:=(a.map Prod.snd).getD 0
theorem framesE_ends (s:Bs):∀(k a i:Nat) (h:i<(framesE k a s).length),((framesE k a s)[i]).2=a+(cat (((framesE k a s).map Prod.fst).take (i+1))).length:=by
 intro k
 induction k with
 |zero=>intro a i h;simp[framesE]at h
 |succ k ih=>
  intro a i h
  by_cases h0:(firstB (s.drop a)).2=0
  ·exfalso
   rw[framesE,if_pos h0]at h
   simp at h
  ·obtain⟨_,_,h3⟩:=firstB_sound (s.drop a) h0
   have e:framesE (k+1) a s=((firstB (s.drop a)).1,a+(firstB (s.drop a)).2)::framesE k (a+(firstB (s.drop a)).2) s:=by rw[framesE,if_neg h0]
   simp only[e]
   cases i with
   |zero=>
    simp only[List.getElem_cons_zero,List.map_cons,Nat.zero_add,List.take_succ_cons,List.take_zero]
    rw[cat_cons,List.length_append,←h3]
    simp[cat]
   |succ i=>
    have hi:i<(framesE k (a+(firstB (s.drop a)).2) s).length:=by rw[e]at h;simpa using h
    have:=ih (a+(firstB (s.drop a)).2) i hi
    simp only[List.getElem_cons_succ,List.map_cons,List.take_succ_cons]
    rw[this,cat_cons,List.length_append,←h3]
    omega
theorem wholeE_at (s:Bs) (i:Nat) (h:i<(framesB s).1.length):∃h':i<(wholeE s).length,(wholeE s)[i]=((framesB s).1.getD i [],(cat ((framesB s).1.take (i+1))).length):=by
 have ht:=framesE_texts s
 have hl:(wholeE s).length=(framesB s).1.length:=by rw[←ht,List.length_map]
 refine⟨by omega,?_⟩
 have h2:=framesE_ends s 2000 0 i (show i<(wholeE s).length by omega)
 have e:framesE 2000 0 s=wholeE s:=rfl
 simp only[e]at h2
 rw[ht,Nat.zero_add]at h2
 have h3:((wholeE s)[i]'(by omega)).1=(framesB s).1.getD i []:=by
  have:(framesB s).1.getD i []=((wholeE s).map Prod.fst).getD i []:=by rw[ht]
  rw[this]
  simp[List.getD,show i<(wholeE s).length by omega]
 exact Prod.ext h3 h2
theorem recall_step (s:Bs) (i:Nat) (h:i<(framesB s).1.length):recallE ((wholeE s).take (i+1))=stepE (recallE ((wholeE s).take i)) ((framesB s).1.getD i [],(cat ((framesB s).1.take (i+1))).length):=by
 obtain⟨h1,h2⟩:=wholeE_at s i h
 rw[List.take_succ_eq_append_getElem h1,recallE_snoc,h2]
theorem recall_all (s:Bs):recallE ((wholeE s).take (framesB s).1.length)=recallB s:=by
 have hl:(wholeE s).length=(framesB s).1.length:=by rw[←framesE_texts,List.length_map]
 rw[←hl,List.take_length]
 rfl
theorem stepE_at (a:Option (Rc×Nat)) (x:Bs×Nat) (m:Nat) (ha:recAt a≤m) (hx:x.2≤m):recAt (stepE a x)≤m:=by
 unfold stepE
 split
 ·exact hx
 ·exact ha
theorem recall_le_take (s:Bs) (i:Nat) (h:i≤(framesB s).1.length):recAt (recallE ((wholeE s).take i))≤s.length:=by
 induction i with
 |zero=>simp[recallE,recAt]
 |succ i ih=>
  rw[recall_step s i (by omega)]
  refine stepE_at _ _ _ (ih (by omega)) ?_
  have h1:=cat_take_len (framesB s).1 (i+1)
  have h2:=(framesB_sound s).2.2.1
  have h3:=framesB_le s
  dsimp only
  omega
theorem recall_le (s:Bs):recAt (recallB s)≤s.length:=by rw[←recall_all];exact recall_le_take s _ (Nat.le_refl _)
theorem plain_show (r:Rc) (h:r.ok=true):plainB (showR r)=true∧(showR r).length≤40:=by
 have hk:=(Rc.ok_iff r).1 h
 have e:showR r=recW++32::(dec r.e.toNat++32::(dec r.s.toNat++32::(dec r.t.toNat++32::dec r.n.toNat))):=by
  unfold showR
  rw[decI_pos hk.1.1,decI_pos (by omega:0≤r.s),decI_pos hk.2.2.1.1,decI_pos hk.2.2.2.1]
 have l1:=dec_len 5 r.e.toNat (by omega)
 have l2:=dec_len 5 r.s.toNat (by omega)
 have l3:=dec_len 5 r.t.toNat (by omega)
 have l4:=dec_len 5 r.n.toNat (by omega)
 have hl:(showR r).length≤40:=by rw[e];simp[recW];omega
 refine⟨?_,hl⟩
 have hd:∀n,(dec n).all (fun b=>b !=10)=true:=fun n=>by
  rw[List.all_eq_true]
  intro b hb
  simpa using(dec_ne n b hb).1
 unfold plainB
 rw[e]at hl⊢
 have hw:recW.all (fun b=>b !=10)=true:=by decide
 simp only[List.all_append,List.all_cons,hd,hw]
 simp only[Bool.and_eq_true,decide_eq_true_eq]
 refine⟨by decide,by omega⟩
theorem half_none (r:Rc) (p:Nat) (h:r.ok=true) (hp:p<(framed (showR r)).length):(firstB ((framed (showR r)).take p)).2=0:=by
 apply firstB_line
 have hb:=body_ne (plain_show r h).1
 rw[framed_len]at hp
 rw[framed_body,List.take_append_of_le_length (by omega),List.all_eq_true]
 intro b hm
 exact List.all_eq_true.1 hb b (List.mem_of_mem_take hm)
theorem none_nil:(firstB ([]:Bs)).2=0:=firstB_line rfl
theorem split_four (l:Bs):(splitN 32 (min 5 (l.length+1)-1) l=splitB 32 l)∨((splitN 32 (min 5 (l.length+1)-1) l).length≠4∧(splitB 32 l).length≠4):=by
 rcases splitN_or 32 (min 5 (l.length+1)-1) l with e|⟨e1,e2⟩
 ·exact .inl e
 ·right
  have:=splitB_len 32 l
  omega
end Go.Proofs.YtflbcjgkdokhiaaGreatDoor
