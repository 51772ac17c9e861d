/- More of the law on frames, of plain lists: the frames one behind the other, up to the j-th. -/
import Derived.Test.YthmnmaemnihkeaaGreatDoorM7
import Derived.Test.YthmnmaemnihkeaaGreatDoorRows
import Derived.Test.YthmnmaemnihkeaaGreatDoorM1
import Derived.WalkKit
import Derived.ProofKit
import Derived.OpenShut
import Derived.WalkSmall
import Derived.WalkSpells
import Derived.BigQuiet
import Derived.Below
import Derived.Laws.Tables
import Derived.Laws.ResultCell
import Derived.Test.YthmnmaemnihkeaaGreatDoorM4
import Derived.Test.YthmnmaemnihkeaaGreatDoorM3
namespace Go.Proofs.YthmnmaemnihkeaaGreatDoor
open Go.RowKit
theorem cat_take (xs:List Bs) (j:Nat) (h:j<xs.length):cat (xs.take (j+1))=cat (xs.take j)++framed (xs.getD j []):=by
 rw[List.take_succ_eq_append_getElem h,cat_snoc]
 simp[h]
theorem cat_take_len (xs:List Bs) (j:Nat):(cat (xs.take j)).length≤(cat xs).length:=by
 have h2:cat xs=cat (xs.take j)++cat (xs.drop j):=by rw[cat,cat,cat,←List.flatten_append,←List.map_append,List.take_append_drop]
 rw[h2,List.length_append]
 omega
theorem plainB_len {l:Bs} (h:plainB l=true):l.length≤300:=by
 simp only[plainB,Bool.and_eq_true,decide_eq_true_eq]at h
 exact h.2
theorem framedS_yes {l:Bs} (h:plainB l=true):framedS l=framed l:=by simp[framedS,h]
theorem getD_mem (xs:List Bs) (j:Nat) (h:j<xs.length):xs.getD j []∈xs:=by simp[h]
end Go.Proofs.YthmnmaemnihkeaaGreatDoor
set_option maxRecDepth 20000
set_option maxHeartbeats 400000
namespace Go.Proofs.YthmnmaemnihkeaaGreatDoor
open Go.ChangeShapes Go.WideShapes Go.ChangeAt Go.RowKit
structure Rc where
 e:Int
 s:Int
 t:Int
 n:Int
def sameR (r q:Rc):Bool:=decide (r.e=q.e)&&decide (r.s=q.s)&&decide (r.t=q.t)&&decide (r.n=q.n)
def Rc.zero:Rc:=⟨0,0,0,0⟩
def epI (n:Int):Bool:=decide (0≤n)&&decide (n≤100000)
def stI (n:Int):Bool:=decide (1≤n)&&decide (n≤3)
def Rc.ok (r:Rc):Bool:=epI r.e&&stI r.s&&epI r.t&&epI r.n
def Rc.Fit (r:Rc):Prop:=(-9223372036854775808≤r.e∧r.e≤9223372036854775807)∧(-9223372036854775808≤r.s∧r.s≤9223372036854775807)∧(-9223372036854775808≤r.t∧r.t≤9223372036854775807)∧(-9223372036854775808≤r.n∧r.n≤9223372036854775807)
theorem Rc.ok_iff (r:Rc):r.ok=true↔(0≤r.e∧r.e≤100000)∧(1≤r.s∧r.s≤3)∧(0≤r.t∧r.t≤100000)∧(0≤r.n∧r.n≤100000):=by
 simp[Rc.ok,epI,stI,and_assoc]
def recA (r:Rc):Array Value:=#[.int .i64 r.e,.int .i64 r.s,.int .i64 r.t,.int .i64 r.n]
def RV (r:Rc):Value:=.agg (recA r)
theorem sinN_any (x lo hi:Int) (w:World):
  Calls Tryz.prog 66 #[.int .i64 x,.int .i64 lo,.int .i64 hi] w fun e w'=>e=.returned (.bool (decide (lo≤x)&&decide (x≤hi)))∧w'=w:=by
 by_cases h0:lo≤x
 ·by_cases h1:x≤hi
  ·have he:(decide (lo≤x)&&decide (x≤hi))=true:=by simp[h0,h1]
   rw[he]
   clear he
   go_enter Tryz.func66,Tryz.ntmps66
   go_wp2
   go_ret
   exact⟨ret_bool (by simp),rfl⟩
  ·have he:(decide (lo≤x)&&decide (x≤hi))=false:=by simp[h1]
   rw[he]
   clear he
   go_enter Tryz.func66,Tryz.ntmps66
   go_wp2
   go_ret
   exact⟨ret_bool (by simp),rfl⟩
 ·have he:(decide (lo≤x)&&decide (x≤hi))=false:=by simp[h0]
  rw[he]
  clear he
  go_enter Tryz.func66,Tryz.ntmps66
  go_wp2
  go_ret
  exact⟨ret_bool (by simp),rfl⟩
theorem sepoch_any (x:Int) (w:World):
  Calls Tryz.prog 98 #[.int .i64 x] w fun e w'=>e=.returned (.bool (epI x))∧w'=w:=by
 have c1:=sinN_any x 0 100000 w
 unfold epI
 go_enter Tryz.func98,Tryz.ntmps98
 go_wp2_with fail
 refine c1.mono ?_
 rintro e w' ⟨rfl,hw⟩;subst w'
 clear c1
 go_wp2_with fail
 go_ret
 exact⟨rfl,rfl⟩
theorem iepoch_any (x:Int) (w:World):
  Calls Tryz.prog 126 #[.int .i64 x] w fun e w'=>e=.returned (.bool (epI x))∧w'=w:=by
 by_cases h0:0≤x
 ·by_cases h1:x≤100000
  ·have he:epI x=true:=by simp[epI,h0,h1]
   rw[he]
   clear he
   go_enter Tryz.func126,Tryz.ntmps126
   go_wp2
   go_ret
   exact⟨ret_bool (by simp),rfl⟩
  ·have he:epI x=false:=by simp[epI,h1]
   rw[he]
   clear he
   go_enter Tryz.func126,Tryz.ntmps126
   go_wp2
   go_ret
   exact⟨ret_bool (by simp),rfl⟩
 ·have he:epI x=false:=by simp[epI,h0]
  rw[he]
  clear he
  go_enter Tryz.func126,Tryz.ntmps126
  go_wp2
  go_ret
  exact⟨ret_bool (by simp),rfl⟩
theorem istate_any (x:Int) (w:World):
  Calls Tryz.prog 166 #[.int .i64 x] w fun e w'=>e=.returned (.bool (stI x))∧w'=w:=by
 by_cases h0:1≤x
 ·by_cases h1:x≤3
  ·have he:stI x=true:=by simp[stI,h0,h1]
   rw[he]
   clear he
   go_enter Tryz.func166,Tryz.ntmps166
   go_wp2
   go_ret
   exact⟨ret_bool (by simp),rfl⟩
  ·have he:stI x=false:=by simp[stI,h1]
   rw[he]
   clear he
   go_enter Tryz.func166,Tryz.ntmps166
   go_wp2
   go_ret
   exact⟨ret_bool (by simp),rfl⟩
 ·have he:stI x=false:=by simp[stI,h0]
  rw[he]
  clear he
  go_enter Tryz.func166,Tryz.ntmps166
  go_wp2
  go_ret
  exact⟨ret_bool (by simp),rfl⟩
end Go.Proofs.YthmnmaemnihkeaaGreatDoor
namespace Go.Proofs.YthmnmaemnihkeaaGreatDoor
open Go.RowKit
def recW:Bs:=[114,101,99,111,114,100]
def showR (r:Rc):Bs:=recW++32::(decI r.e++32::(decI r.s++32::(decI r.t++32::decI r.n)))
def recOf (ws:List Bs):Rc:=⟨num (ws.getD 0 []),num (ws.getD 1 []),num (ws.getD 2 []),num (ws.getD 3 [])⟩
def goodW (ws:List Bs):Bool:=decide (ws.length=4)&&ws.all okN&&(recOf ws).ok
def readR (s:Bs):Option Rc:=if(splitB 32 s).head? =some recW∧goodW (splitB 32 s).tail=true then some (recOf (splitB 32 s).tail)else none
theorem splitB_show (r:Rc) (h:r.ok=true):splitB 32 (showR r)=[recW,dec r.e.toNat,dec r.s.toNat,dec r.t.toNat,dec r.n.toNat]:=by
 rw[Rc.ok_iff]at h
 unfold showR
 rw[decI_pos h.1.1,decI_pos (by omega:0≤r.s),decI_pos h.2.2.1.1,decI_pos h.2.2.2.1]
 have hr:∀b∈recW,b≠32:=by decide
 have hd:∀n,∀b∈dec n,b≠32:=fun n b hb=>(dec_ne n b hb).2
 rw[splitB_app 32 _ _ hr,splitB_app 32 _ _ (hd _),splitB_app 32 _ _ (hd _),splitB_app 32 _ _ (hd _),splitB_word 32 _ (hd _)]
theorem readR_show (r:Rc) (h:r.ok=true):readR (showR r)=some r:=by
 have hs:=splitB_show r h
 have hk:=(Rc.ok_iff r).1 h
 obtain⟨a1,a2⟩:=read_dec r.e.toNat (by omega)
 obtain⟨b1,b2⟩:=read_dec r.s.toNat (by omega)
 obtain⟨c1,c2⟩:=read_dec r.t.toNat (by omega)
 obtain⟨d1,d2⟩:=read_dec r.n.toNat (by omega)
 have hr:recOf [dec r.e.toNat,dec r.s.toNat,dec r.t.toNat,dec r.n.toNat]=r:=by
  unfold recOf
  simp only[List.getD_cons_zero,List.getD_cons_succ,a2,b2,c2,d2]
  obtain⟨e,s,t,n⟩:=r
  dsimp only at hk⊢
  simp only[Rc.mk.injEq]
  omega
 unfold readR
 rw[hs]
 simp only[List.head?_cons,List.tail_cons,hr]
 have hg:goodW [dec r.e.toNat,dec r.s.toNat,dec r.t.toNat,dec r.n.toNat]=true:=by
  unfold goodW
  rw[hr,h]
  simp[a1,b1,c1,d1]
 simp[hg]
theorem showR_read (s:Bs) (r:Rc) (h:readR s=some r):r.ok=true∧showR r=s:=by
 unfold readR at h
 split at h
 ·rename_i hc
  obtain⟨h1,h2⟩:=hc
  simp only[Option.some.injEq]at h
  have hj:=joinB_split 32 s
  cases hs:splitB 32 s with
  |nil=>exact absurd hs (splitB_ne 32 s)
  |cons w0 ws=>
   rw[hs]at h1 h2 h hj
   simp only[List.head?_cons,Option.some.injEq,List.tail_cons]at h1 h2 h
   unfold goodW at h2
   simp only[Bool.and_eq_true,decide_eq_true_eq]at h2
   obtain⟨⟨h4,ha⟩,hk⟩:=h2
   rw[h]at hk
   match ws,h4 with
   |[a,b,c,d],_=>
    have hk':=(Rc.ok_iff r).1 hk
    refine⟨hk,?_⟩
    simp only[List.all_cons,List.all_nil,Bool.and_true,Bool.and_eq_true]at ha
    subst h h1
    simp only[recOf,List.getD_cons_zero,List.getD_cons_succ]at hk'⊢
    unfold showR
    simp only
    rw[decI_pos hk'.1.1,decI_pos (by omega:0≤num b),decI_pos hk'.2.2.1.1,decI_pos hk'.2.2.2.1]
    rw[read_back a ha.1 hk'.1.1,read_back b ha.2.1 (by omega),read_back c ha.2.2.1 hk'.2.2.1.1,read_back d ha.2.2.2 hk'.2.2.2.1]
    rw[←hj]
    simp[joinB]
 ·simp at h
theorem readR_ok (s:Bs) (r:Rc) (h:readR s=some r):r.ok=true:=(showR_read s r h).1
end Go.Proofs.YthmnmaemnihkeaaGreatDoor
namespace Go.Proofs.YthmnmaemnihkeaaGreatDoor
open Go.RowKit
def posB (c:UInt8) (l:Bs):Nat:=(l.takeWhile (fun b=>b !=c)).length
theorem posB_le (c:UInt8) (l:Bs):posB c l≤l.length:=(List.takeWhile_prefix _).length_le
theorem posB_cons (c b:UInt8) (l:Bs):posB c (b::l)=if b=c then 0 else posB c l+1:=by
 unfold posB
 by_cases h:b=c
 ·simp[h]
 ·simp[h]
theorem posB_all (c:UInt8) (l:Bs):posB c l=l.length↔l.all (fun b=>b !=c)=true:=by
 induction l with
 |nil=>simp[posB]
 |cons b l ih=>
  rw[posB_cons]
  by_cases h:b=c
  ·simp[h]
  ·simp[h,ih]
def behind (c:UInt8) (l:Bs):Bs:=l.drop (posB c l+1)
def before (c:UInt8) (l:Bs):Bs:=l.take (posB c l)
theorem behind_len_le (c:UInt8) (l:Bs):(behind c l).length≤l.length:=by simp[behind]
def posC (c:UInt8) (l:Bs):Nat:=(l.takeWhile (fun b=>b !=c)).length
def splitN (c:UInt8):Nat→Bs→List Bs
 |0,l=>[l]
 |k+1,l=>if posC c l=l.length then[l]else l.take (posC c l)::splitN c k (l.drop (posC c l+1))
theorem splitB_first (c:UInt8) (l:Bs):splitB c l=if posC c l=l.length then[l]else l.take (posC c l)::splitB c (l.drop (posC c l+1)):=by
 induction l with
 |nil=>simp[splitB,posC]
 |cons b l ih=>
  by_cases h:b=c
  ·subst h
   simp[splitB,posC]
  ·have hp:posC c (b::l)=posC c l+1:=by simp[posC,h]
   rw[splitB,if_neg h,ih,hp]
   by_cases h2:posC c l=l.length
   ·simp[h2,ahead]
   ·simp[h2,ahead]
theorem splitB_len (c:UInt8) (l:Bs):(splitB c l).length≤l.length+1:=by
 induction l with
 |nil=>simp[splitB]
 |cons b l ih=>
  rw[splitB]
  split
  ·simp;omega
  ·cases hs:splitB c l with
   |nil=>simp[ahead]
   |cons p ps=>rw[hs]at ih;simp[ahead]at ih⊢;omega
theorem splitN_or (c:UInt8) (k:Nat):∀l:Bs,splitN c k l=splitB c l∨((splitN c k l).length=k+1∧k+1<(splitB c l).length):=by
 induction k with
 |zero=>
  intro l
  rw[splitN,splitB_first]
  by_cases h:posC c l=l.length
  ·simp[h]
  ·right
   have:=splitB_ne c (l.drop (posC c l+1))
   have:=List.length_pos_iff.2 this
   simp[h];omega
 |succ k ih=>
  intro l
  rw[splitN,splitB_first]
  by_cases h:posC c l=l.length
  ·simp[h]
  ·simp only[h,if_false]
   rcases ih (l.drop (posC c l+1))with e|⟨e1,e2⟩
   ·left;rw[e]
   ·right;simp only[List.length_cons];omega
theorem posC_is (c:UInt8) (l:Bs):posC c l=posB c l:=rfl
end Go.Proofs.YthmnmaemnihkeaaGreatDoor
namespace Go.Proofs.YthmnmaemnihkeaaGreatDoor
open Go.RowKit
def framesE:Nat→Nat→Bs→List (Bs×Nat)
 |0,_,_=>[]
 |k+1,a,s=>if(firstB (s.drop a)).2=0 then[]else((firstB (s.drop a)).1,a+(firstB (s.drop a)).2)::framesE k (a+(firstB (s.drop a)).2) s
def endOf (a:Nat) (l:List (Bs×Nat)):Nat:=l.foldl (fun _ x=>x.2) a
theorem framesE_is (s:Bs):∀(k a:Nat),(framesE k a s).map Prod.fst=(framesN k (s.drop a)).1∧endOf a (framesE k a s)=a+(framesN k (s.drop a)).2:=by
 intro k
 induction k with
 |zero=>intro a;simp[framesE,framesN,endOf]
 |succ k ih=>
  intro a
  rw[framesE,framesN]
  by_cases h:(firstB (s.drop a)).2=0
  ·simp[h,endOf]
  ·have:=ih (a+(firstB (s.drop a)).2)
   rw[←List.drop_drop]at this
   rw[if_neg h,if_neg h]
   refine⟨by simp[this.1],?_⟩
   show endOf (a+(firstB (s.drop a)).2) (framesE k (a+(firstB (s.drop a)).2) s)=_
   rw[this.2]
   simp only
   omega
def wholeE (s:Bs):List (Bs×Nat):=framesE 2000 0 s
theorem framesE_texts (s:Bs):(wholeE s).map Prod.fst=(framesB s).1:=by have:=(framesE_is s 2000 0).1;simpa[framesB,wholeE]using this
def EInv (s:Bs) (pre:List (Bs×Nat)) (a:Nat):Prop:=wholeE s=pre++framesE (2000-pre.length) a s
theorem EInv.start (s:Bs):EInv s [] 0:=by simp[EInv,wholeE]
theorem EInv.next {s:Bs} {pre:List (Bs×Nat)} {a:Nat} (h:EInv s pre a) (hl:pre.length<2000) (hn:(firstB (s.drop a)).2≠0):
  EInv s (pre++[((firstB (s.drop a)).1,a+(firstB (s.drop a)).2)]) (a+(firstB (s.drop a)).2)∧pre.length<(wholeE s).length:=by
 unfold EInv at h⊢
 obtain⟨k,hk⟩:∃k,2000-pre.length=k+1:=⟨2000-pre.length-1,by omega⟩
 rw[hk,framesE,if_neg hn]at h
 refine⟨?_,by rw[h];simp⟩
 have hk2:2000-(pre++[((firstB (s.drop a)).1,a+(firstB (s.drop a)).2)]).length=k:=by simp;omega
 rw[hk2,h]
 simp
theorem EInv.stop {s:Bs} {pre:List (Bs×Nat)} {a:Nat} (h:EInv s pre a) (hn:(firstB (s.drop a)).2=0∨2000≤pre.length):pre=wholeE s:=by
 rw[h]
 rcases hn with hn|hn
 ·cases hk:2000-pre.length with
  |zero=>simp[framesE]
  |succ k=>rw[framesE,if_pos hn];simp
 ·rw[show 2000-pre.length=0 by omega];simp[framesE]
theorem firstB_text_len (s:Bs):(firstB s).1.length≤s.length:=by
 by_cases h:(firstB s).2=0
 ·rw[firstB_zero s h];simp
 ·obtain⟨_,hf,_⟩:=firstB_sound s h
  have h1:=congrArg List.length hf
  have h2:=firstB_le s
  rw[framed_len,List.length_take,Nat.min_eq_left h2]at h1
  have h3:(firstB s).1.length≤(body (firstB s).1).length:=by simp[body];omega
  omega
end Go.Proofs.YthmnmaemnihkeaaGreatDoor
namespace Go.Proofs.YthmnmaemnihkeaaGreatDoor
open Go.RowKit
def stepE (a:Option (Rc×Nat)) (x:Bs×Nat):Option (Rc×Nat):=match readR x.1 with
 |some r=>some (r,x.2)
 |none=>a
def recallE (l:List (Bs×Nat)):Option (Rc×Nat):=l.foldl stepE none
def recallB (s:Bs):Option (Rc×Nat):=recallE (wholeE s)
theorem recallE_snoc (l:List (Bs×Nat)) (x:Bs×Nat):recallE (l++[x])=stepE (recallE l) x:=by simp[recallE]
def recR (a:Option (Rc×Nat)):Rc:=(a.map Prod.fst).getD Rc.zero
def recAt (a:Option (Rc×Nat)):Nat:=(a.map Prod.snd).getD 0
theorem framesE_ends (s:Bs):∀(k a i:Nat) (h:i<(framesE k a s).length),((framesE k a s)[i]).2=a+(cat (((framesE k a s).map Prod.fst).take (i+1))).length:=by
 intro k
 induction k with
 |zero=>intro a i h;simp[framesE]at h
 |succ k ih=>
  intro a i h
  by_cases h0:(firstB (s.drop a)).2=0
  ·exfalso
   rw[framesE,if_pos h0]at h
   simp at h
  ·obtain⟨_,_,h3⟩:=firstB_sound (s.drop a) h0
   have e:framesE (k+1) a s=((firstB (s.drop a)).1,a+(firstB (s.drop a)).2)::framesE k (a+(firstB (s.drop a)).2) s:=by rw[framesE,if_neg h0]
   simp only[e]
   cases i with
   |zero=>
    simp only[List.getElem_cons_zero,List.map_cons,Nat.zero_add,List.take_succ_cons,List.take_zero]
    rw[cat_cons,List.length_append,←h3]
    simp[cat]
   |succ i=>
    have hi:i<(framesE k (a+(firstB (s.drop a)).2) s).length:=by rw[e]at h;simpa using h
    have:=ih (a+(firstB (s.drop a)).2) i hi
    simp only[List.getElem_cons_succ,List.map_cons,List.take_succ_cons]
    rw[this,cat_cons,List.length_append,←h3]
    omega
theorem wholeE_at (s:Bs) (i:Nat) (h:i<(framesB s).1.length):∃h':i<(wholeE s).length,(wholeE s)[i]=((framesB s).1.getD i [],(cat ((framesB s).1.take (i+1))).length):=by
 have ht:=framesE_texts s
 have hl:(wholeE s).length=(framesB s).1.length:=by rw[←ht,List.length_map]
 refine⟨by omega,?_⟩
 have h2:=framesE_ends s 2000 0 i (show i<(wholeE s).length by omega)
 have e:framesE 2000 0 s=wholeE s:=rfl
 simp only[e]at h2
 rw[ht,Nat.zero_add]at h2
 have h3:((wholeE s)[i]'(by omega)).1=(framesB s).1.getD i []:=by
  have:(framesB s).1.getD i []=((wholeE s).map Prod.fst).getD i []:=by rw[ht]
  rw[this]
  simp[List.getD,show i<(wholeE s).length by omega]
 exact Prod.ext h3 h2
theorem recall_step (s:Bs) (i:Nat) (h:i<(framesB s).1.length):recallE ((wholeE s).take (i+1))=stepE (recallE ((wholeE s).take i)) ((framesB s).1.getD i [],(cat ((framesB s).1.take (i+1))).length):=by
 obtain⟨h1,h2⟩:=wholeE_at s i h
 rw[List.take_succ_eq_append_getElem h1,recallE_snoc,h2]
theorem recall_all (s:Bs):recallE ((wholeE s).take (framesB s).1.length)=recallB s:=by
 have hl:(wholeE s).length=(framesB s).1.length:=by rw[←framesE_texts,List.length_map]
 rw[←hl,List.take_length]
 rfl
theorem stepE_at (a:Option (Rc×Nat)) (x:Bs×Nat) (m:Nat) (ha:recAt a≤m) (hx:x.2≤m):recAt (stepE a x)≤m:=by
 unfold stepE
 split
 ·exact hx
 ·exact ha
theorem recall_le_take (s:Bs) (i:Nat) (h:i≤(framesB s).1.length):recAt (recallE ((wholeE s).take i))≤s.length:=by
 induction i with
 |zero=>simp[recallE,recAt]
 |succ i ih=>
  rw[recall_step s i (by omega)]
  refine stepE_at _ _ _ (ih (by omega)) ?_
  have h1:=cat_take_len (framesB s).1 (i+1)
  have h2:=(framesB_sound s).2.2.1
  have h3:=framesB_le s
  dsimp only
  omega
theorem recall_le (s:Bs):recAt (recallB s)≤s.length:=by rw[←recall_all];exact recall_le_take s _ (Nat.le_refl _)
theorem plain_show (r:Rc) (h:r.ok=true):plainB (showR r)=true∧(showR r).length≤40:=by
 have hk:=(Rc.ok_iff r).1 h
 have e:showR r=recW++32::(dec r.e.toNat++32::(dec r.s.toNat++32::(dec r.t.toNat++32::dec r.n.toNat))):=by
  unfold showR
  rw[decI_pos hk.1.1,decI_pos (by omega:0≤r.s),decI_pos hk.2.2.1.1,decI_pos hk.2.2.2.1]
 have l1:=dec_len 5 r.e.toNat (by omega)
 have l2:=dec_len 5 r.s.toNat (by omega)
 have l3:=dec_len 5 r.t.toNat (by omega)
 have l4:=dec_len 5 r.n.toNat (by omega)
 have hl:(showR r).length≤40:=by rw[e];simp[recW];omega
 refine⟨?_,hl⟩
 have hd:∀n,(dec n).all (fun b=>b !=10)=true:=fun n=>by
  rw[List.all_eq_true]
  intro b hb
  simpa using(dec_ne n b hb).1
 unfold plainB
 rw[e]at hl⊢
 have hw:recW.all (fun b=>b !=10)=true:=by decide
 simp only[List.all_append,List.all_cons,hd,hw]
 simp only[Bool.and_eq_true,decide_eq_true_eq]
 refine⟨by decide,by omega⟩
theorem half_none (r:Rc) (p:Nat) (h:r.ok=true) (hp:p<(framed (showR r)).length):(firstB ((framed (showR r)).take p)).2=0:=by
 apply firstB_line
 have hb:=body_ne (plain_show r h).1
 rw[framed_len]at hp
 rw[framed_body,List.take_append_of_le_length (by omega),List.all_eq_true]
 intro b hm
 exact List.all_eq_true.1 hb b (List.mem_of_mem_take hm)
theorem none_nil:(firstB ([]:Bs)).2=0:=firstB_line rfl
theorem split_four (l:Bs):(splitN 32 (min 5 (l.length+1)-1) l=splitB 32 l)∨((splitN 32 (min 5 (l.length+1)-1) l).length≠4∧(splitB 32 l).length≠4):=by
 rcases splitN_or 32 (min 5 (l.length+1)-1) l with e|⟨e1,e2⟩
 ·exact .inl e
 ·right
  have:=splitB_len 32 l
  omega
end Go.Proofs.YthmnmaemnihkeaaGreatDoor
namespace Go.Proofs.YthmnmaemnihkeaaGreatDoor
open Go.RowKit
theorem wholeE_length (s:Bs):(wholeE s).length=(framesB s).1.length:=by
 rw[←framesE_texts,List.length_map]
theorem whole_of {s t:Bs} (h:(framesB s).1=(framesB t).1):wholeE s=wholeE t:=by
 apply List.ext_getElem (by rw[wholeE_length,wholeE_length,h])
 intro i h1 h2
 obtain⟨_,e1⟩:=wholeE_at s i (by rw[←wholeE_length];exact h1)
 obtain⟨_,e2⟩:=wholeE_at t i (by rw[←wholeE_length];exact h2)
 rw[e1,e2,h]
theorem recall_of {s t:Bs} (h:(framesB s).1=(framesB t).1):recallB s=recallB t:=by
 unfold recallB
 rw[whole_of h]
theorem recall_end (s:Bs):recAt (recallB s)≤(framesB s).2:=by
 obtain⟨h1,h2,h3,h4⟩:=framesB_sound s
 have e:(framesB s).1=(framesB (s.take (framesB s).2)).1:=by
  rw[h2]
  have:=framesN_cat (framesB s).1 [] h1 2000 h4 (.inr none_nil)
  rw[List.append_nil]at this
  exact(congrArg Prod.fst this).symm
 rw[recall_of e]
 have:=recall_le (s.take (framesB s).2)
 rw[List.length_take]at this
 omega
structure LogR (log:Bs) (r:Rc) (up:Bool):Prop where
 is:(recallB log).isSome=true
 rc:recR (recallB log)=r
 al:up=true→recAt (recallB log)=log.length
theorem LogR.frames {log:Bs} {r:Rc} (h:LogR log r true):(framesB log).2=log.length:=by
 have h1:=recall_end log
 have h2:=framesB_le log
 rw[h.al rfl]at h1
 omega
theorem LogR.isCat {log:Bs} {r:Rc} (h:LogR log r true):log=cat (framesB log).1:=by
 obtain⟨-,h2, -, -⟩:=framesB_sound log
 rw[h.frames,List.take_length]at h2
 exact h2
theorem frames_more {log:Bs} (hc:log=cat (framesB log).1) (t rest:Bs) (hp:plainB t=true) (hl:(framesB log).1.length<2000) (hr:(firstB rest).2=0):
  framesB (log++framed t++rest)=((framesB log).1++[t],(log++framed t).length):=by
 obtain⟨h1, -, -, -⟩:=framesB_sound log
 obtain⟨ts,hts⟩:∃ts,ts=(framesB log).1:=⟨_,rfl⟩
 rw[←hts]at h1 hc hl⊢
 have hcat:log++framed t++rest=cat (ts++[t])++rest:=by rw[cat_snoc,←hc]
 have hsl:(log++framed t).length=(cat (ts++[t])).length:=by rw[cat_snoc,←hc]
 rw[hcat,hsl]
 refine framesN_cat (ts++[t]) rest (fun x hx=>?_) 2000 (by simp;omega) (.inr hr)
 rcases List.mem_append.1 hx with hx|hx
 ·exact h1 x hx
 ·simp at hx;subst hx;exact hp
theorem frames_rest {log:Bs} (hc:log=cat (framesB log).1) (rest:Bs) (hr:(firstB rest).2=0):framesB (log++rest)=((framesB log).1,log.length):=by
 obtain⟨h1, -, -,h4⟩:=framesB_sound log
 obtain⟨ts,hts⟩:∃ts,ts=(framesB log).1:=⟨_,rfl⟩
 rw[←hts]at h1 hc h4⊢
 have:=framesN_cat ts rest h1 2000 h4 (.inr hr)
 rw[←hc]at this
 exact this
theorem LogR.noted {log:Bs} {r q:Rc} (h:LogR log r true) (hq:q.ok=true) (hl:(framesB log).1.length<2000):
  LogR (log++framed (showR q)) q true∧(framesB (log++framed (showR q))).1.length=(framesB log).1.length+1:=by
 have hp:=(plain_show q hq).1
 have f:=frames_more h.isCat (showR q) [] hp hl none_nil
 rw[List.append_nil]at f
 obtain⟨ts,hts⟩:∃ts,ts=(framesB log).1:=⟨_,rfl⟩
 have hst:=recall_step (log++framed (showR q)) ts.length (by rw[f,←hts];simp)
 have hall:=recall_all (log++framed (showR q))
 rw[f,←hts]at hst hall
 simp only[List.length_append,List.length_cons,List.length_nil,Nat.zero_add]at hall
 rw[hst]at hall
 have e1:(ts++[showR q]).getD ts.length []=showR q:=by simp
 have e2:(ts++[showR q]).take (ts.length+1)=ts++[showR q]:=List.take_of_length_le (by simp)
 have hsl:(log++framed (showR q)).length=(cat (ts++[showR q])).length:=by rw[cat_snoc,hts,←h.isCat]
 simp only[e1,e2,stepE,readR_show q hq,←hsl]at hall
 refine⟨⟨by rw[←hall];rfl,by rw[←hall];rfl,fun _=>by rw[←hall];rfl⟩,?_⟩
 rw[f]
 simp
theorem LogR.torn {log:Bs} {r q:Rc} (h:LogR log r true) (hq:q.ok=true) (p:Nat) (hp:p<(framed (showR q)).length):
  LogR (log++(framed (showR q)).take p) r false∧(framesB (log++(framed (showR q)).take p)).1=(framesB log).1∧(log++(framed (showR q)).take p).take (recAt (recallB (log++(framed (showR q)).take p)))=log:=by
 have f:=frames_rest h.isCat ((framed (showR q)).take p) (half_none q p hq hp)
 have e:(framesB (log++(framed (showR q)).take p)).1=(framesB log).1:=by rw[f]
 have er:=recall_of e
 refine⟨⟨by rw[er];exact h.is,by rw[er];exact h.rc,fun h=>by cases h⟩,e,?_⟩
 rw[er,h.al rfl,List.take_left]
theorem LogR.down {log:Bs} {r:Rc} {up:Bool} (h:LogR log r up):LogR log r false:=⟨h.is,h.rc,fun h=>by cases h⟩
theorem LogR.rise {log:Bs} {r:Rc} {up:Bool} (h:LogR log r up):LogR (log.take (recAt (recallB log))) r true∧(framesB (log.take (recAt (recallB log)))).1.length≤(framesB log).1.length:=by
 obtain⟨h1,h2,h3,h4⟩:=framesB_sound log
 obtain⟨ts,hts⟩:∃ts,ts=(framesB log).1:=⟨_,rfl⟩
 have key:∀i,i≤ts.length→∀x,recallE ((wholeE log).take i)=some x→∃j,j≤i∧x.2=(cat (ts.take j)).length∧recallE ((wholeE log).take j)=some x:=by
  intro i
  induction i with
  |zero=>intro _ x hx;simp[recallE]at hx
  |succ i ih=>
   intro hi x hx
   have hs:=recall_step log i (by rw[←hts];omega)
   rw[hs]at hx
   unfold stepE at hx
   split at hx
   ·cases hx
    refine⟨i+1,Nat.le_refl _,by rw[hts],?_⟩
    rw[hs]
    unfold stepE
    simp_all
   ·obtain⟨j,hj,e1,e2⟩:=ih (by omega) x hx
    exact⟨j,by omega,e1,e2⟩
 obtain⟨x,hx⟩:=Option.isSome_iff_exists.1 h.is
 have ha:=recall_all log
 rw[←hts,hx]at ha
 obtain⟨j,hj,e1,e2⟩:=key ts.length (Nat.le_refl _) x ha
 have hat:recAt (recallB log)=(cat (ts.take j)).length:=by rw[hx];exact e1
 have hpre:log.take (recAt (recallB log))=cat (ts.take j):=by
  rw[hat]
  have hc:log.take (framesB log).2=cat (ts.take j)++cat (ts.drop j):=by
   rw[h2,←hts]
   have:cat (ts.take j++ts.drop j)=cat (ts.take j)++cat (ts.drop j):=by unfold cat;rw[List.map_append,List.flatten_append]
   rwa[List.take_append_drop]at this
  have hle:(cat (ts.take j)).length≤(framesB log).2:=by rw[h3,←hts];exact cat_take_len ts j
  have:=congrArg (fun l=>l.take (cat (ts.take j)).length) hc
  simp only[List.take_take,List.take_left,Nat.min_eq_left hle]at this
  exact this
 have hf:framesB (log.take (recAt (recallB log)))=(ts.take j,(cat (ts.take j)).length):=by
  rw[hpre]
  have:=framesN_cat (ts.take j) [] (fun t ht=>h1 t (by rw[←hts];exact List.mem_of_mem_take ht)) 2000 (by rw[←hts]at h4;simp;omega) (.inr none_nil)
  rw[List.append_nil]at this
  exact this
 have hjl:(ts.take j).length=j:=by simp;omega
 have hr:recallB (log.take (recAt (recallB log)))=some x:=by
  rw[←recall_all,hf]
  simp only[hjl]
  have:(wholeE (log.take (recAt (recallB log)))).take j=(wholeE log).take j:=by
   have hl1:(wholeE (log.take (recAt (recallB log)))).length=j:=by rw[wholeE_length,hf];exact hjl
   have hl2:(wholeE log).length=ts.length:=by rw[wholeE_length,hts]
   apply List.ext_getElem (by simp[hl1,hl2];omega)
   intro i a1 a2
   simp only[List.length_take,hl1,Nat.min_self]at a1
   obtain⟨_,e3⟩:=wholeE_at (log.take (recAt (recallB log))) i (by rw[hf];simp only[hjl];exact a1)
   obtain⟨_,e4⟩:=wholeE_at log i (by rw[←hts];omega)
   rw[List.getElem_take,List.getElem_take,e3,e4,hf,←hts]
   simp only
   rw[List.take_take,Nat.min_eq_left (by omega)]
   simp[List.getD,a1]
  rw[this]
  exact e2
 refine⟨⟨by rw[hr];rfl,?_,fun _=>?_⟩,?_⟩
 ·rw[hr,←h.rc,hx]
 ·rw[hr,hpre]
  exact e1
 ·rw[hf,←hts]
  simp only[hjl]
  exact hj
end Go.Proofs.YthmnmaemnihkeaaGreatDoor
namespace Go.Proofs.YthmnmaemnihkeaaGreatDoor
open Go.RowKit
structure Cp where
 tr:Int
 op:Bool
 di:Int
 wa:Int
 ts:List Int
def turnsI (ts:List Int):Bool:=ts.all (fun t=>inI t 0 1000000000)
def Cp.zero:Cp:=⟨0,false,0,0,[]⟩
def Cp.mid (c:Cp):Bool:=inI c.tr 1 100000&&(turnsI c.ts&&inI c.ts.length 1 8)&&(inI c.di 0 (fullI c.ts.length)&&inI c.wa 0 (fullI c.ts.length))
def Cp.ok (c:Cp):Bool:=if c.tr=0 then(!c.op&&decide (c.di=0)&&decide (c.wa=0)&&decide (c.ts.length=0))else c.mid
def Cp.has (c:Cp) (i:Int):Bool:=decide (0≤i)&&decide (i<(c.ts.length:Int))
def Cp.mark (c:Cp) (i:Int):Cp:=if c.has i then{c with di:=withI c.di i}else c
def Cp.goes (c:Cp):Bool:=c.op&&decide (0≤firstI c.di)&&decide (c.ts.getD (firstI c.di).toNat 0≠1000000000)
def Cp.nx (c:Cp):Int:=if c.goes then firstI c.di else-1
def Cp.next (c:Cp):Cp:=if c.goes then{c with di:=withoutI c.di (firstI c.di),wa:=withI c.wa (firstI c.di),ts:=c.ts.set (firstI c.di).toNat (c.ts.getD (firstI c.di).toNat 0+1)}else c
def Cp.acks (c:Cp) (i t:Int):Bool:=c.has i&&decide (c.ts.getD i.toNat 0=t)&&inB c.wa i
def Cp.ack (c:Cp) (i t:Int):Cp:=if c.acks i t then{c with wa:=withoutI c.wa i}else c
def orI (a b:Int):Int:=((a.toNat|||b.toNat:Nat):Int)
def Cp.again (c:Cp):Cp:={c with di:=orI c.di c.wa,wa:=0}
def Cp.clean (c:Cp):Bool:=c.ok&&c.op&&decide (c.di=0)&&decide (c.wa=0)
def Cp.made (n t:Int):Bool:=inI n 1 8&&inI t 1 100000
def Cp.new (n t:Int):Cp:=if Cp.made n t then⟨t,false,fullI n,0,List.replicate n.toNat 0⟩else Cp.zero
def Cp.Next (c:Cp):Cp:=if c.ok then c.next else Cp.zero
def Cp.Again (c:Cp):Cp:=if c.ok then c.again else Cp.zero
theorem first_sub:∀n:Nat,n<9→∀s:Nat,s<256→(s:Int)≤fullI n→firstI s<n:=by decide+kernel
theorem with_sub:∀n:Nat,n<9→∀s:Nat,s<256→(s:Int)≤fullI n→∀i:Nat,i<n→withI s i≤fullI n∧0≤withI s i:=by decide+kernel
theorem without_sub:∀s:Nat,s<256→∀i:Nat,i<8→withoutI s i≤s∧0≤withoutI s i:=by decide+kernel
theorem full_lt:∀n:Nat,n<9→fullI n<256∧fullI n=((2^n-1:Nat):Int):=by decide+kernel
theorem turns_set {ts:List Int} (h:turnsI ts=true) (j:Nat) {x:Int} (hx:inI x 0 1000000000=true):turnsI (ts.set j x)=true:=by
 unfold turnsI at*
 rw[List.all_eq_true]at*
 intro y hy
 rcases List.mem_or_eq_of_mem_set hy with hy|rfl
 ·exact h y hy
 ·exact hx
theorem turns_at {ts:List Int} (h:turnsI ts=true) (j:Nat):0≤ts.getD j 0∧ts.getD j 0≤1000000000:=by
 rcases Nat.lt_or_ge j ts.length with hj|hj
 ·unfold turnsI at h
  rw[List.all_eq_true]at h
  have:=(inI_iff _ _ _).1 (h _ (List.getElem_mem hj))
  simpa[hj]using this
 ·simp[List.getD_eq_getElem?_getD,List.getElem?_eq_none hj]
theorem turns_take (ts:List Int) (j:Nat) (h:j<ts.length) (h0:turnsI (ts.take j)=true) (hx:inI (ts.getD j 0) 0 1000000000=true):turnsI (ts.take (j+1))=true:=by
 unfold turnsI at*
 rw[List.take_succ_eq_append_getElem h,List.all_append,h0]
 have:inI ts[j] 0 1000000000=true:=by simpa[h]using hx
 simp[this]
theorem turns_not (ts:List Int) (j:Nat) (h:j<ts.length) (hx:inI (ts.getD j 0) 0 1000000000=false):turnsI ts=false:=by
 unfold turnsI
 rw[List.all_eq_false]
 exact⟨ts[j],List.getElem_mem h,by have:inI ts[j] 0 1000000000=false:=by{simpa[h]using hx};simp[this]⟩
structure Cp.Fit (c:Cp):Prop where
 len:c.ts.length≤8
 di0:0≤c.di
 di1:c.di≤fullI c.ts.length
 wa0:0≤c.wa
 wa1:c.wa≤fullI c.ts.length
 turns:turnsI c.ts=true
theorem Cp.fit {c:Cp} (h:c.ok=true):c.Fit:=by
 unfold Cp.ok Cp.mid at h
 by_cases h0:c.tr=0
 ·rw[if_pos h0]at h
  simp only[Bool.and_eq_true,decide_eq_true_eq]at h
  obtain⟨⟨⟨-,h1⟩,h2⟩,h3⟩:=h
  have e:c.ts=[]:=List.length_eq_zero_iff.1 h3
  exact⟨by omega,by omega,by rw[h1,h3];decide,by omega,by rw[h2,h3];decide,by rw[e];rfl⟩
 ·rw[if_neg h0]at h
  simp only[Bool.and_eq_true,inI_iff]at h
  obtain⟨⟨-,h1,h2⟩,⟨h3,h4⟩,h5,h6⟩:=h
  exact⟨by omega,h3,h4,h5,h6,h1⟩
theorem Cp.Fit.d {c:Cp} (h:c.Fit):c.di<256:=by
 have:=(full_lt c.ts.length (by have:=h.len;omega)).1;have:=h.di1;omega
theorem Cp.Fit.w {c:Cp} (h:c.Fit):c.wa<256:=by
 have:=(full_lt c.ts.length (by have:=h.len;omega)).1;have:=h.wa1;omega
theorem Cp.Fit.first {c:Cp} (h:c.Fit):firstI c.di<(c.ts.length:Int):=by
 have h1:=h.di0;have h2:=h.d;have h3:=h.di1;have h4:=h.len
 obtain⟨n,e⟩:=nat_of h1
 rw[e]at h2 h3⊢
 exact first_sub _ (by omega) n (by omega) h3
theorem Cp.ok_of {c d:Cp} (h:c.ok=true) (ht:d.tr=c.tr) (ho:d.op=c.op) (hl:d.ts.length=c.ts.length) (hts:turnsI d.ts=true) (h0:0≤d.di) (h1:d.di≤fullI c.ts.length) (h2:0≤d.wa) (h3:d.wa≤fullI c.ts.length):d.ok=true:=by
 unfold Cp.ok Cp.mid at*
 rw[ht,ho,hl,hts]
 by_cases e:c.tr=0
 ·rw[if_pos e]at h⊢
  simp only[Bool.and_eq_true,decide_eq_true_eq]at h⊢
  rw[h.2]at h1 h3
  have:fullI ((0:Nat):Int)=0:=by decide
  rw[this]at h1 h3
  exact⟨⟨⟨h.1.1.1,by omega⟩,by omega⟩,h.2⟩
 ·rw[if_neg e]at h⊢
  simp only[Bool.and_eq_true,inI_iff]at h⊢
  exact⟨⟨h.1.1,trivial,h.1.2.2⟩,⟨h0,h1⟩,h2,h3⟩
theorem has_iff (c:Cp) (i:Int):c.has i=true↔0≤i∧i<(c.ts.length:Int):=by simp[Cp.has]
theorem Cp.with_fit {c:Cp} (h:c.Fit) {s i:Int} (hs0:0≤s) (hs:s≤fullI c.ts.length) (h0:0≤i) (h1:i<(c.ts.length:Int)):withI s i≤fullI c.ts.length∧0≤withI s i:=by
 have h4:=h.len
 have h5:=(full_lt c.ts.length (by omega)).1
 obtain⟨n,rfl⟩:=nat_of hs0
 obtain⟨k,rfl⟩:=nat_of h0
 exact with_sub _ (by omega) n (by omega) hs k (by omega)
theorem without_fit {s i:Int} (hs0:0≤s) (hs:s<256) (h0:0≤i) (h1:i<8):withoutI s i≤s∧0≤withoutI s i:=by
 obtain⟨n,rfl⟩:=nat_of hs0
 obtain⟨k,rfl⟩:=nat_of h0
 exact without_sub n (by omega) k (by omega)
theorem Cp.mark_ok {c:Cp} (h:c.ok=true) (i:Int):(c.mark i).ok=true:=by
 unfold Cp.mark
 split
 ·rename_i hi
  rw[has_iff]at hi
  have f:=Cp.fit h
  have:=Cp.with_fit f f.di0 f.di1 hi.1 hi.2
  exact Cp.ok_of h rfl rfl rfl f.turns this.2 this.1 f.wa0 f.wa1
 ·exact h
theorem Cp.goes_iff (c:Cp):c.goes=true↔c.op=true∧0≤firstI c.di∧c.ts.getD (firstI c.di).toNat 0≠1000000000:=by simp[Cp.goes,and_assoc]
theorem Cp.next_ok {c:Cp} (h:c.ok=true):c.next.ok=true:=by
 unfold Cp.next
 split
 ·rename_i hi
  rw[Cp.goes_iff]at hi
  have f:=Cp.fit h
  have f1:=f.first
  have f2:=f.len
  have h1:=Cp.with_fit f f.wa0 f.wa1 hi.2.1 f1
  have h2:=without_fit f.di0 f.d hi.2.1 (by omega)
  have h3:=f.di1
  have h4:=turns_at f.turns (firstI c.di).toNat
  have h5:=hi.2.2
  exact Cp.ok_of h rfl rfl (by simp) (turns_set f.turns _ ((inI_iff _ _ _).2 (by omega))) h2.2 (by simp only;omega) h1.2 h1.1
 ·exact h
theorem Cp.zero_ok:Cp.zero.ok=true:=by decide
end Go.Proofs.YthmnmaemnihkeaaGreatDoor
