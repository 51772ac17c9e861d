/- More of the law on frames, of plain lists: the frames one behind the other, up to the j-th. -/
import Derived.Test.YthmnmaemnihkeaaDoorM8
import Derived.Test.YthmnmaemnihkeaaDoorRows
import Derived.Test.YthmnmaemnihkeaaDoorM1
import Derived.WalkKit
import Derived.ProofKit
import Derived.OpenShut
import Derived.WalkSmall
import Derived.WalkSpells
import Derived.BigQuiet
import Derived.Below
import Derived.Laws.Tables
import Derived.Laws.ResultCell
import Derived.Test.YthmnmaemnihkeaaDoorM3
namespace Go.Proofs.YthmnmaemnihkeaaDoor
open Go.RowKit
theorem cat_take_len (xs:List Bs) (j:Nat):(cat (xs.take j)).length≤(cat xs).length:=by
 have h2:cat xs=cat (xs.take j)++cat (xs.drop j):=by rw[cat,cat,cat,←List.flatten_append,←List.map_append,List.take_append_drop]
 rw[h2,List.length_append]
 omega
theorem framedS_yes {l:Bs} (h:plainB l=true):framedS l=framed l:=by simp[framedS,h]
end Go.Proofs.YthmnmaemnihkeaaDoor
set_option maxRecDepth 20000
set_option maxHeartbeats 400000
namespace Go.Proofs.YthmnmaemnihkeaaDoor
open Go.ChangeShapes Go.WideShapes Go.ChangeAt Go.RowKit
structure Rc where
 e:Int
 s:Int
 t:Int
 n:Int
def sameR (r q:Rc):Bool:=decide (r.e=q.e)&&decide (r.s=q.s)&&decide (r.t=q.t)&&decide (r.n=q.n)
def Rc.zero:Rc:=⟨0,0,0,0⟩
def epI (n:Int):Bool:=decide (0≤n)&&decide (n≤100000)
def stI (n:Int):Bool:=decide (1≤n)&&decide (n≤3)
def Rc.ok (r:Rc):Bool:=epI r.e&&stI r.s&&epI r.t&&epI r.n
def Rc.Fit (r:Rc):Prop:=(-9223372036854775808≤r.e∧r.e≤9223372036854775807)∧(-9223372036854775808≤r.s∧r.s≤9223372036854775807)∧(-9223372036854775808≤r.t∧r.t≤9223372036854775807)∧(-9223372036854775808≤r.n∧r.n≤9223372036854775807)
theorem Rc.ok_iff (r:Rc):r.ok=true↔(0≤r.e∧r.e≤100000)∧(1≤r.s∧r.s≤3)∧(0≤r.t∧r.t≤100000)∧(0≤r.n∧r.n≤100000):=by
 simp[Rc.ok,epI,stI,and_assoc]
def recA (r:Rc):Array Value:=#[.int .i64 r.e,.int .i64 r.s,.int .i64 r.t,.int .i64 r.n]
def RV (r:Rc):Value:=.agg (recA r)
theorem sinN_any (x lo hi:Int) (w:World):
  Calls Tryd.prog 21 #[.int .i64 x,.int .i64 lo,.int .i64 hi] w fun e w'=>e=.returned (.bool (decide (lo≤x)&&decide (x≤hi)))∧w'=w:=by
 by_cases h0:lo≤x
 ·by_cases h1:x≤hi
  ·have he:(decide (lo≤x)&&decide (x≤hi))=true:=by simp[h0,h1]
   rw[he]
   clear he
   go_enter Tryd.func21,Tryd.ntmps21
   go_wp2
   go_ret
   exact⟨ret_bool (by simp),rfl⟩
  ·have he:(decide (lo≤x)&&decide (x≤hi))=false:=by simp[h1]
   rw[he]
   clear he
   go_enter Tryd.func21,Tryd.ntmps21
   go_wp2
   go_ret
   exact⟨ret_bool (by simp),rfl⟩
 ·have he:(decide (lo≤x)&&decide (x≤hi))=false:=by simp[h0]
  rw[he]
  clear he
  go_enter Tryd.func21,Tryd.ntmps21
  go_wp2
  go_ret
  exact⟨ret_bool (by simp),rfl⟩
theorem sepoch_any (x:Int) (w:World):
  Calls Tryd.prog 48 #[.int .i64 x] w fun e w'=>e=.returned (.bool (epI x))∧w'=w:=by
 have c1:=sinN_any x 0 100000 w
 unfold epI
 go_enter Tryd.func48,Tryd.ntmps48
 go_wp2_with fail
 refine c1.mono ?_
 rintro e w' ⟨rfl,hw⟩;subst w'
 clear c1
 go_wp2_with fail
 go_ret
 exact⟨rfl,rfl⟩
theorem iepoch_any (x:Int) (w:World):
  Calls Tryd.prog 59 #[.int .i64 x] w fun e w'=>e=.returned (.bool (epI x))∧w'=w:=by
 by_cases h0:0≤x
 ·by_cases h1:x≤100000
  ·have he:epI x=true:=by simp[epI,h0,h1]
   rw[he]
   clear he
   go_enter Tryd.func59,Tryd.ntmps59
   go_wp2
   go_ret
   exact⟨ret_bool (by simp),rfl⟩
  ·have he:epI x=false:=by simp[epI,h1]
   rw[he]
   clear he
   go_enter Tryd.func59,Tryd.ntmps59
   go_wp2
   go_ret
   exact⟨ret_bool (by simp),rfl⟩
 ·have he:epI x=false:=by simp[epI,h0]
  rw[he]
  clear he
  go_enter Tryd.func59,Tryd.ntmps59
  go_wp2
  go_ret
  exact⟨ret_bool (by simp),rfl⟩
theorem istate_any (x:Int) (w:World):
  Calls Tryd.prog 60 #[.int .i64 x] w fun e w'=>e=.returned (.bool (stI x))∧w'=w:=by
 by_cases h0:1≤x
 ·by_cases h1:x≤3
  ·have he:stI x=true:=by simp[stI,h0,h1]
   rw[he]
   clear he
   go_enter Tryd.func60,Tryd.ntmps60
   go_wp2
   go_ret
   exact⟨ret_bool (by simp),rfl⟩
  ·have he:stI x=false:=by simp[stI,h1]
   rw[he]
   clear he
   go_enter Tryd.func60,Tryd.ntmps60
   go_wp2
   go_ret
   exact⟨ret_bool (by simp),rfl⟩
 ·have he:stI x=false:=by simp[stI,h0]
  rw[he]
  clear he
  go_enter Tryd.func60,Tryd.ntmps60
  go_wp2
  go_ret
  exact⟨ret_bool (by simp),rfl⟩
end Go.Proofs.YthmnmaemnihkeaaDoor
namespace Go.Proofs.YthmnmaemnihkeaaDoor
open Go.RowKit
def recW:Bs:=[114,101,99,111,114,100]
def showR (r:Rc):Bs:=recW++32::(decI r.e++32::(decI r.s++32::(decI r.t++32::decI r.n)))
def showS (r:Rc):Bs:=if r.ok then showR r else[]
def recOf (ws:List Bs):Rc:=⟨num (ws.getD 0 []),num (ws.getD 1 []),num (ws.getD 2 []),num (ws.getD 3 [])⟩
def goodW (ws:List Bs):Bool:=decide (ws.length=4)&&ws.all okN&&(recOf ws).ok
def readR (s:Bs):Option Rc:=if(splitB 32 s).head? =some recW∧goodW (splitB 32 s).tail=true then some (recOf (splitB 32 s).tail)else none
theorem splitB_show (r:Rc) (h:r.ok=true):splitB 32 (showR r)=[recW,dec r.e.toNat,dec r.s.toNat,dec r.t.toNat,dec r.n.toNat]:=by
 rw[Rc.ok_iff]at h
 unfold showR
 rw[decI_pos h.1.1,decI_pos (by omega:0≤r.s),decI_pos h.2.2.1.1,decI_pos h.2.2.2.1]
 have hr:∀b∈recW,b≠32:=by decide
 have hd:∀n,∀b∈dec n,b≠32:=fun n b hb=>(dec_ne n b hb).2
 rw[splitB_app 32 _ _ hr,splitB_app 32 _ _ (hd _),splitB_app 32 _ _ (hd _),splitB_app 32 _ _ (hd _),splitB_word 32 _ (hd _)]
theorem readR_show (r:Rc) (h:r.ok=true):readR (showR r)=some r:=by
 have hs:=splitB_show r h
 have hk:=(Rc.ok_iff r).1 h
 obtain⟨a1,a2⟩:=read_dec r.e.toNat (by omega)
 obtain⟨b1,b2⟩:=read_dec r.s.toNat (by omega)
 obtain⟨c1,c2⟩:=read_dec r.t.toNat (by omega)
 obtain⟨d1,d2⟩:=read_dec r.n.toNat (by omega)
 have hr:recOf [dec r.e.toNat,dec r.s.toNat,dec r.t.toNat,dec r.n.toNat]=r:=by
  unfold recOf
  simp only[List.getD_cons_zero,List.getD_cons_succ,a2,b2,c2,d2]
  obtain⟨e,s,t,n⟩:=r
  dsimp only at hk⊢
  simp only[Rc.mk.injEq]
  omega
 unfold readR
 rw[hs]
 simp only[List.head?_cons,List.tail_cons,hr]
 have hg:goodW [dec r.e.toNat,dec r.s.toNat,dec r.t.toNat,dec r.n.toNat]=true:=by
  unfold goodW
  rw[hr,h]
  simp[a1,b1,c1,d1]
 simp[hg]
end Go.Proofs.YthmnmaemnihkeaaDoor
namespace Go.Proofs.YthmnmaemnihkeaaDoor
open Go.RowKit
def posB (c:UInt8) (l:Bs):Nat:=(l.takeWhile (fun b=>b !=c)).length
theorem posB_cons (c b:UInt8) (l:Bs):posB c (b::l)=if b=c then 0 else posB c l+1:=by
 unfold posB
 by_cases h:b=c
 ·simp[h]
 ·simp[h]
theorem posB_all (c:UInt8) (l:Bs):posB c l=l.length↔l.all (fun b=>b !=c)=true:=by
 induction l with
 |nil=>simp[posB]
 |cons b l ih=>
  rw[posB_cons]
  by_cases h:b=c
  ·simp[h]
  ·simp[h,ih]
def behind (c:UInt8) (l:Bs):Bs:=l.drop (posB c l+1)
def before (c:UInt8) (l:Bs):Bs:=l.take (posB c l)
def posC (c:UInt8) (l:Bs):Nat:=(l.takeWhile (fun b=>b !=c)).length
def splitN (c:UInt8):Nat→Bs→List Bs
 |0,l=>[l]
 |k+1,l=>if posC c l=l.length then[l]else l.take (posC c l)::splitN c k (l.drop (posC c l+1))
theorem posC_is (c:UInt8) (l:Bs):posC c l=posB c l:=rfl
end Go.Proofs.YthmnmaemnihkeaaDoor
namespace Go.Proofs.YthmnmaemnihkeaaDoor
open Go.RowKit
def framesE:Nat→Nat→Bs→List (Bs×Nat)
 |0,_,_=>[]
 |k+1,a,s=>if(firstB (s.drop a)).2=0 then[]else((firstB (s.drop a)).1,a+(firstB (s.drop a)).2)::framesE k (a+(firstB (s.drop a)).2) s
def endOf (a:Nat) (l:List (Bs×Nat)):Nat:=l.foldl (fun _ x=>x.2) a
theorem framesE_is (s:Bs):∀(k a:Nat),(framesE k a s).map Prod.fst=(framesN k (s.drop a)).1∧endOf a (framesE k a s)=a+(framesN k (s.drop a)).2:=by
 intro k
 induction k with
 |zero=>intro a;simp[framesE,framesN,endOf]
 |succ k ih=>
  intro a
  rw[framesE,framesN]
  by_cases h:(firstB (s.drop a)).2=0
  ·simp[h,endOf]
  ·have:=ih (a+(firstB (s.drop a)).2)
   rw[←List.drop_drop]at this
   rw[if_neg h,if_neg h]
   refine⟨by simp[this.1],?_⟩
   show endOf (a+(firstB (s.drop a)).2) (framesE k (a+(firstB (s.drop a)).2) s)=_
   rw[this.2]
   simp only
   omega
def wholeE (s:Bs):List (Bs×Nat):=framesE 2000 0 s
theorem framesE_texts (s:Bs):(wholeE s).map Prod.fst=(framesB s).1:=by have:=(framesE_is s 2000 0).1;simpa[framesB,wholeE]using this
def EInv (s:Bs) (pre:List (Bs×Nat)) (a:Nat):Prop:=wholeE s=pre++framesE (2000-pre.length) a s
theorem EInv.next {s:Bs} {pre:List (Bs×Nat)} {a:Nat} (h:EInv s pre a) (hl:pre.length<2000) (hn:(firstB (s.drop a)).2≠0):
  EInv s (pre++[((firstB (s.drop a)).1,a+(firstB (s.drop a)).2)]) (a+(firstB (s.drop a)).2)∧pre.length<(wholeE s).length:=by
 unfold EInv at h⊢
 obtain⟨k,hk⟩:∃k,2000-pre.length=k+1:=⟨2000-pre.length-1,by omega⟩
 rw[hk,framesE,if_neg hn]at h
 refine⟨?_,by rw[h];simp⟩
 have hk2:2000-(pre++[((firstB (s.drop a)).1,a+(firstB (s.drop a)).2)]).length=k:=by simp;omega
 rw[hk2,h]
 simp
end Go.Proofs.YthmnmaemnihkeaaDoor
