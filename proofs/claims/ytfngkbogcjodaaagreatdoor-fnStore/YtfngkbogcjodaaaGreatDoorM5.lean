/- Kinds, and who may, as plain numbers and truths. -/
import Derived.Test.YtfngkbogcjodaaaGreatDoorM4
import Derived.Test.YtfngkbogcjodaaaGreatDoorM1
import Derived.Below
import Derived.Laws.Tables
import Derived.Laws.ResultCell
import Derived.BigRegion
import Derived.Deep.RegionHeld3
namespace Go.Proofs.YtfngkbogcjodaaaGreatDoor
open Go.RowKit
def kiI (k:Int):Bool:=inI k 1 6
def barsI (k:Int) (w:Bool):Bool:=kiI k&&(w||decide (k%2=0))
def allI (k:Int):Bool:=decide (k=5)||decide (k=6)
def mayI (k:Int) (w h r:Bool):Bool:=if k=0 then true else if kiI k=false then false else if h then true else if decide (3≤k)&&r then true else !barsI k w
theorem kinds (k:Int):k=0∨k=1∨k=2∨k=3∨k=4∨k=5∨k=6∨(kiI k=false∧k≠0∧k≠1∧k≠2∧k≠3∧k≠4∧k≠5∧k≠6):=by
 by_cases h:kiI k=true
 ·have:=(inI_iff k 1 6).1 h
  omega
 ·have h':kiI k=false:=by simpa using h
  have:¬(1≤k∧k≤6):=fun e=>h ((inI_iff k 1 6).2 e)
  by_cases h0:k=0
  ·exact .inl h0
  ·exact .inr (.inr (.inr (.inr (.inr (.inr (.inr ⟨h',by omega⟩))))))
theorem kiI_lit:kiI 0=false∧kiI 1=true∧kiI 2=true∧kiI 3=true∧kiI 4=true∧kiI 5=true∧kiI 6=true:=by decide
theorem mayI_holds (k:Int) (w r:Bool) (h:kiI k=true):mayI k w true r=true:=by
 unfold mayI
 by_cases h0:k=0
 ·rw[if_pos h0]
 ·rw[if_neg h0,if_neg (by rw[h];decide),if_pos rfl]
theorem barsI_le (k:Int):(barsI k false&& !barsI k true)=false:=by
 unfold barsI
 cases kiI k<;>simp
theorem mayI_le (k:Int) (h r:Bool):(mayI k true h r&& !mayI k false h r)=false:=by
 unfold mayI barsI
 by_cases h0:k=0
 ·simp[h0]
 ·rw[if_neg h0,if_neg h0]
  cases hk:kiI k with
  |false=>simp
  |true=>cases h<;>cases r<;>by_cases h3:3≤k<;>simp[h3]
theorem mayI_all (k:Int) (w h:Bool):(!allI k||mayI k w h true)=true:=by
 unfold allI mayI
 by_cases h5:k=5
 ·subst h5;simp[show kiI 5=true from rfl]
 ·by_cases h6:k=6
  ·subst h6;simp[show kiI 6=true from rfl]
  ·simp[h5,h6]
theorem none_all (k:Int) (hk:kiI k=false):allI k=false:=by
 rcases kinds k with h|h|h|h|h|h|h|⟨_,h0,h1,h2,h3,h4,h5,h6⟩
 ·subst h;rfl
 all_goals first|(subst h;exact absurd hk (by decide))|simp[allI,h5,h6]
theorem none_bars (k:Int) (w:Bool) (hk:kiI k=false):barsI k w=false:=by simp[barsI,hk]
theorem none_may (k:Int) (w h r:Bool) (h0:k≠0) (hk:kiI k=false):mayI k w h r=false:=by simp[mayI,h0,hk]
end Go.Proofs.YtfngkbogcjodaaaGreatDoor
namespace Go.Proofs.YtfngkbogcjodaaaGreatDoor
open Go.RowKit
structure Hd where
 ks:List Int
 kd:Int
 ho:Int
 tu:Int
def anyI (ks:List Int):Bool:=ks.any (fun k=>decide (k≠0))
def keysI (ks:List Int):Bool:=ks.all (fun k=>inI k 0 9999)
def regI (ks:List Int) (i:Int):Bool:=decide (ks.getD i.toNat 0≠0)
def Hd.mid (h:Hd):Bool:=if h.kd=0 then decide (h.ho= -1)else if allI h.kd then decide (h.ho= -1)&&anyI h.ks else kiI h.kd&&inI h.ho 0 3&&regI h.ks h.ho
def Hd.ok (h:Hd):Bool:=decide (h.ks.length=4)&&inI h.tu 0 1000000000&&keysI h.ks&&h.mid
def Hd.holds (h:Hd) (i:Int):Bool:=decide (h.kd≠0)&&(decide (h.ho=i)||(allI h.kd&&regI h.ks i))
def Hd.may (h:Hd) (i:Int) (w:Bool):Bool:=mayI h.kd w (h.holds i) (regI h.ks i)
def Hd.Reg (h:Hd) (i:Int):Bool:=h.ok&&inI i 0 3&&regI h.ks i
def Hd.Hol (h:Hd) (i:Int):Bool:=h.ok&&inI i 0 3&&h.holds i
def Hd.May (h:Hd) (i:Int) (w:Bool):Bool:=h.ok&&inI i 0 3&&h.may i w
def Hd.new:Hd:=⟨[0,0,0,0],0, -1,0⟩
theorem Hd.ok_len {h:Hd} (e:h.ok=true):h.ks.length=4:=by
 unfold Hd.ok at e
 simp only[Bool.and_eq_true,decide_eq_true_eq]at e
 exact e.1.1.1
theorem any_take (ks:List Int) (j:Nat) (h:j<ks.length) (h0:anyI (ks.take j)=false) (hx:ks.getD j 0=0):anyI (ks.take (j+1))=false:=by
 unfold anyI at*
 rw[List.take_succ_eq_append_getElem h,List.any_append,h0]
 have:ks[j]=0:=by simpa[h]using hx
 simp[this]
theorem any_at (ks:List Int) (j:Nat) (h:j<ks.length) (hx:ks.getD j 0≠0):anyI ks=true:=by
 unfold anyI
 rw[List.any_eq_true]
 exact⟨ks[j],List.getElem_mem h,by simpa[h]using hx⟩
theorem keys_take (ks:List Int) (j:Nat) (h:j<ks.length) (h0:keysI (ks.take j)=true) (hx:inI (ks.getD j 0) 0 9999=true):keysI (ks.take (j+1))=true:=by
 unfold keysI at*
 rw[List.take_succ_eq_append_getElem h,List.all_append,h0]
 have:inI ks[j] 0 9999=true:=by simpa[h]using hx
 simp[this]
theorem keys_not (ks:List Int) (j:Nat) (h:j<ks.length) (hx:inI (ks.getD j 0) 0 9999=false):keysI ks=false:=by
 unfold keysI
 rw[List.all_eq_false]
 exact⟨ks[j],List.getElem_mem h,by have:inI ks[j] 0 9999=false:=by{simpa[h]using hx};simp[this]⟩
end Go.Proofs.YtfngkbogcjodaaaGreatDoor
namespace Go.Proofs.YtfngkbogcjodaaaGreatDoor
open Go.ChangeShapes Go.WideShapes Go.ChangeAt Go.RowKit
def StB (w:World) (g:Nat) (t:TypeId) (cs:Array Value):Prop:=w.heap[g]?=some (.cells cs t (0,0))
theorem StB.lt {w:World} {g:Nat} {t:TypeId} {cs:Array Value} (h:StB w g t cs):g<w.heap.size:=by
 rcases Nat.lt_or_ge g w.heap.size with hlt|hge
 ·exact hlt
 ·rw[StB,Array.getElem?_eq_none hge]at h;cases h
theorem StB.new (w:World) (t:TypeId) (cs:Array Value):StB (w.alloc (.cells cs t)) w.heap.size t cs:=heap_alloc_new w _
theorem StB.below {w w':World} {g:Nat} {t:TypeId} {cs:Array Value} (h:StB w g t cs) (hb:Below w.heap.size w w'):StB w' g t cs:=(hb.block g h.lt).trans h
theorem StB.kept {w w':World} {g:Nat} {t:TypeId} {cs:Array Value} {row:Option Nat} (h:StB w g t cs) (hg:w.grownBy w' row) (hne:some g≠row):StB w' g t cs:=(hg.block g h.lt hne).trans h
theorem StB.alloc {w:World} {g:Nat} {t:TypeId} {cs:Array Value} (h:StB w g t cs) (o:Obj):StB (w.alloc o) g t cs:=(Below.heap_alloc w o g h.lt).trans h
theorem StB.cell {w:World} {g:Nat} {t:TypeId} {cs:Array Value} (h:StB w g t cs) (j:Nat) {x:Value} (e:cs[j]?=some x):w.cell? ⟨g,j,none⟩=some x:=by rw[cell_of_row w g j _ _ _ h,e]
theorem StB.frozen {w:World} {g:Nat} {t:TypeId} {cs:Array Value} (h:StB w g t cs) (j:Nat):w.frozen? ⟨g,j,none⟩=false:=frozen_of_row w g j _ _ h
theorem StB.put {w:World} {g:Nat} {t:TypeId} {cs ds:Array Value} (h:StB w g t cs) (j:Nat) (x:Value) (e:cs.setIfInBounds j x=ds):StB (w.setCell ⟨g,j,none⟩ x) g t ds:=by
 have:=heap_setCell_same w g j _ _ x h
 rw[e]at this
 exact this
theorem StB.other {w:World} {g:Nat} {t:TypeId} {cs:Array Value} (h:StB w g t cs) (a:Addr) (x:Value) (hne:g≠a.block):StB (w.setCell a x) g t cs:=(heap_setCell_other w a g x hne).trans h
theorem grownRowS (w:World) (g:Nat) (cs:Array Value):w.grownBy (w.setRow g cs) (some g):=
 ⟨rfl,rfl,rfl,by simp,fun k _ hne=>_root_.Go.setRow_other w g k cs (fun e=>hne (by rw[e]))⟩
def IsS (t:TypeId) (n:Nat):Prop:=(∃fs,Tryz.prog.underlying t=some (.struct fs))∧(Tryz.prog.info? t).map (·.size)=some n
theorem wpList_getS {t:TypeId} {n:Nat} (hS:IsS t n) {ops:Array Oper} {rest:List Oper} {o:Oper} {a:Act} {w:World} {Q:Exit→Act→World→Prop} (hgd:o.guard=none) (x:Operand) (ho:o.op=.load t x)
  (g:Nat) (hx:a.eval x=.pointer (some ⟨g,0,none⟩)) (cs:Array Value) (hn:cs.size=n) (hr:StB w g t cs)
  (h:wpList Tryz.prog ops Q rest (a.put o.dst (.agg cs)) w):wpList Tryz.prog ops Q (o::rest) a w:=by
 obtain⟨⟨fs,hu⟩,hi⟩:=hS
 exact wpList_load_row hgd _ x ho g hx _ _ _ _ hr hu rfl (by rw[hi,hn]) h
theorem wpList_putS {t:TypeId} {n:Nat} (hS:IsS t n) {ops:Array Oper} {rest:List Oper} {o:Oper} {a:Act} {w:World} {Q:Exit→Act→World→Prop} (hgd:o.guard=none) (x y:Operand) (ho:o.op=.store t x y)
  (g:Nat) (cs ds:Array Value) (hx:a.eval x=.pointer (some ⟨g,0,none⟩)) (hy:a.eval y=.agg cs) (hn:cs.size=n) (hd:ds.size=n) (h1:cs.all (·.oneCell')=true) (hr:StB w g t ds)
  (h:∀w',StB w' g t cs→w.grownBy w' (some g)→wpList Tryz.prog ops Q rest (a.put o.dst undef) w'):wpList Tryz.prog ops Q (o::rest) a w:=
 wpList_store_row hgd _ x y ho g cs hx hy _ _ hr (by rw[hS.2,hn]) (by rw[hd,hn]) h1 (h _ (setRow_heap w g _ _ _ _ hr) (grownRowS w g _))
theorem load_S {t:TypeId} {n:Nat} (hS:IsS t n) (w:World) (g:Nat) (cs:Array Value) (hn:cs.size=n) (hr:StB w g t cs):(loadVar t ⟨g,0,none⟩).run Tryz.prog w=.ok (.agg cs) w:=by
 obtain⟨⟨fs,hu⟩,hi⟩:=hS
 exact run_loadVar_row w g _ _ _ _ _ hr hu rfl (by rw[hi,hn])
theorem results_S {t:TypeId} {n:Nat} (hS:IsS t n) {fn:Func} {p:Tmp} (h:fn.results=#[.cell p t]) (tmps:Array Value) (w:World) (g:Nat) (cs:Array Value) (hn:cs.size=n)
  (hp:tmps.getD p undef=.pointer (some ⟨g,0,none⟩)) (hr:StB w g t cs):(results fn tmps).run Tryz.prog w=.ok (.agg cs) w:=by
 obtain⟨⟨fs,hu⟩,hi⟩:=hS
 exact results_cell_row h tmps w g _ _ _ _ hp hr hu rfl (by rw[hi,hn])
theorem results_S2 {t:TypeId} {n:Nat} (hS:IsS t n) {fn:Func} {p q:Tmp} (h:fn.results=#[.cell p t,.tmp q]) (tmps:Array Value) (w:World) (g:Nat) (cs:Array Value) (x:Value) (hn:cs.size=n)
  (hp:tmps.getD p undef=.pointer (some ⟨g,0,none⟩)) (hx:tmps.getD q undef=x) (hr:StB w g t cs):(results fn tmps).run Tryz.prog w=.ok (.tuple #[.agg cs,x]) w:=by
 rw[results_cell_tmp h,hp,hx]
 simp only[asAddr,Sem.run_pure,Result.andThen_ok]
 rw[load_S hS w g cs hn hr]
 rfl
theorem results_S3 {t:TypeId} {n:Nat} (hS:IsS t n) {fn:Func} {p q r:Tmp} (h:fn.results=#[.cell p t,.tmp q,.tmp r]) (tmps:Array Value) (w:World) (g:Nat) (cs:Array Value) (x y:Value) (hn:cs.size=n)
  (hp:tmps.getD p undef=.pointer (some ⟨g,0,none⟩)) (hx:tmps.getD q undef=x) (hy:tmps.getD r undef=y) (hr:StB w g t cs):(results fn tmps).run Tryz.prog w=.ok (.tuple #[.agg cs,x,y]) w:=by
 have hl:=load_S hS w g cs hn hr
 have hp':tmps[p]?.getD undef=.pointer (some ⟨g,0,none⟩):=by simpa using hp
 have hx':tmps[q]?.getD undef=x:=by simpa using hx
 have hy':tmps[r]?.getD undef=y:=by simpa using hy
 simp[results,h,hp',hx',hy',asAddr,hl]
theorem reads_cells {w:World} {ao:Option Addr} {n cap:Nat} {xs:List Int} (h:Reads w (.slice ao n cap) xs):n=xs.length∧n≤cap∧cap≤maxLen∧∀j,j<n→∃b off,ao=some ⟨b,off,none⟩∧w.cell? ⟨b,off+j,none⟩=some (.int .i64 (xs.getD j 0)):=by
 obtain⟨ao',cap',e,hl,⟨hm, -⟩,hc⟩:=h
 simp only[Value.slice.injEq]at e
 obtain⟨rfl,rfl,rfl⟩:=e
 refine⟨rfl,hl,hm,fun j hj=>?_⟩
 rcases hc with rfl|⟨b,off,rfl,h4⟩
 ·simp at hj
 ·exact⟨b,off,rfl,h4 j hj⟩
theorem reads_form {w:World} {v:Value} {xs:List Int} (h:Reads w v xs):∃ao cap,v=.slice ao xs.length cap:=by
 obtain⟨ao,cap,e,_⟩:=h
 exact⟨ao,cap,e⟩
theorem reads_one {w:World} {v:Value} {xs:List Int} (h:Reads w v xs):v.oneCell'=true:=by
 obtain⟨ao,cap,rfl,_⟩:=h;rfl
end Go.Proofs.YtfngkbogcjodaaaGreatDoor
set_option maxRecDepth 20000
set_option maxHeartbeats 400000
namespace Go.Proofs.YtfngkbogcjodaaaGreatDoor
open Go.ChangeShapes Go.WideShapes Go.ChangeAt Go.RowKit
theorem sin6_any (x lo hi:Int) (w:World):
  Calls Tryz.prog 39 #[.int .i64 x,.int .i64 lo,.int .i64 hi] w fun e w'=>e=.returned (.bool (inI x lo hi))∧w'=w:=by
 by_cases h0:lo≤x
 ·by_cases h1:x≤hi
  ·have he:inI x lo hi=true:=by simp[inI,h0,h1]
   rw[he]
   clear he
   go_enter Tryz.func39,Tryz.ntmps39
   go_wp2
   go_ret
   exact⟨ret_bool (by simp),rfl⟩
  ·have he:inI x lo hi=false:=by simp[inI,h1]
   rw[he]
   clear he
   go_enter Tryz.func39,Tryz.ntmps39
   go_wp2
   go_ret
   exact⟨ret_bool (by simp),rfl⟩
 ·have he:inI x lo hi=false:=by simp[inI,h0]
  rw[he]
  clear he
  go_enter Tryz.func39,Tryz.ntmps39
  go_wp2
  go_ret
  exact⟨ret_bool (by simp),rfl⟩
theorem s6key_any (x:Int) (w:World):
  Calls Tryz.prog 40 #[.int .i64 x] w fun e w'=>e=.returned (.bool (inI x 0 9999))∧w'=w:=by
 have c1:=sin6_any x 0 9999 w
 go_enter Tryz.func40,Tryz.ntmps40
 go_wp2_with fail
 refine c1.mono ?_
 rintro e w' ⟨rfl,hw⟩;subst w'
 clear c1
 go_wp2_with fail
 go_ret
 exact⟨rfl,rfl⟩
theorem s6word_any (x:Int) (w:World):
  Calls Tryz.prog 41 #[.int .i64 x] w fun e w'=>e=.returned (.bool (inI x 0 65535))∧w'=w:=by
 have c1:=sin6_any x 0 65535 w
 go_enter Tryz.func41,Tryz.ntmps41
 go_wp2_with fail
 refine c1.mono ?_
 rintro e w' ⟨rfl,hw⟩;subst w'
 clear c1
 go_wp2_with fail
 go_ret
 exact⟨rfl,rfl⟩
end Go.Proofs.YtfngkbogcjodaaaGreatDoor
set_option maxRecDepth 20000
set_option maxHeartbeats 1000000
namespace Go.Proofs.YtfngkbogcjodaaaGreatDoor
open Go.ChangeShapes Go.WideShapes Go.ChangeAt Go.RowKit
theorem skind_any (k:Int) (w:World):
  Calls Tryz.prog 77 #[.int .i64 k] w fun e w'=>e=.returned (.bool (kiI k))∧w'=w:=by
 have c1:=sin6_any k 1 6 w
 unfold kiI
 go_enter Tryz.func77,Tryz.ntmps77
 go_wp2_with fail
 refine c1.mono ?_
 rintro e w' ⟨rfl,hw⟩;subst w'
 clear c1
 go_wp2_with fail
 go_ret
 exact⟨rfl,rfl⟩
theorem sall_any (k:Int) (w:World):
  Calls Tryz.prog 75 #[.int .i64 k] w fun e w'=>e=.returned (.bool (allI k))∧w'=w:=by
 by_cases h5:k=5
 ·subst h5
  go_enter Tryz.func75,Tryz.ntmps75
  go_wp2
  go_ret
  exact⟨rfl,rfl⟩
 ·by_cases h6:k=6
  ·subst h6
   go_enter Tryz.func75,Tryz.ntmps75
   go_wp2
   go_ret
   exact⟨rfl,rfl⟩
  ·have he:allI k=false:=by simp[allI,h5,h6]
   rw[he]
   clear he
   go_enter Tryz.func75,Tryz.ntmps75
   go_wp2
   go_ret
   exact⟨ret_bool (by simp[h5,h6]),rfl⟩
theorem sbars_any (k:Int) (b:Bool) (w:World):
  Calls Tryz.prog 117 #[.int .i64 k,.bool b] w fun e w'=>e=.returned (.bool (barsI k b))∧w'=w:=by
 have c1:=skind_any k w
 have HE:Hid (barsI k b=(kiI k&&(b||decide (k%2=0)))):=rfl
 obtain⟨x,hx⟩:∃x,x=barsI k b:=⟨_,rfl⟩
 rw[←hx]at HE⊢
 obtain⟨y,hy⟩:∃y,y=kiI k:=⟨_,rfl⟩
 rw[←hy]at HE c1
 have hk:y=true→1≤k∧k≤6:=fun h=>(inI_iff k 1 6).1 (by rw[←h,hy];rfl)
 clear hx hy
 cases y with
 |false=>
  clear hk
  go_enter Tryz.func117,Tryz.ntmps117
  go_wp2_with fail
  refine c1.mono ?_
  rintro e w' ⟨rfl,hw⟩;subst w'
  clear c1
  go_wp2
  go_ret
  exact⟨ret_bool (by rw[HE.out];rfl),rfl⟩
 |true=>
  have hk2:=hk rfl
  have hm:k.tmod 2=k%2:=Int.tmod_eq_emod_of_nonneg (by omega)
  clear hk
  cases b with
  |true=>
   go_enter Tryz.func117,Tryz.ntmps117
   go_wp2_with fail
   refine c1.mono ?_
   rintro e w' ⟨rfl,hw⟩;subst w'
   clear c1
   go_wp2
   go_ret
   exact⟨ret_bool (by rw[HE.out];rfl),rfl⟩
  |false=>
   have HX:Hid (x=decide (k%2=0)):=by rw[Hid,HE.out];rfl
   clear HE
   by_cases h2:k%2=0
   ·go_enter Tryz.func117,Tryz.ntmps117
    go_wp2_with fail
    refine c1.mono ?_
    rintro e w' ⟨rfl,hw⟩;subst w'
    clear c1
    go_wp2
    go_ret
    exact⟨ret_bool (by rw[HX.out];simp[h2]),rfl⟩
   ·go_enter Tryz.func117,Tryz.ntmps117
    go_wp2_with fail
    refine c1.mono ?_
    rintro e w' ⟨rfl,hw⟩;subst w'
    clear c1
    go_wp2
    go_ret
    exact⟨ret_bool (by rw[HX.out];simp[h2]),rfl⟩
theorem smay_any (k:Int) (b h r:Bool) (w:World):
  Calls Tryz.prog 78 #[.int .i64 k,.bool b,.bool h,.bool r] w fun e w'=>e=.returned (.bool (mayI k b h r))∧w'=w:=by
 have c1:=skind_any k w
 have c2:=sbars_any k b w
 have HE:Hid (mayI k b h r=if k=0 then true else if kiI k=false then false else if h then true else if decide (3≤k)&&r then true else !barsI k b):=rfl
 obtain⟨x,hx⟩:∃x,x=mayI k b h r:=⟨_,rfl⟩
 rw[←hx]at HE⊢
 obtain⟨y,hy⟩:∃y,y=kiI k:=⟨_,rfl⟩
 obtain⟨z,hz⟩:∃z,z=barsI k b:=⟨_,rfl⟩
 rw[←hy,←hz]at HE
 rw[←hy]at c1
 rw[←hz]at c2
 clear hx hy hz
 by_cases h0:k=0
 ·have HX:Hid (x=true):=by rw[Hid,HE.out,if_pos h0]
  subst h0
  clear c1 c2 HE
  go_enter Tryz.func78,Tryz.ntmps78
  go_wp2
  go_ret
  exact⟨ret_bool (by rw[HX.out]),rfl⟩
 ·cases y with
  |false=>
   have HX:Hid (x=false):=by rw[Hid,HE.out,if_neg h0,if_pos rfl]
   clear c2 HE
   go_enter Tryz.func78,Tryz.ntmps78
   go_wp2_with fail
   refine c1.mono ?_
   rintro e w' ⟨rfl,hw⟩;subst w'
   clear c1
   go_wp2
   go_ret
   exact⟨ret_bool (by rw[HX.out]),rfl⟩
  |true=>
   cases h with
   |true=>
    have HX:Hid (x=true):=by rw[Hid,HE.out,if_neg h0,if_neg (by decide),if_pos rfl]
    clear c2 HE
    go_enter Tryz.func78,Tryz.ntmps78
    go_wp2_with fail
    refine c1.mono ?_
    rintro e w' ⟨rfl,hw⟩;subst w'
    clear c1
    go_wp2
    go_ret
    exact⟨ret_bool (by rw[HX.out]),rfl⟩
   |false=>
    by_cases h3:3≤k
    ·cases r with
     |true=>
      have HX:Hid (x=true):=by rw[Hid,HE.out,if_neg h0,if_neg (by decide),if_neg (by decide),if_pos (by simp[h3])]
      clear c2 HE
      go_enter Tryz.func78,Tryz.ntmps78
      go_wp2_with fail
      refine c1.mono ?_
      rintro e w' ⟨rfl,hw⟩;subst w'
      clear c1
      go_wp2
      go_ret
      exact⟨ret_bool (by rw[HX.out]),rfl⟩
     |false=>
      have HX:Hid (x= !z):=by rw[Hid,HE.out,if_neg h0,if_neg (by decide),if_neg (by decide),if_neg (by simp)]
      clear HE
      go_enter Tryz.func78,Tryz.ntmps78
      go_wp2_with fail
      refine c1.mono ?_
      rintro e w' ⟨rfl,hw⟩;subst w'
      clear c1
      go_wp2_with fail
      refine c2.mono ?_
      rintro e w' ⟨rfl,hw⟩;subst w'
      clear c2
      go_wp2
      go_ret
      exact⟨ret_bool (by rw[HX.out]),rfl⟩
    ·have HX:Hid (x= !z):=by rw[Hid,HE.out,if_neg h0,if_neg (by decide),if_neg (by decide),if_neg (by simp[h3])]
     clear HE
     go_enter Tryz.func78,Tryz.ntmps78
     go_wp2_with fail
     refine c1.mono ?_
     rintro e w' ⟨rfl,hw⟩;subst w'
     clear c1
     go_wp2_with fail
     refine c2.mono ?_
     rintro e w' ⟨rfl,hw⟩;subst w'
     clear c2
     go_wp2
     go_ret
     exact⟨ret_bool (by rw[HX.out]),rfl⟩
end Go.Proofs.YtfngkbogcjodaaaGreatDoor
set_option maxRecDepth 20000
set_option maxHeartbeats 2000000
namespace Go.Proofs.YtfngkbogcjodaaaGreatDoor
open Go.ChangeShapes Go.WideShapes Go.ChangeAt Go.RowKit
def hdA (v:Value) (h:Hd):Array Value:=#[v,.int .i64 h.kd,.int .i64 h.ho,.int .i64 h.tu]
def HV (v:Value) (h:Hd):Value:=.agg (hdA v h)
theorem Tryz.isH:IsS 28 4:=⟨⟨_,Tryz.underlying28⟩,by kernel_rfl⟩
def HdB (w:World) (g:Nat) (t:TypeId) (v:Value) (h:Hd):Prop:=StB w g t (hdA v h)∧Reads w v h.ks
theorem HdB.new {w:World} {v:Value} {h:Hd} (t:TypeId) (hr:Reads w v h.ks):HdB (w.alloc (.cells (hdA v h) t)) w.heap.size t v h:=
 ⟨StB.new w t _,hr.below ((Below.refl _ _).alloc (Nat.le_refl _) _) (Nat.le_refl _)⟩
theorem HdB.below {w w':World} {g:Nat} {t:TypeId} {v:Value} {h:Hd} (k:HdB w g t v h) (hb:Below w.heap.size w w'):HdB w' g t v h:=⟨k.1.below hb,k.2.below hb (Nat.le_refl _)⟩
theorem HdB.alloc {w:World} {g:Nat} {t:TypeId} {v:Value} {h:Hd} (k:HdB w g t v h) (o:Obj):HdB (w.alloc o) g t v h:=k.below ((Below.refl _ _).alloc (Nat.le_refl _) _)
theorem HdB.drewN {w:World} {g:Nat} {t:TypeId} {v:Value} {h:Hd} (k:HdB w g t v h) (n:Nat):HdB (w.drewN n) g t v h:=k.below (below_drewN (Below.refl _ _) n)
theorem swho_any (k:Int) (w:World):
  Calls Tryz.prog 30 #[.int .i64 k] w fun e w'=>e=.returned (.bool (inI k 0 3))∧w'=w:=by
 have c1:=sin6_any k 0 3 w
 go_enter Tryz.func30,Tryz.ntmps30
 go_wp2_with fail
 refine c1.mono ?_
 rintro e w' ⟨rfl,hw⟩;subst w'
 clear c1
 go_wp2_with fail
 go_ret
 exact⟨rfl,rfl⟩
theorem s8any_any (v:Value) (h:Hd) (w:World) (hr:Reads w v h.ks) (hl:h.ks.length≤1099511627776):
  Calls Tryz.prog 76 #[HV v h] w fun e w'=>e=.returned (.bool (anyI h.ks))∧Below w.heap.size w w':=by
 obtain⟨ao,cap,rfl⟩:=reads_form hr
 obtain⟨w1,hw1⟩:∃w1,w1=w.alloc (.cells (hdA (.slice ao h.ks.length cap) h) 28):=⟨_,rfl⟩
 have H1:HdB w1 w.heap.size 28 (.slice ao h.ks.length cap) h:=by rw[hw1];exact HdB.new _ hr
 have HB:Hid (Below w.heap.size w w1):=by rw[hw1];exact(Below.refl _ _).alloc (Nat.le_refl _) _
 have HW:Hid (w1=w.alloc (.cells #[.slice ao h.ks.length cap,.int .i64 h.kd,.int .i64 h.ho,.int .i64 h.tu] 28)):=hw1
 have k0:w1.cell? ⟨w.heap.size,0,none⟩=some (.slice ao h.ks.length cap):=H1.1.cell 0 rfl
 obtain⟨-,hc1,hc2,hcell⟩:=reads_cells H1.2
 obtain⟨n,hn⟩:∃n,n=h.ks.length:=⟨_,rfl⟩
 rw[←hn]at hl k0 hc1 hcell HW
 unfold HV hdA
 rw[←hn]
 have HN:Hid (n=h.ks.length):=hn
 unfold maxLen at hc2
 clear hw1 H1 hr hn
 go_enter Tryz.func76,Tryz.ntmps76
 go_wp2
 rw[←HW.out]
 go_loop [3] (fun i=>∃j:Nat,j≤n∧i=.int .i64 j∧Hid (anyI (h.ks.take j)=false)) (fun i=>n-(intOf i).toNat)
 case atStart=>exact⟨0,Nat.zero_le _,rfl,by simp[Hid,anyI]⟩
 case round=>
  obtain⟨j,hj,rfl,HT⟩:=hrel
  by_cases hlt:(j:Int)<(n:Int)
  ·obtain⟨b,off,rfl,hcj⟩:=hcell j (by omega)
   clear hcell
   have hjl:j<h.ks.length:=by have:=HN.out;omega
   have HA:Hid (h.ks.getD j 0≠0→anyI h.ks=true):=any_at h.ks j hjl
   have HZ:Hid (h.ks.getD j 0=0→anyI (h.ks.take (j+1))=false):=any_take h.ks j hjl HT.out
   obtain⟨x,hx⟩:∃x,x=h.ks.getD j 0:=⟨_,rfl⟩
   rw[←hx]at hcj HA HZ
   clear hx hjl
   by_cases h0:x=0
   ·go_wp2
    go_round
    case rel=>exact⟨j+1,by omega,by go_num,HZ.out h0⟩
    case measure=>simp[intOf];omega
   ·have hne:(x !=0)=true:=by simpa using h0
    go_wp2
    go_ret
    rw[HA.out h0]
    exact⟨rfl,HB.out⟩
  ·have HE:Hid (anyI h.ks=false):=by
    have:=HT.out
    rwa[List.take_of_length_le (by have:=HN.out;omega)]at this
   go_wp2
   go_ret
   rw[HE.out]
   exact⟨rfl,HB.out⟩
theorem sholdok_any (v:Value) (h:Hd) (w:World) (hr:Reads w v h.ks) (hl:h.ks.length≤1099511627776):
  Calls Tryz.prog 36 #[HV v h] w fun e w'=>e=.returned (.bool h.ok)∧Below w.heap.size w w':=by
 have HE:Hid (h.ok=(decide (h.ks.length=4)&&inI h.tu 0 1000000000&&keysI h.ks&&h.mid)):=rfl
 have HM:Hid (h.mid=if h.kd=0 then decide (h.ho= -1)else if allI h.kd then decide (h.ho= -1)&&anyI h.ks else kiI h.kd&&inI h.ho 0 3&&regI h.ks h.ho):=rfl
 obtain⟨ao,cap,rfl⟩:=reads_form hr
 obtain⟨w1,hw1⟩:∃w1,w1=w.alloc (.cells (hdA (.slice ao h.ks.length cap) h) 28):=⟨_,rfl⟩
 have H1:HdB w1 w.heap.size 28 (.slice ao h.ks.length cap) h:=by rw[hw1];exact HdB.new _ hr
 have HB:Hid (Below w.heap.size w w1):=by rw[hw1];exact(Below.refl _ _).alloc (Nat.le_refl _) _
 have HW:Hid (w1=w.alloc (.cells #[.slice ao h.ks.length cap,.int .i64 h.kd,.int .i64 h.ho,.int .i64 h.tu] 28)):=hw1
 have k0:w1.cell? ⟨w.heap.size,0,none⟩=some (.slice ao h.ks.length cap):=H1.1.cell 0 rfl
 have k1:w1.cell? ⟨w.heap.size,1,none⟩=some (.int .i64 h.kd):=H1.1.cell 1 rfl
 have k2:w1.cell? ⟨w.heap.size,2,none⟩=some (.int .i64 h.ho):=H1.1.cell 2 rfl
 have k3:w1.cell? ⟨w.heap.size,3,none⟩=some (.int .i64 h.tu):=H1.1.cell 3 rfl
 obtain⟨-,hc1,hc2,hcell⟩:=reads_cells H1.2
 have ct:=fun wx=>sin6_any h.tu 0 1000000000 wx
 have ck:=fun x wx=>s6key_any x wx
 have cf:=fun wx=>sall_any h.kd wx
 have ca:=fun wx=>s8any_any (.slice ao h.ks.length cap) h wx
 have ci:=fun wx=>skind_any h.kd wx
 have cw:=fun wx=>swho_any h.ho wx
 have HR:Hid (Reads w1 (.slice ao h.ks.length cap) h.ks):=H1.2
 have HREG:Hid (regI h.ks h.ho=decide (h.ks.getD h.ho.toNat 0≠0)):=rfl
 obtain⟨bt,hbt⟩:∃bt,bt=inI h.tu 0 1000000000:=⟨_,rfl⟩
 obtain⟨bf,hbf⟩:∃bf,bf=allI h.kd:=⟨_,rfl⟩
 obtain⟨bi,hbi⟩:∃bi,bi=kiI h.kd:=⟨_,rfl⟩
 obtain⟨bw,hbw⟩:∃bw,bw=inI h.ho 0 3:=⟨_,rfl⟩
 have HWR:Hid (bw=true→0≤h.ho∧h.ho≤3):=fun e=>(inI_iff _ _ _).1 (by rw[←hbw,e])
 rw[←hbt]at HE
 rw[←hbf,←hbi,←hbw]at HM
 simp only[←hbt]at ct
 simp only[←hbf]at cf
 simp only[←hbi]at ci
 simp only[←hbw]at cw
 obtain⟨x,hx⟩:∃x,x=h.ok:=⟨_,rfl⟩
 rw[←hx]at HE⊢
 obtain⟨n,hn⟩:∃n,n=h.ks.length:=⟨_,rfl⟩
 rw[←hn]at hl k0 hc1 hcell HW HE HR
 simp only[←hn]at ca
 unfold HV hdA at ca
 unfold HV hdA
 rw[←hn]
 have Hca:Hid _:=ca
 have HN:Hid (n=h.ks.length):=hn
 unfold maxLen at hc2
 clear hw1 H1 hr hn hx hbt hbf hbi hbw ca
 by_cases hn4:(n:Int)=4
 case neg=>
  have HX:Hid (x=false):=by rw[Hid,HE.out,show decide (n=4)=false by simp;omega];rfl
  have hne:((n:Int) !=4)=true:=by simpa using hn4
  clear hcell
  go_enter Tryz.func36,Tryz.ntmps36
  go_wp2
  rw[←HW.out]
  go_ret
  rw[HX.out]
  exact⟨rfl,HB.out⟩
 obtain rfl:n=4:=by omega
 cases bt with
 |false=>
  have HX:Hid (x=false):=by rw[Hid,HE.out];rfl
  clear hcell
  go_enter Tryz.func36,Tryz.ntmps36
  go_wp2_with fail
  rw[←HW.out]
  refine(ct _).mono ?_
  rintro e w' ⟨rfl,hw⟩;subst w'
  go_wp2
  go_ret
  rw[HX.out]
  exact⟨rfl,HB.out⟩
 |true=>
  have HY:Hid (x=(keysI h.ks&&h.mid)):=by rw[Hid,HE.out];simp
  clear HE
  go_enter Tryz.func36,Tryz.ntmps36
  go_wp2_with fail
  rw[←HW.out]
  refine(ct _).mono ?_
  rintro e w' ⟨rfl,hw⟩;subst w'
  clear ct HW
  go_wp2
  go_loop [3] (fun i=>∃j:Nat,(j:Int)≤4∧i=.int .i64 j∧Hid (keysI (h.ks.take j)=true)) (fun i=>4-(intOf i).toNat)
  case atStart=>exact⟨0,by omega,rfl,by simp[Hid,keysI]⟩
  case round=>
   obtain⟨j,hj,rfl,HT⟩:=hrel
   by_cases hlt:(j:Int)<4
   ·obtain⟨b,off,rfl,hcj⟩:=hcell j (by omega)
    clear hcell
    have hjl:j<h.ks.length:=by have:=HN.out;omega
    have HA:Hid (inI (h.ks.getD j 0) 0 9999=false→keysI h.ks=false):=keys_not h.ks j hjl
    have HZ:Hid (inI (h.ks.getD j 0) 0 9999=true→keysI (h.ks.take (j+1))=true):=keys_take h.ks j hjl HT.out
    have ckj:=fun wx=>ck (h.ks.getD j 0) wx
    obtain⟨y,hy⟩:∃y,y=h.ks.getD j 0:=⟨_,rfl⟩
    rw[←hy]at hcj HA HZ
    simp only[←hy]at ckj
    obtain⟨by1,hby⟩:∃by1,by1=inI y 0 9999:=⟨_,rfl⟩
    rw[←hby]at HA HZ
    simp only[←hby]at ckj
    clear hy hjl hby ck
    go_wp2_with fail
    refine(ckj _).mono ?_
    rintro e w' ⟨rfl,hw⟩;subst w'
    cases by1 with
    |true=>
     have HZ2:Hid (keysI (h.ks.take (j+1))=true):=HZ.out rfl
     clear HZ HA
     go_wp2
     go_round
     case rel=>exact⟨j+1,by omega,by go_num,HZ2.out⟩
     case measure=>simp[intOf];omega
    |false=>
     have HX:Hid (x=false):=by rw[Hid,HY.out,HA.out rfl];rfl
     clear HZ HA
     go_wp2
     go_ret
     rw[HX.out]
     exact⟨rfl,HB.out⟩
   ·have HK:Hid (x=h.mid):=by
     have:=HT.out
     rw[List.take_of_length_le (by have:=HN.out;omega)]at this
     rw[Hid,HY.out,this];rfl
    clear HY HT ck
    by_cases hk0:h.kd=0
    ·have HX:Hid (x=decide (h.ho= -1)):=by rw[Hid,HK.out,HM.out,if_pos hk0]
     clear HK HM Hca cf ci cw hcell
     by_cases hm1:h.ho= -1
     ·go_wp2
      go_ret
      exact⟨ret_bool (by rw[HX.out];simp[hm1]),HB.out⟩
     ·go_wp2
      go_ret
      exact⟨ret_bool (by rw[HX.out];simp[hm1]),HB.out⟩
    ·cases bf with
     |true=>
      have HX:Hid (x=(decide (h.ho= -1)&&anyI h.ks)):=by rw[Hid,HK.out,HM.out,if_neg hk0,if_pos rfl]
      clear HK HM ci cw hcell
      go_wp2_with fail
      refine(cf _).mono ?_
      rintro e w' ⟨rfl,hw⟩;subst w'
      clear cf
      by_cases hm1:h.ho= -1
      ·have HX2:Hid (x=anyI h.ks):=by rw[Hid,HX.out];simp[hm1]
       have ca:=Hca.out w1 HR.out (by have:=HN.out;omega)
       rw[hm1]at ca
       clear HX Hca
       go_wp2_with fail
       refine ca.mono ?_
       rintro e w2 ⟨rfl,b2⟩
       go_wp2
       go_ret
       rw[HX2.out]
       exact⟨rfl,HB.out.trans (b2.mono HB.out.size)⟩
      ·have HX2:Hid (x=false):=by rw[Hid,HX.out];simp[hm1]
       clear HX Hca
       go_wp2
       go_ret
       exact⟨ret_bool (by rw[HX2.out]),HB.out⟩
     |false=>
      have HX:Hid (x=(bi&&bw&&regI h.ks h.ho)):=by rw[Hid,HK.out,HM.out,if_neg hk0,if_neg (by decide)]
      clear HK HM Hca
      go_wp2_with fail
      refine(cf _).mono ?_
      rintro e w' ⟨rfl,hw⟩;subst w'
      clear cf
      go_wp2_with fail
      refine(ci _).mono ?_
      rintro e w' ⟨rfl,hw⟩;subst w'
      clear ci
      cases bi with
      |false=>
       go_wp2
       go_ret
       exact⟨ret_bool (by rw[HX.out];rfl),HB.out⟩
      |true=>
       go_wp2_with fail
       refine(cw _).mono ?_
       rintro e w' ⟨rfl,hw⟩;subst w'
       clear cw
       cases bw with
       |false=>
        go_wp2
        go_ret
        exact⟨ret_bool (by rw[HX.out];rfl),HB.out⟩
       |true=>
        obtain⟨hw0,hw3⟩:=HWR.out rfl
        obtain⟨b,off,rfl,hcj⟩:=hcell h.ho.toNat (by omega)
        have HX2:Hid (x=decide (h.ks.getD h.ho.toNat 0≠0)):=by rw[Hid,HX.out,HREG.out];rfl
        obtain⟨y,hy⟩:∃y,y=h.ks.getD h.ho.toNat 0:=⟨_,rfl⟩
        rw[←hy]at hcj HX2
        clear hcell hy HX HREG
        have hoc:((h.ho.toNat:Nat):Int)=h.ho:=by omega
        by_cases hy0:y=0
        ·go_wp2
         go_ret
         exact⟨ret_bool (by rw[HX2.out];simp[hy0]),HB.out⟩
        ·have hyn:(y !=0)=true:=by simpa using hy0
         go_wp2
         go_ret
         exact⟨ret_bool (by rw[HX2.out];simp[hy0]),HB.out⟩
end Go.Proofs.YtfngkbogcjodaaaGreatDoor
