import Derived.Test.YtpdggofaobmnlaaGreatDoorM4
import Derived.Test.YtpdggofaobmnlaaGreatDoorM1
import Derived.Below
import Derived.Laws.Tables
import Derived.Laws.ResultCell
/- Kinds, and who may, as plain numbers and truths. -/
set_option maxRecDepth 20000
set_option maxHeartbeats 1000000
namespace Go.Proofs.YtpdggofaobmnlaaGreatDoor
open Go.RowKit
def kiI (k:Int):Bool:=inI k 1 6
def barsI (k:Int) (w:Bool):Bool:=kiI k&&(w||decide (k%2=0))
def allI (k:Int):Bool:=decide (k=5)||decide (k=6)
def mayI (k:Int) (w h r:Bool):Bool:=if k=0 then true else if kiI k=false then false else if h then true else if decide (3≤k)&&r then true else !barsI k w
theorem kinds (k:Int):k=0∨k=1∨k=2∨k=3∨k=4∨k=5∨k=6∨(kiI k=false∧k≠0∧k≠1∧k≠2∧k≠3∧k≠4∧k≠5∧k≠6):=by
 by_cases h:kiI k=true
 ·have:=(inI_iff k 1 6).1 h
  omega
 ·have h':kiI k=false:=by simpa using h
  have:¬(1≤k∧k≤6):=fun e=>h ((inI_iff k 1 6).2 e)
  by_cases h0:k=0
  ·exact .inl h0
  ·exact .inr (.inr (.inr (.inr (.inr (.inr (.inr ⟨h',by omega⟩))))))
theorem kiI_lit:kiI 0=false∧kiI 1=true∧kiI 2=true∧kiI 3=true∧kiI 4=true∧kiI 5=true∧kiI 6=true:=by decide
theorem mayI_holds (k:Int) (w r:Bool) (h:kiI k=true):mayI k w true r=true:=by
 unfold mayI
 by_cases h0:k=0
 ·rw[if_pos h0]
 ·rw[if_neg h0,if_neg (by rw[h];decide),if_pos rfl]
theorem barsI_le (k:Int):(barsI k false&& !barsI k true)=false:=by
 unfold barsI
 cases kiI k<;>simp
theorem mayI_le (k:Int) (h r:Bool):(mayI k true h r&& !mayI k false h r)=false:=by
 unfold mayI barsI
 by_cases h0:k=0
 ·simp[h0]
 ·rw[if_neg h0,if_neg h0]
  cases hk:kiI k with
  |false=>simp
  |true=>cases h<;>cases r<;>by_cases h3:3≤k<;>simp[h3]
theorem mayI_all (k:Int) (w h:Bool):(!allI k||mayI k w h true)=true:=by
 unfold allI mayI
 by_cases h5:k=5
 ·subst h5;simp[show kiI 5=true from rfl]
 ·by_cases h6:k=6
  ·subst h6;simp[show kiI 6=true from rfl]
  ·simp[h5,h6]
theorem none_all (k:Int) (hk:kiI k=false):allI k=false:=by
 rcases kinds k with h|h|h|h|h|h|h|⟨_,h0,h1,h2,h3,h4,h5,h6⟩
 ·subst h;rfl
 all_goals first|(subst h;exact absurd hk (by decide))|simp[allI,h5,h6]
theorem none_bars (k:Int) (w:Bool) (hk:kiI k=false):barsI k w=false:=by simp[barsI,hk]
theorem none_may (k:Int) (w h r:Bool) (h0:k≠0) (hk:kiI k=false):mayI k w h r=false:=by simp[mayI,h0,hk]
end Go.Proofs.YtpdggofaobmnlaaGreatDoor
namespace Go.Proofs.YtpdggofaobmnlaaGreatDoor
open Go.RowKit
structure Hd where
 ks:List Int
 kd:Int
 ho:Int
 tu:Int
def anyI (ks:List Int):Bool:=ks.any (fun k=>decide (k≠0))
def keysI (ks:List Int):Bool:=ks.all (fun k=>inI k 0 9999)
def regI (ks:List Int) (i:Int):Bool:=decide (ks.getD i.toNat 0≠0)
def Hd.mid (h:Hd):Bool:=if h.kd=0 then decide (h.ho= -1)else if allI h.kd then decide (h.ho= -1)&&anyI h.ks else kiI h.kd&&inI h.ho 0 3&&regI h.ks h.ho
def Hd.ok (h:Hd):Bool:=decide (h.ks.length=4)&&inI h.tu 0 1000000000&&keysI h.ks&&h.mid
def Hd.holds (h:Hd) (i:Int):Bool:=decide (h.kd≠0)&&(decide (h.ho=i)||(allI h.kd&&regI h.ks i))
def Hd.may (h:Hd) (i:Int) (w:Bool):Bool:=mayI h.kd w (h.holds i) (regI h.ks i)
def Hd.Reg (h:Hd) (i:Int):Bool:=h.ok&&inI i 0 3&&regI h.ks i
def Hd.Hol (h:Hd) (i:Int):Bool:=h.ok&&inI i 0 3&&h.holds i
def Hd.May (h:Hd) (i:Int) (w:Bool):Bool:=h.ok&&inI i 0 3&&h.may i w
def Hd.new:Hd:=⟨[0,0,0,0],0, -1,0⟩
theorem Hd.ok_len {h:Hd} (e:h.ok=true):h.ks.length=4:=by
 unfold Hd.ok at e
 simp only[Bool.and_eq_true,decide_eq_true_eq]at e
 exact e.1.1.1
theorem any_take (ks:List Int) (j:Nat) (h:j<ks.length) (h0:anyI (ks.take j)=false) (hx:ks.getD j 0=0):anyI (ks.take (j+1))=false:=by
 unfold anyI at*
 rw[List.take_succ_eq_append_getElem h,List.any_append,h0]
 have:ks[j]=0:=by simpa[h]using hx
 simp[this]
theorem any_at (ks:List Int) (j:Nat) (h:j<ks.length) (hx:ks.getD j 0≠0):anyI ks=true:=by
 unfold anyI
 rw[List.any_eq_true]
 exact⟨ks[j],List.getElem_mem h,by simpa[h]using hx⟩
theorem keys_take (ks:List Int) (j:Nat) (h:j<ks.length) (h0:keysI (ks.take j)=true) (hx:inI (ks.getD j 0) 0 9999=true):keysI (ks.take (j+1))=true:=by
 unfold keysI at*
 rw[List.take_succ_eq_append_getElem h,List.all_append,h0]
 have:inI ks[j] 0 9999=true:=by simpa[h]using hx
 simp[this]
theorem keys_not (ks:List Int) (j:Nat) (h:j<ks.length) (hx:inI (ks.getD j 0) 0 9999=false):keysI ks=false:=by
 unfold keysI
 rw[List.all_eq_false]
 exact⟨ks[j],List.getElem_mem h,by have:inI ks[j] 0 9999=false:=by{simpa[h]using hx};simp[this]⟩
end Go.Proofs.YtpdggofaobmnlaaGreatDoor
namespace Go.Proofs.YtpdggofaobmnlaaGreatDoor
open Go.ChangeShapes Go.WideShapes Go.ChangeAt Go.RowKit
def StB (w:World) (g:Nat) (t:TypeId) (cs:Array Value):Prop:=w.heap[g]?=some (.cells cs t (0,0))
theorem StB.lt {w:World} {g:Nat} {t:TypeId} {cs:Array Value} (h:StB w g t cs):g<w.heap.size:=by
 rcases Nat.lt_or_ge g w.heap.size with hlt|hge
 ·exact hlt
 ·rw[StB,Array.getElem?_eq_none hge]at h;cases h
theorem StB.new (w:World) (t:TypeId) (cs:Array Value):StB (w.alloc (.cells cs t)) w.heap.size t cs:=heap_alloc_new w _
theorem StB.below {w w':World} {g:Nat} {t:TypeId} {cs:Array Value} (h:StB w g t cs) (hb:Below w.heap.size w w'):StB w' g t cs:=(hb.block g h.lt).trans h
theorem StB.kept {w w':World} {g:Nat} {t:TypeId} {cs:Array Value} {row:Option Nat} (h:StB w g t cs) (hg:w.grownBy w' row) (hne:some g≠row):StB w' g t cs:=(hg.block g h.lt hne).trans h
theorem StB.alloc {w:World} {g:Nat} {t:TypeId} {cs:Array Value} (h:StB w g t cs) (o:Obj):StB (w.alloc o) g t cs:=(Below.heap_alloc w o g h.lt).trans h
theorem StB.cell {w:World} {g:Nat} {t:TypeId} {cs:Array Value} (h:StB w g t cs) (j:Nat) {x:Value} (e:cs[j]?=some x):w.cell? ⟨g,j,none⟩=some x:=by rw[cell_of_row w g j _ _ _ h,e]
theorem StB.frozen {w:World} {g:Nat} {t:TypeId} {cs:Array Value} (h:StB w g t cs) (j:Nat):w.frozen? ⟨g,j,none⟩=false:=frozen_of_row w g j _ _ h
theorem StB.put {w:World} {g:Nat} {t:TypeId} {cs ds:Array Value} (h:StB w g t cs) (j:Nat) (x:Value) (e:cs.setIfInBounds j x=ds):StB (w.setCell ⟨g,j,none⟩ x) g t ds:=by
 have:=heap_setCell_same w g j _ _ x h
 rw[e]at this
 exact this
theorem StB.other {w:World} {g:Nat} {t:TypeId} {cs:Array Value} (h:StB w g t cs) (a:Addr) (x:Value) (hne:g≠a.block):StB (w.setCell a x) g t cs:=(heap_setCell_other w a g x hne).trans h
theorem grownRowS (w:World) (g:Nat) (cs:Array Value):w.grownBy (w.setRow g cs) (some g):=
 ⟨rfl,rfl,rfl,by simp,fun k _ hne=>_root_.Go.setRow_other w g k cs (fun e=>hne (by rw[e]))⟩
def IsS (t:TypeId) (n:Nat):Prop:=(∃fs,Tryz.prog.underlying t=some (.struct fs))∧(Tryz.prog.info? t).map (·.size)=some n
theorem wpList_getS {t:TypeId} {n:Nat} (hS:IsS t n) {ops:Array Oper} {rest:List Oper} {o:Oper} {a:Act} {w:World} {Q:Exit→Act→World→Prop} (hgd:o.guard=none) (x:Operand) (ho:o.op=.load t x)
  (g:Nat) (hx:a.eval x=.pointer (some ⟨g,0,none⟩)) (cs:Array Value) (hn:cs.size=n) (hr:StB w g t cs)
  (h:wpList Tryz.prog ops Q rest (a.put o.dst (.agg cs)) w):wpList Tryz.prog ops Q (o::rest) a w:=by
 obtain⟨⟨fs,hu⟩,hi⟩:=hS
 exact wpList_load_row hgd _ x ho g hx _ _ _ _ hr hu rfl (by rw[hi,hn]) h
theorem wpList_putS {t:TypeId} {n:Nat} (hS:IsS t n) {ops:Array Oper} {rest:List Oper} {o:Oper} {a:Act} {w:World} {Q:Exit→Act→World→Prop} (hgd:o.guard=none) (x y:Operand) (ho:o.op=.store t x y)
  (g:Nat) (cs ds:Array Value) (hx:a.eval x=.pointer (some ⟨g,0,none⟩)) (hy:a.eval y=.agg cs) (hn:cs.size=n) (hd:ds.size=n) (h1:cs.all (·.oneCell')=true) (hr:StB w g t ds)
  (h:∀w',StB w' g t cs→w.grownBy w' (some g)→wpList Tryz.prog ops Q rest (a.put o.dst undef) w'):wpList Tryz.prog ops Q (o::rest) a w:=
 wpList_store_row hgd _ x y ho g cs hx hy _ _ hr (by rw[hS.2,hn]) (by rw[hd,hn]) h1 (h _ (setRow_heap w g _ _ _ _ hr) (grownRowS w g _))
theorem load_S {t:TypeId} {n:Nat} (hS:IsS t n) (w:World) (g:Nat) (cs:Array Value) (hn:cs.size=n) (hr:StB w g t cs):(loadVar t ⟨g,0,none⟩).run Tryz.prog w=.ok (.agg cs) w:=by
 obtain⟨⟨fs,hu⟩,hi⟩:=hS
 exact run_loadVar_row w g _ _ _ _ _ hr hu rfl (by rw[hi,hn])
theorem results_S {t:TypeId} {n:Nat} (hS:IsS t n) {fn:Func} {p:Tmp} (h:fn.results=#[.cell p t]) (tmps:Array Value) (w:World) (g:Nat) (cs:Array Value) (hn:cs.size=n)
  (hp:tmps.getD p undef=.pointer (some ⟨g,0,none⟩)) (hr:StB w g t cs):(results fn tmps).run Tryz.prog w=.ok (.agg cs) w:=by
 obtain⟨⟨fs,hu⟩,hi⟩:=hS
 exact results_cell_row h tmps w g _ _ _ _ hp hr hu rfl (by rw[hi,hn])
theorem results_S2 {t:TypeId} {n:Nat} (hS:IsS t n) {fn:Func} {p q:Tmp} (h:fn.results=#[.cell p t,.tmp q]) (tmps:Array Value) (w:World) (g:Nat) (cs:Array Value) (x:Value) (hn:cs.size=n)
  (hp:tmps.getD p undef=.pointer (some ⟨g,0,none⟩)) (hx:tmps.getD q undef=x) (hr:StB w g t cs):(results fn tmps).run Tryz.prog w=.ok (.tuple #[.agg cs,x]) w:=by
 rw[results_cell_tmp h,hp,hx]
 simp only[asAddr,Sem.run_pure,Result.andThen_ok]
 rw[load_S hS w g cs hn hr]
 rfl
theorem results_S3 {t:TypeId} {n:Nat} (hS:IsS t n) {fn:Func} {p q r:Tmp} (h:fn.results=#[.cell p t,.tmp q,.tmp r]) (tmps:Array Value) (w:World) (g:Nat) (cs:Array Value) (x y:Value) (hn:cs.size=n)
  (hp:tmps.getD p undef=.pointer (some ⟨g,0,none⟩)) (hx:tmps.getD q undef=x) (hy:tmps.getD r undef=y) (hr:StB w g t cs):(results fn tmps).run Tryz.prog w=.ok (.tuple #[.agg cs,x,y]) w:=by
 have hl:=load_S hS w g cs hn hr
 have hp':tmps[p]?.getD undef=.pointer (some ⟨g,0,none⟩):=by simpa using hp
 have hx':tmps[q]?.getD undef=x:=by simpa using hx
 have hy':tmps[r]?.getD undef=y:=by simpa using hy
 simp[results,h,hp',hx',hy',asAddr,hl]
theorem reads_cells {w:World} {ao:Option Addr} {n cap:Nat} {xs:List Int} (h:Reads w (.slice ao n cap) xs):n=xs.length∧n≤cap∧cap≤maxLen∧∀j,j<n→∃b off,ao=some ⟨b,off,none⟩∧w.cell? ⟨b,off+j,none⟩=some (.int .i64 (xs.getD j 0)):=by
 obtain⟨ao',cap',e,hl,⟨hm, -⟩,hc⟩:=h
 simp only[Value.slice.injEq]at e
 obtain⟨rfl,rfl,rfl⟩:=e
 refine⟨rfl,hl,hm,fun j hj=>?_⟩
 rcases hc with rfl|⟨b,off,rfl,h4⟩
 ·simp at hj
 ·exact⟨b,off,rfl,h4 j hj⟩
theorem reads_form {w:World} {v:Value} {xs:List Int} (h:Reads w v xs):∃ao cap,v=.slice ao xs.length cap:=by
 obtain⟨ao,cap,e,_⟩:=h
 exact⟨ao,cap,e⟩
theorem reads_one {w:World} {v:Value} {xs:List Int} (h:Reads w v xs):v.oneCell'=true:=by
 obtain⟨ao,cap,rfl,_⟩:=h;rfl
end Go.Proofs.YtpdggofaobmnlaaGreatDoor
namespace Go.Proofs.YtpdggofaobmnlaaGreatDoor
open Go.ChangeShapes Go.WideShapes Go.ChangeAt Go.RowKit
theorem sin6_any (x lo hi:Int) (w:World):
  Calls Tryz.prog 47 #[.int .i64 x,.int .i64 lo,.int .i64 hi] w fun e w'=>e=.returned (.bool (inI x lo hi))∧w'=w:=by
 by_cases h0:lo≤x
 ·by_cases h1:x≤hi
  ·have he:inI x lo hi=true:=by simp[inI,h0,h1]
   rw[he]
   clear he
   go_enter Tryz.func47,Tryz.ntmps47
   go_wp2
   go_ret
   exact⟨ret_bool (by simp),rfl⟩
  ·have he:inI x lo hi=false:=by simp[inI,h1]
   rw[he]
   clear he
   go_enter Tryz.func47,Tryz.ntmps47
   go_wp2
   go_ret
   exact⟨ret_bool (by simp),rfl⟩
 ·have he:inI x lo hi=false:=by simp[inI,h0]
  rw[he]
  clear he
  go_enter Tryz.func47,Tryz.ntmps47
  go_wp2
  go_ret
  exact⟨ret_bool (by simp),rfl⟩
theorem s6key_any (x:Int) (w:World):
  Calls Tryz.prog 48 #[.int .i64 x] w fun e w'=>e=.returned (.bool (inI x 0 9999))∧w'=w:=by
 have c1:=sin6_any x 0 9999 w
 go_enter Tryz.func48,Tryz.ntmps48
 go_wp2_with fail
 refine c1.mono ?_
 rintro e w' ⟨rfl,hw⟩;subst w'
 clear c1
 go_wp2_with fail
 go_ret
 exact⟨rfl,rfl⟩
theorem s6word_any (x:Int) (w:World):
  Calls Tryz.prog 49 #[.int .i64 x] w fun e w'=>e=.returned (.bool (inI x 0 65535))∧w'=w:=by
 have c1:=sin6_any x 0 65535 w
 go_enter Tryz.func49,Tryz.ntmps49
 go_wp2_with fail
 refine c1.mono ?_
 rintro e w' ⟨rfl,hw⟩;subst w'
 clear c1
 go_wp2_with fail
 go_ret
 exact⟨rfl,rfl⟩
end Go.Proofs.YtpdggofaobmnlaaGreatDoor
namespace Go.Proofs.YtpdggofaobmnlaaGreatDoor
open Go.ChangeShapes Go.WideShapes Go.ChangeAt Go.RowKit
theorem skind_any (k:Int) (w:World):
  Calls Tryz.prog 95 #[.int .i64 k] w fun e w'=>e=.returned (.bool (kiI k))∧w'=w:=by
 have c1:=sin6_any k 1 6 w
 unfold kiI
 go_enter Tryz.func95,Tryz.ntmps95
 go_wp2_with fail
 refine c1.mono ?_
 rintro e w' ⟨rfl,hw⟩;subst w'
 clear c1
 go_wp2_with fail
 go_ret
 exact⟨rfl,rfl⟩
theorem sall_any (k:Int) (w:World):
  Calls Tryz.prog 93 #[.int .i64 k] w fun e w'=>e=.returned (.bool (allI k))∧w'=w:=by
 by_cases h5:k=5
 ·subst h5
  go_enter Tryz.func93,Tryz.ntmps93
  go_wp2
  go_ret
  exact⟨rfl,rfl⟩
 ·by_cases h6:k=6
  ·subst h6
   go_enter Tryz.func93,Tryz.ntmps93
   go_wp2
   go_ret
   exact⟨rfl,rfl⟩
  ·have he:allI k=false:=by simp[allI,h5,h6]
   rw[he]
   clear he
   go_enter Tryz.func93,Tryz.ntmps93
   go_wp2
   go_ret
   exact⟨ret_bool (by simp[h5,h6]),rfl⟩
theorem sbars_any (k:Int) (b:Bool) (w:World):
  Calls Tryz.prog 140 #[.int .i64 k,.bool b] w fun e w'=>e=.returned (.bool (barsI k b))∧w'=w:=by
 have c1:=skind_any k w
 have HE:Hid (barsI k b=(kiI k&&(b||decide (k%2=0)))):=rfl
 obtain⟨x,hx⟩:∃x,x=barsI k b:=⟨_,rfl⟩
 rw[←hx]at HE⊢
 obtain⟨y,hy⟩:∃y,y=kiI k:=⟨_,rfl⟩
 rw[←hy]at HE c1
 have hk:y=true→1≤k∧k≤6:=fun h=>(inI_iff k 1 6).1 (by rw[←h,hy];rfl)
 clear hx hy
 cases y with
 |false=>
  clear hk
  go_enter Tryz.func140,Tryz.ntmps140
  go_wp2_with fail
  refine c1.mono ?_
  rintro e w' ⟨rfl,hw⟩;subst w'
  clear c1
  go_wp2
  go_ret
  exact⟨ret_bool (by rw[HE.out];rfl),rfl⟩
 |true=>
  have hk2:=hk rfl
  have hm:k.tmod 2=k%2:=Int.tmod_eq_emod_of_nonneg (by omega)
  clear hk
  cases b with
  |true=>
   go_enter Tryz.func140,Tryz.ntmps140
   go_wp2_with fail
   refine c1.mono ?_
   rintro e w' ⟨rfl,hw⟩;subst w'
   clear c1
   go_wp2
   go_ret
   exact⟨ret_bool (by rw[HE.out];rfl),rfl⟩
  |false=>
   have HX:Hid (x=decide (k%2=0)):=by rw[Hid,HE.out];rfl
   clear HE
   by_cases h2:k%2=0
   ·go_enter Tryz.func140,Tryz.ntmps140
    go_wp2_with fail
    refine c1.mono ?_
    rintro e w' ⟨rfl,hw⟩;subst w'
    clear c1
    go_wp2
    go_ret
    exact⟨ret_bool (by rw[HX.out];simp[h2]),rfl⟩
   ·go_enter Tryz.func140,Tryz.ntmps140
    go_wp2_with fail
    refine c1.mono ?_
    rintro e w' ⟨rfl,hw⟩;subst w'
    clear c1
    go_wp2
    go_ret
    exact⟨ret_bool (by rw[HX.out];simp[h2]),rfl⟩
theorem smay_any (k:Int) (b h r:Bool) (w:World):
  Calls Tryz.prog 96 #[.int .i64 k,.bool b,.bool h,.bool r] w fun e w'=>e=.returned (.bool (mayI k b h r))∧w'=w:=by
 have c1:=skind_any k w
 have c2:=sbars_any k b w
 have HE:Hid (mayI k b h r=if k=0 then true else if kiI k=false then false else if h then true else if decide (3≤k)&&r then true else !barsI k b):=rfl
 obtain⟨x,hx⟩:∃x,x=mayI k b h r:=⟨_,rfl⟩
 rw[←hx]at HE⊢
 obtain⟨y,hy⟩:∃y,y=kiI k:=⟨_,rfl⟩
 obtain⟨z,hz⟩:∃z,z=barsI k b:=⟨_,rfl⟩
 rw[←hy,←hz]at HE
 rw[←hy]at c1
 rw[←hz]at c2
 clear hx hy hz
 by_cases h0:k=0
 ·have HX:Hid (x=true):=by rw[Hid,HE.out,if_pos h0]
  subst h0
  clear c1 c2 HE
  go_enter Tryz.func96,Tryz.ntmps96
  go_wp2
  go_ret
  exact⟨ret_bool (by rw[HX.out]),rfl⟩
 ·cases y with
  |false=>
   have HX:Hid (x=false):=by rw[Hid,HE.out,if_neg h0,if_pos rfl]
   clear c2 HE
   go_enter Tryz.func96,Tryz.ntmps96
   go_wp2_with fail
   refine c1.mono ?_
   rintro e w' ⟨rfl,hw⟩;subst w'
   clear c1
   go_wp2
   go_ret
   exact⟨ret_bool (by rw[HX.out]),rfl⟩
  |true=>
   cases h with
   |true=>
    have HX:Hid (x=true):=by rw[Hid,HE.out,if_neg h0,if_neg (by decide),if_pos rfl]
    clear c2 HE
    go_enter Tryz.func96,Tryz.ntmps96
    go_wp2_with fail
    refine c1.mono ?_
    rintro e w' ⟨rfl,hw⟩;subst w'
    clear c1
    go_wp2
    go_ret
    exact⟨ret_bool (by rw[HX.out]),rfl⟩
   |false=>
    by_cases h3:3≤k
    ·cases r with
     |true=>
      have HX:Hid (x=true):=by rw[Hid,HE.out,if_neg h0,if_neg (by decide),if_neg (by decide),if_pos (by simp[h3])]
      clear c2 HE
      go_enter Tryz.func96,Tryz.ntmps96
      go_wp2_with fail
      refine c1.mono ?_
      rintro e w' ⟨rfl,hw⟩;subst w'
      clear c1
      go_wp2
      go_ret
      exact⟨ret_bool (by rw[HX.out]),rfl⟩
     |false=>
      have HX:Hid (x= !z):=by rw[Hid,HE.out,if_neg h0,if_neg (by decide),if_neg (by decide),if_neg (by simp)]
      clear HE
      go_enter Tryz.func96,Tryz.ntmps96
      go_wp2_with fail
      refine c1.mono ?_
      rintro e w' ⟨rfl,hw⟩;subst w'
      clear c1
      go_wp2_with fail
      refine c2.mono ?_
      rintro e w' ⟨rfl,hw⟩;subst w'
      clear c2
      go_wp2
      go_ret
      exact⟨ret_bool (by rw[HX.out]),rfl⟩
    ·have HX:Hid (x= !z):=by rw[Hid,HE.out,if_neg h0,if_neg (by decide),if_neg (by decide),if_neg (by simp[h3])]
     clear HE
     go_enter Tryz.func96,Tryz.ntmps96
     go_wp2_with fail
     refine c1.mono ?_
     rintro e w' ⟨rfl,hw⟩;subst w'
     clear c1
     go_wp2_with fail
     refine c2.mono ?_
     rintro e w' ⟨rfl,hw⟩;subst w'
     clear c2
     go_wp2
     go_ret
     exact⟨ret_bool (by rw[HX.out]),rfl⟩
end Go.Proofs.YtpdggofaobmnlaaGreatDoor
