/- Disks: the model's DiskOk, NewDisk, Written, Flushed, Loose and Lost answer what plain lists say, in new memory. -/
import Derived.Test.YtflbcjgkdokhiaaGreatDoorM5
import Derived.Deep.RegionHeld3
import Derived.Deep.RegionWith
import Derived.WalkSpells
import Derived.Test.YtflbcjgkdokhiaaGreatDoorM2
import Derived.Below
import Derived.Laws.Tables
import Derived.Laws.ResultCell
import Derived.Test.YtflbcjgkdokhiaaGreatDoorM1
import Derived.Test.YtflbcjgkdokhiaaGreatDoorM4
import Derived.BigRegion
set_option maxRecDepth 20000
set_option maxHeartbeats 1000000
namespace Go.Proofs.YtflbcjgkdokhiaaGreatDoor
open Go.ChangeShapes Go.WideShapes Go.ChangeAt Go.RowKit
def Boxes (w wx:World) (u v:Value):Prop:=
 Pair wx w.heap.size 46 u v∧Pair wx (w.heap.size+1) 46 (.slice none 0 0) (.slice none 0 0)∧Below w.heap.size w wx∧w.heap.size+2≤wx.heap.size
theorem Boxes.below {w wx wy:World} {u v:Value} (h:Boxes w wx u v) (b:Below wx.heap.size wx wy):Boxes w wy u v:=
 ⟨h.1.below b,h.2.1.below b,h.2.2.1.trans (b.mono h.2.2.1.size),Nat.le_trans h.2.2.2 b.size⟩
theorem Boxes.drew {w wx:World} {u v:Value} (h:Boxes w wx u v):Boxes w wx.drew u v:=⟨h.1,h.2.1,below_drewN h.2.2.1 1,h.2.2.2⟩
theorem Boxes.done {w wx wy:World} {u v a b:Value} {xs ys:List Int} {base base':Nat} (h:Boxes w wx u v) (g:wx.grownBy wy (some (w.heap.size+1))) (oa:Own wx base a xs) (ob:Own wx base' b ys) (hb:w.heap.size+2≤base) (hb':w.heap.size+2≤base') (hap:apart a b):
  OwnD wy w.heap.size a b xs ys∧Below w.heap.size w wy:=
 ⟨⟨(oa.keptLt g (by omega)).mono (by omega),(ob.keptLt g (by omega)).mono (by omega),hap⟩,h.2.2.1.grown g h.2.2.1.size (fun k e=>by cases e;omega)⟩
theorem apart.symm {u v:Value} (h:apart u v):apart v u:=⟨h.2,h.1⟩
theorem beq_cast (n m:Nat):((n:Int)==(m:Int))=decide (n=m):=by
 by_cases h:n=m
 ·subst h;simp
 ·have:(n:Int)≠m:=by omega
  simp[h,this]
theorem sdiskOk_any (u v:Value) (xs ys:List Int) (w:World) (h:Reads w u xs) (h':Reads w v ys) (gx:xs.length≤1099511627776) (gy:ys.length≤1099511627776):
  Calls Tryz.prog 43 #[.agg #[u,v]] w fun e w'=>e=.returned (.bool (bothOk xs ys))∧Below w.heap.size w w':=by
 have b1:=belowAlloc w (.cells #[u,v] 46)
 have c1:=sok_any u xs _ (h.below b1 (Nat.le_refl _)) gx
 have c2:=sok_any v ys _ (h'.below b1 (Nat.le_refl _)) gy
 obtain⟨ao,ca,rfl⟩:=h.form
 obtain⟨bo,cb,rfl⟩:=h'.form
 have HB:Hid (Below w.heap.size w (w.alloc (.cells #[.slice ao xs.length ca,.slice bo ys.length cb] 46))):=b1
 clear h h' b1
 by_cases h1:blocksOk xs=true
 ·rw[h1]at c1
  by_cases h2:blocksOk ys=true
  ·rw[h2]at c2
   have HD:Hid (bothOk xs ys=decide (xs.length=ys.length)):=by simp[Hid,bothOk,h1,h2]
   obtain⟨n,hn⟩:∃n,n=xs.length:=⟨_,rfl⟩
   obtain⟨m,hm⟩:∃m,m=ys.length:=⟨_,rfl⟩
   rw[←hn]at c1 c2 HB HD⊢
   rw[←hm]at c1 c2 HB HD⊢
   clear h1 h2 gx gy hn hm
   go_enter Tryz.func43,Tryz.ntmps43
   go_wp2_with fail
   refine c1.mono ?_
   rintro e w' ⟨rfl,hw⟩;subst w'
   go_wp2_with fail
   refine c2.mono ?_
   rintro e w' ⟨rfl,hw⟩;subst w'
   go_wp2_with fail
   go_ret
   refine⟨ret_bool ?_,HB.out⟩
   rw[HD.out]
   exact beq_cast n m
  ·have h2':blocksOk ys=false:=by simpa using h2
   rw[h2']at c2
   have HD:Hid (bothOk xs ys=false):=by simp[Hid,bothOk,h2']
   obtain⟨n,hn⟩:∃n,n=xs.length:=⟨_,rfl⟩
   obtain⟨m,hm⟩:∃m,m=ys.length:=⟨_,rfl⟩
   rw[←hn]at c1 c2 HB⊢
   rw[←hm]at c1 c2 HB⊢
   clear h1 h2 h2' gx gy hn hm
   go_enter Tryz.func43,Tryz.ntmps43
   go_wp2_with fail
   refine c1.mono ?_
   rintro e w' ⟨rfl,hw⟩;subst w'
   go_wp2_with fail
   refine c2.mono ?_
   rintro e w' ⟨rfl,hw⟩;subst w'
   go_wp2_with fail
   go_ret
   exact⟨ret_bool HD.out.symm,HB.out⟩
 ·have h1':blocksOk xs=false:=by simpa using h1
  rw[h1']at c1
  have HD:Hid (bothOk xs ys=false):=by simp[Hid,bothOk,h1']
  obtain⟨n,hn⟩:∃n,n=xs.length:=⟨_,rfl⟩
  obtain⟨m,hm⟩:∃m,m=ys.length:=⟨_,rfl⟩
  rw[←hn]at c1 HB⊢
  rw[←hm]at c1 HB⊢
  clear h1 h1' gx gy hn hm c2
  go_enter Tryz.func43,Tryz.ntmps43
  go_wp2_with fail
  refine c1.mono ?_
  rintro e w' ⟨rfl,hw⟩;subst w'
  go_wp2_with fail
  go_ret
  exact⟨ret_bool HD.out.symm,HB.out⟩
end Go.Proofs.YtflbcjgkdokhiaaGreatDoor
namespace Go.Proofs.YtflbcjgkdokhiaaGreatDoor
open Go.ChangeShapes Go.WideShapes Go.ChangeAt Go.RowKit
def StB (w:World) (g:Nat) (t:TypeId) (cs:Array Value):Prop:=w.heap[g]?=some (.cells cs t (0,0))
theorem StB.lt {w:World} {g:Nat} {t:TypeId} {cs:Array Value} (h:StB w g t cs):g<w.heap.size:=by
 rcases Nat.lt_or_ge g w.heap.size with hlt|hge
 ·exact hlt
 ·rw[StB,Array.getElem?_eq_none hge]at h;cases h
theorem StB.new (w:World) (t:TypeId) (cs:Array Value):StB (w.alloc (.cells cs t)) w.heap.size t cs:=heap_alloc_new w _
theorem StB.below {w w':World} {g:Nat} {t:TypeId} {cs:Array Value} (h:StB w g t cs) (hb:Below w.heap.size w w'):StB w' g t cs:=(hb.block g h.lt).trans h
theorem StB.kept {w w':World} {g:Nat} {t:TypeId} {cs:Array Value} {row:Option Nat} (h:StB w g t cs) (hg:w.grownBy w' row) (hne:some g≠row):StB w' g t cs:=(hg.block g h.lt hne).trans h
theorem StB.alloc {w:World} {g:Nat} {t:TypeId} {cs:Array Value} (h:StB w g t cs) (o:Obj):StB (w.alloc o) g t cs:=(Below.heap_alloc w o g h.lt).trans h
theorem StB.cell {w:World} {g:Nat} {t:TypeId} {cs:Array Value} (h:StB w g t cs) (j:Nat) {x:Value} (e:cs[j]?=some x):w.cell? ⟨g,j,none⟩=some x:=by rw[cell_of_row w g j _ _ _ h,e]
theorem StB.frozen {w:World} {g:Nat} {t:TypeId} {cs:Array Value} (h:StB w g t cs) (j:Nat):w.frozen? ⟨g,j,none⟩=false:=frozen_of_row w g j _ _ h
theorem StB.put {w:World} {g:Nat} {t:TypeId} {cs ds:Array Value} (h:StB w g t cs) (j:Nat) (x:Value) (e:cs.setIfInBounds j x=ds):StB (w.setCell ⟨g,j,none⟩ x) g t ds:=by
 have:=heap_setCell_same w g j _ _ x h
 rw[e]at this
 exact this
theorem StB.other {w:World} {g:Nat} {t:TypeId} {cs:Array Value} (h:StB w g t cs) (a:Addr) (x:Value) (hne:g≠a.block):StB (w.setCell a x) g t cs:=(heap_setCell_other w a g x hne).trans h
theorem grownRowS (w:World) (g:Nat) (cs:Array Value):w.grownBy (w.setRow g cs) (some g):=
 ⟨rfl,rfl,rfl,by simp,fun k _ hne=>_root_.Go.setRow_other w g k cs (fun e=>hne (by rw[e]))⟩
def IsS (t:TypeId) (n:Nat):Prop:=(∃fs,Tryz.prog.underlying t=some (.struct fs))∧(Tryz.prog.info? t).map (·.size)=some n
theorem wpList_getS {t:TypeId} {n:Nat} (hS:IsS t n) {ops:Array Oper} {rest:List Oper} {o:Oper} {a:Act} {w:World} {Q:Exit→Act→World→Prop} (hgd:o.guard=none) (x:Operand) (ho:o.op=.load t x)
  (g:Nat) (hx:a.eval x=.pointer (some ⟨g,0,none⟩)) (cs:Array Value) (hn:cs.size=n) (hr:StB w g t cs)
  (h:wpList Tryz.prog ops Q rest (a.put o.dst (.agg cs)) w):wpList Tryz.prog ops Q (o::rest) a w:=by
 obtain⟨⟨fs,hu⟩,hi⟩:=hS
 exact wpList_load_row hgd _ x ho g hx _ _ _ _ hr hu rfl (by rw[hi,hn]) h
theorem wpList_putS {t:TypeId} {n:Nat} (hS:IsS t n) {ops:Array Oper} {rest:List Oper} {o:Oper} {a:Act} {w:World} {Q:Exit→Act→World→Prop} (hgd:o.guard=none) (x y:Operand) (ho:o.op=.store t x y)
  (g:Nat) (cs ds:Array Value) (hx:a.eval x=.pointer (some ⟨g,0,none⟩)) (hy:a.eval y=.agg cs) (hn:cs.size=n) (hd:ds.size=n) (h1:cs.all (·.oneCell')=true) (hr:StB w g t ds)
  (h:∀w',StB w' g t cs→w.grownBy w' (some g)→wpList Tryz.prog ops Q rest (a.put o.dst undef) w'):wpList Tryz.prog ops Q (o::rest) a w:=
 wpList_store_row hgd _ x y ho g cs hx hy _ _ hr (by rw[hS.2,hn]) (by rw[hd,hn]) h1 (h _ (setRow_heap w g _ _ _ _ hr) (grownRowS w g _))
theorem load_S {t:TypeId} {n:Nat} (hS:IsS t n) (w:World) (g:Nat) (cs:Array Value) (hn:cs.size=n) (hr:StB w g t cs):(loadVar t ⟨g,0,none⟩).run Tryz.prog w=.ok (.agg cs) w:=by
 obtain⟨⟨fs,hu⟩,hi⟩:=hS
 exact run_loadVar_row w g _ _ _ _ _ hr hu rfl (by rw[hi,hn])
theorem results_S {t:TypeId} {n:Nat} (hS:IsS t n) {fn:Func} {p:Tmp} (h:fn.results=#[.cell p t]) (tmps:Array Value) (w:World) (g:Nat) (cs:Array Value) (hn:cs.size=n)
  (hp:tmps.getD p undef=.pointer (some ⟨g,0,none⟩)) (hr:StB w g t cs):(results fn tmps).run Tryz.prog w=.ok (.agg cs) w:=by
 obtain⟨⟨fs,hu⟩,hi⟩:=hS
 exact results_cell_row h tmps w g _ _ _ _ hp hr hu rfl (by rw[hi,hn])
theorem results_S2 {t:TypeId} {n:Nat} (hS:IsS t n) {fn:Func} {p q:Tmp} (h:fn.results=#[.cell p t,.tmp q]) (tmps:Array Value) (w:World) (g:Nat) (cs:Array Value) (x:Value) (hn:cs.size=n)
  (hp:tmps.getD p undef=.pointer (some ⟨g,0,none⟩)) (hx:tmps.getD q undef=x) (hr:StB w g t cs):(results fn tmps).run Tryz.prog w=.ok (.tuple #[.agg cs,x]) w:=by
 rw[results_cell_tmp h,hp,hx]
 simp only[asAddr,Sem.run_pure,Result.andThen_ok]
 rw[load_S hS w g cs hn hr]
 rfl
theorem reads_cells {w:World} {ao:Option Addr} {n cap:Nat} {xs:List Int} (h:Reads w (.slice ao n cap) xs):n=xs.length∧n≤cap∧cap≤maxLen∧∀j,j<n→∃b off,ao=some ⟨b,off,none⟩∧w.cell? ⟨b,off+j,none⟩=some (.int .i64 (xs.getD j 0)):=by
 obtain⟨ao',cap',e,hl,⟨hm, -⟩,hc⟩:=h
 simp only[Value.slice.injEq]at e
 obtain⟨rfl,rfl,rfl⟩:=e
 refine⟨rfl,hl,hm,fun j hj=>?_⟩
 rcases hc with rfl|⟨b,off,rfl,h4⟩
 ·simp at hj
 ·exact⟨b,off,rfl,h4 j hj⟩
theorem reads_form {w:World} {v:Value} {xs:List Int} (h:Reads w v xs):∃ao cap,v=.slice ao xs.length cap:=by
 obtain⟨ao,cap,e,_⟩:=h
 exact⟨ao,cap,e⟩
theorem reads_one {w:World} {v:Value} {xs:List Int} (h:Reads w v xs):v.oneCell'=true:=by
 obtain⟨ao,cap,rfl,_⟩:=h;rfl
end Go.Proofs.YtflbcjgkdokhiaaGreatDoor
set_option maxRecDepth 20000
set_option maxHeartbeats 400000
namespace Go.Proofs.YtflbcjgkdokhiaaGreatDoor
open Go.ChangeShapes Go.WideShapes Go.ChangeAt Go.RowKit
theorem sin6_any (x lo hi:Int) (w:World):
  Calls Tryz.prog 42 #[.int .i64 x,.int .i64 lo,.int .i64 hi] w fun e w'=>e=.returned (.bool (inI x lo hi))∧w'=w:=by
 by_cases h0:lo≤x
 ·by_cases h1:x≤hi
  ·have he:inI x lo hi=true:=by simp[inI,h0,h1]
   rw[he]
   clear he
   go_enter Tryz.func42,Tryz.ntmps42
   go_wp2
   go_ret
   exact⟨ret_bool (by simp),rfl⟩
  ·have he:inI x lo hi=false:=by simp[inI,h1]
   rw[he]
   clear he
   go_enter Tryz.func42,Tryz.ntmps42
   go_wp2
   go_ret
   exact⟨ret_bool (by simp),rfl⟩
 ·have he:inI x lo hi=false:=by simp[inI,h0]
  rw[he]
  clear he
  go_enter Tryz.func42,Tryz.ntmps42
  go_wp2
  go_ret
  exact⟨ret_bool (by simp),rfl⟩
theorem s6key_any (x:Int) (w:World):
  Calls Tryz.prog 70 #[.int .i64 x] w fun e w'=>e=.returned (.bool (inI x 0 9999))∧w'=w:=by
 have c1:=sin6_any x 0 9999 w
 go_enter Tryz.func70,Tryz.ntmps70
 go_wp2_with fail
 refine c1.mono ?_
 rintro e w' ⟨rfl,hw⟩;subst w'
 clear c1
 go_wp2_with fail
 go_ret
 exact⟨rfl,rfl⟩
end Go.Proofs.YtflbcjgkdokhiaaGreatDoor
set_option maxRecDepth 20000
set_option maxHeartbeats 400000
namespace Go.Proofs.YtflbcjgkdokhiaaGreatDoor
open Go.ChangeShapes Go.WideShapes Go.ChangeAt Go.RowKit
theorem skind_any (k:Int) (w:World):
  Calls Tryz.prog 73 #[.int .i64 k] w fun e w'=>e=.returned (.bool (kiI k))∧w'=w:=by
 have c1:=sin6_any k 1 6 w
 unfold kiI
 go_enter Tryz.func73,Tryz.ntmps73
 go_wp2_with fail
 refine c1.mono ?_
 rintro e w' ⟨rfl,hw⟩;subst w'
 clear c1
 go_wp2_with fail
 go_ret
 exact⟨rfl,rfl⟩
theorem sall_any (k:Int) (w:World):
  Calls Tryz.prog 71 #[.int .i64 k] w fun e w'=>e=.returned (.bool (allI k))∧w'=w:=by
 by_cases h5:k=5
 ·subst h5
  go_enter Tryz.func71,Tryz.ntmps71
  go_wp2
  go_ret
  exact⟨rfl,rfl⟩
 ·by_cases h6:k=6
  ·subst h6
   go_enter Tryz.func71,Tryz.ntmps71
   go_wp2
   go_ret
   exact⟨rfl,rfl⟩
  ·have he:allI k=false:=by simp[allI,h5,h6]
   rw[he]
   clear he
   go_enter Tryz.func71,Tryz.ntmps71
   go_wp2
   go_ret
   exact⟨ret_bool (by simp[h5,h6]),rfl⟩
end Go.Proofs.YtflbcjgkdokhiaaGreatDoor
set_option maxRecDepth 20000
set_option maxHeartbeats 2000000
namespace Go.Proofs.YtflbcjgkdokhiaaGreatDoor
open Go.ChangeShapes Go.WideShapes Go.ChangeAt Go.RowKit
def hdA (v:Value) (h:Hd):Array Value:=#[v,.int .i64 h.kd,.int .i64 h.ho,.int .i64 h.tu]
def HV (v:Value) (h:Hd):Value:=.agg (hdA v h)
theorem Tryz.isH:IsS 48 4:=⟨⟨_,Tryz.underlying48⟩,by kernel_rfl⟩
def HdB (w:World) (g:Nat) (t:TypeId) (v:Value) (h:Hd):Prop:=StB w g t (hdA v h)∧Reads w v h.ks
theorem HdB.new {w:World} {v:Value} {h:Hd} (t:TypeId) (hr:Reads w v h.ks):HdB (w.alloc (.cells (hdA v h) t)) w.heap.size t v h:=
 ⟨StB.new w t _,hr.below ((Below.refl _ _).alloc (Nat.le_refl _) _) (Nat.le_refl _)⟩
theorem HdB.below {w w':World} {g:Nat} {t:TypeId} {v:Value} {h:Hd} (k:HdB w g t v h) (hb:Below w.heap.size w w'):HdB w' g t v h:=⟨k.1.below hb,k.2.below hb (Nat.le_refl _)⟩
theorem HdB.alloc {w:World} {g:Nat} {t:TypeId} {v:Value} {h:Hd} (k:HdB w g t v h) (o:Obj):HdB (w.alloc o) g t v h:=k.below ((Below.refl _ _).alloc (Nat.le_refl _) _)
theorem swho_any (k:Int) (w:World):
  Calls Tryz.prog 50 #[.int .i64 k] w fun e w'=>e=.returned (.bool (inI k 0 3))∧w'=w:=by
 have c1:=sin6_any k 0 3 w
 go_enter Tryz.func50,Tryz.ntmps50
 go_wp2_with fail
 refine c1.mono ?_
 rintro e w' ⟨rfl,hw⟩;subst w'
 clear c1
 go_wp2_with fail
 go_ret
 exact⟨rfl,rfl⟩
theorem s8any_any (v:Value) (h:Hd) (w:World) (hr:Reads w v h.ks) (hl:h.ks.length≤1099511627776):
  Calls Tryz.prog 72 #[HV v h] w fun e w'=>e=.returned (.bool (anyI h.ks))∧Below w.heap.size w w':=by
 obtain⟨ao,cap,rfl⟩:=reads_form hr
 obtain⟨w1,hw1⟩:∃w1,w1=w.alloc (.cells (hdA (.slice ao h.ks.length cap) h) 48):=⟨_,rfl⟩
 have H1:HdB w1 w.heap.size 48 (.slice ao h.ks.length cap) h:=by rw[hw1];exact HdB.new _ hr
 have HB:Hid (Below w.heap.size w w1):=by rw[hw1];exact(Below.refl _ _).alloc (Nat.le_refl _) _
 have HW:Hid (w1=w.alloc (.cells #[.slice ao h.ks.length cap,.int .i64 h.kd,.int .i64 h.ho,.int .i64 h.tu] 48)):=hw1
 have k0:w1.cell? ⟨w.heap.size,0,none⟩=some (.slice ao h.ks.length cap):=H1.1.cell 0 rfl
 obtain⟨-,hc1,hc2,hcell⟩:=reads_cells H1.2
 obtain⟨n,hn⟩:∃n,n=h.ks.length:=⟨_,rfl⟩
 rw[←hn]at hl k0 hc1 hcell HW
 unfold HV hdA
 rw[←hn]
 have HN:Hid (n=h.ks.length):=hn
 unfold maxLen at hc2
 clear hw1 H1 hr hn
 go_enter Tryz.func72,Tryz.ntmps72
 go_wp2
 rw[←HW.out]
 go_loop [3] (fun i=>∃j:Nat,j≤n∧i=.int .i64 j∧Hid (anyI (h.ks.take j)=false)) (fun i=>n-(intOf i).toNat)
 case atStart=>exact⟨0,Nat.zero_le _,rfl,by simp[Hid,anyI]⟩
 case round=>
  obtain⟨j,hj,rfl,HT⟩:=hrel
  by_cases hlt:(j:Int)<(n:Int)
  ·obtain⟨b,off,rfl,hcj⟩:=hcell j (by omega)
   clear hcell
   have hjl:j<h.ks.length:=by have:=HN.out;omega
   have HA:Hid (h.ks.getD j 0≠0→anyI h.ks=true):=any_at h.ks j hjl
   have HZ:Hid (h.ks.getD j 0=0→anyI (h.ks.take (j+1))=false):=any_take h.ks j hjl HT.out
   obtain⟨x,hx⟩:∃x,x=h.ks.getD j 0:=⟨_,rfl⟩
   rw[←hx]at hcj HA HZ
   clear hx hjl
   by_cases h0:x=0
   ·go_wp2
    go_round
    case rel=>exact⟨j+1,by omega,by go_num,HZ.out h0⟩
    case measure=>simp[intOf];omega
   ·have hne:(x !=0)=true:=by simpa using h0
    go_wp2
    go_ret
    rw[HA.out h0]
    exact⟨rfl,HB.out⟩
  ·have HE:Hid (anyI h.ks=false):=by
    have:=HT.out
    rwa[List.take_of_length_le (by have:=HN.out;omega)]at this
   go_wp2
   go_ret
   rw[HE.out]
   exact⟨rfl,HB.out⟩
theorem sholdok_any (v:Value) (h:Hd) (w:World) (hr:Reads w v h.ks) (hl:h.ks.length≤1099511627776):
  Calls Tryz.prog 44 #[HV v h] w fun e w'=>e=.returned (.bool h.ok)∧Below w.heap.size w w':=by
 have HE:Hid (h.ok=(decide (h.ks.length=4)&&inI h.tu 0 1000000000&&keysI h.ks&&h.mid)):=rfl
 have HM:Hid (h.mid=if h.kd=0 then decide (h.ho= -1)else if allI h.kd then decide (h.ho= -1)&&anyI h.ks else kiI h.kd&&inI h.ho 0 3&&regI h.ks h.ho):=rfl
 obtain⟨ao,cap,rfl⟩:=reads_form hr
 obtain⟨w1,hw1⟩:∃w1,w1=w.alloc (.cells (hdA (.slice ao h.ks.length cap) h) 48):=⟨_,rfl⟩
 have H1:HdB w1 w.heap.size 48 (.slice ao h.ks.length cap) h:=by rw[hw1];exact HdB.new _ hr
 have HB:Hid (Below w.heap.size w w1):=by rw[hw1];exact(Below.refl _ _).alloc (Nat.le_refl _) _
 have HW:Hid (w1=w.alloc (.cells #[.slice ao h.ks.length cap,.int .i64 h.kd,.int .i64 h.ho,.int .i64 h.tu] 48)):=hw1
 have k0:w1.cell? ⟨w.heap.size,0,none⟩=some (.slice ao h.ks.length cap):=H1.1.cell 0 rfl
 have k1:w1.cell? ⟨w.heap.size,1,none⟩=some (.int .i64 h.kd):=H1.1.cell 1 rfl
 have k2:w1.cell? ⟨w.heap.size,2,none⟩=some (.int .i64 h.ho):=H1.1.cell 2 rfl
 have k3:w1.cell? ⟨w.heap.size,3,none⟩=some (.int .i64 h.tu):=H1.1.cell 3 rfl
 obtain⟨-,hc1,hc2,hcell⟩:=reads_cells H1.2
 have ct:=fun wx=>sin6_any h.tu 0 1000000000 wx
 have ck:=fun x wx=>s6key_any x wx
 have cf:=fun wx=>sall_any h.kd wx
 have ca:=fun wx=>s8any_any (.slice ao h.ks.length cap) h wx
 have ci:=fun wx=>skind_any h.kd wx
 have cw:=fun wx=>swho_any h.ho wx
 have HR:Hid (Reads w1 (.slice ao h.ks.length cap) h.ks):=H1.2
 have HREG:Hid (regI h.ks h.ho=decide (h.ks.getD h.ho.toNat 0≠0)):=rfl
 obtain⟨bt,hbt⟩:∃bt,bt=inI h.tu 0 1000000000:=⟨_,rfl⟩
 obtain⟨bf,hbf⟩:∃bf,bf=allI h.kd:=⟨_,rfl⟩
 obtain⟨bi,hbi⟩:∃bi,bi=kiI h.kd:=⟨_,rfl⟩
 obtain⟨bw,hbw⟩:∃bw,bw=inI h.ho 0 3:=⟨_,rfl⟩
 have HWR:Hid (bw=true→0≤h.ho∧h.ho≤3):=fun e=>(inI_iff _ _ _).1 (by rw[←hbw,e])
 rw[←hbt]at HE
 rw[←hbf,←hbi,←hbw]at HM
 simp only[←hbt]at ct
 simp only[←hbf]at cf
 simp only[←hbi]at ci
 simp only[←hbw]at cw
 obtain⟨x,hx⟩:∃x,x=h.ok:=⟨_,rfl⟩
 rw[←hx]at HE⊢
 obtain⟨n,hn⟩:∃n,n=h.ks.length:=⟨_,rfl⟩
 rw[←hn]at hl k0 hc1 hcell HW HE HR
 simp only[←hn]at ca
 unfold HV hdA at ca
 unfold HV hdA
 rw[←hn]
 have Hca:Hid _:=ca
 have HN:Hid (n=h.ks.length):=hn
 unfold maxLen at hc2
 clear hw1 H1 hr hn hx hbt hbf hbi hbw ca
 by_cases hn4:(n:Int)=4
 case neg=>
  have HX:Hid (x=false):=by rw[Hid,HE.out,show decide (n=4)=false by simp;omega];rfl
  have hne:((n:Int) !=4)=true:=by simpa using hn4
  clear hcell
  go_enter Tryz.func44,Tryz.ntmps44
  go_wp2
  rw[←HW.out]
  go_ret
  rw[HX.out]
  exact⟨rfl,HB.out⟩
 obtain rfl:n=4:=by omega
 cases bt with
 |false=>
  have HX:Hid (x=false):=by rw[Hid,HE.out];rfl
  clear hcell
  go_enter Tryz.func44,Tryz.ntmps44
  go_wp2_with fail
  rw[←HW.out]
  refine(ct _).mono ?_
  rintro e w' ⟨rfl,hw⟩;subst w'
  go_wp2
  go_ret
  rw[HX.out]
  exact⟨rfl,HB.out⟩
 |true=>
  have HY:Hid (x=(keysI h.ks&&h.mid)):=by rw[Hid,HE.out];simp
  clear HE
  go_enter Tryz.func44,Tryz.ntmps44
  go_wp2_with fail
  rw[←HW.out]
  refine(ct _).mono ?_
  rintro e w' ⟨rfl,hw⟩;subst w'
  clear ct HW
  go_wp2
  go_loop [3] (fun i=>∃j:Nat,(j:Int)≤4∧i=.int .i64 j∧Hid (keysI (h.ks.take j)=true)) (fun i=>4-(intOf i).toNat)
  case atStart=>exact⟨0,by omega,rfl,by simp[Hid,keysI]⟩
  case round=>
   obtain⟨j,hj,rfl,HT⟩:=hrel
   by_cases hlt:(j:Int)<4
   ·obtain⟨b,off,rfl,hcj⟩:=hcell j (by omega)
    clear hcell
    have hjl:j<h.ks.length:=by have:=HN.out;omega
    have HA:Hid (inI (h.ks.getD j 0) 0 9999=false→keysI h.ks=false):=keys_not h.ks j hjl
    have HZ:Hid (inI (h.ks.getD j 0) 0 9999=true→keysI (h.ks.take (j+1))=true):=keys_take h.ks j hjl HT.out
    have ckj:=fun wx=>ck (h.ks.getD j 0) wx
    obtain⟨y,hy⟩:∃y,y=h.ks.getD j 0:=⟨_,rfl⟩
    rw[←hy]at hcj HA HZ
    simp only[←hy]at ckj
    obtain⟨by1,hby⟩:∃by1,by1=inI y 0 9999:=⟨_,rfl⟩
    rw[←hby]at HA HZ
    simp only[←hby]at ckj
    clear hy hjl hby ck
    go_wp2_with fail
    refine(ckj _).mono ?_
    rintro e w' ⟨rfl,hw⟩;subst w'
    cases by1 with
    |true=>
     have HZ2:Hid (keysI (h.ks.take (j+1))=true):=HZ.out rfl
     clear HZ HA
     go_wp2
     go_round
     case rel=>exact⟨j+1,by omega,by go_num,HZ2.out⟩
     case measure=>simp[intOf];omega
    |false=>
     have HX:Hid (x=false):=by rw[Hid,HY.out,HA.out rfl];rfl
     clear HZ HA
     go_wp2
     go_ret
     rw[HX.out]
     exact⟨rfl,HB.out⟩
   ·have HK:Hid (x=h.mid):=by
     have:=HT.out
     rw[List.take_of_length_le (by have:=HN.out;omega)]at this
     rw[Hid,HY.out,this];rfl
    clear HY HT ck
    by_cases hk0:h.kd=0
    ·have HX:Hid (x=decide (h.ho= -1)):=by rw[Hid,HK.out,HM.out,if_pos hk0]
     clear HK HM Hca cf ci cw hcell
     by_cases hm1:h.ho= -1
     ·go_wp2
      go_ret
      exact⟨ret_bool (by rw[HX.out];simp[hm1]),HB.out⟩
     ·go_wp2
      go_ret
      exact⟨ret_bool (by rw[HX.out];simp[hm1]),HB.out⟩
    ·cases bf with
     |true=>
      have HX:Hid (x=(decide (h.ho= -1)&&anyI h.ks)):=by rw[Hid,HK.out,HM.out,if_neg hk0,if_pos rfl]
      clear HK HM ci cw hcell
      go_wp2_with fail
      refine(cf _).mono ?_
      rintro e w' ⟨rfl,hw⟩;subst w'
      clear cf
      by_cases hm1:h.ho= -1
      ·have HX2:Hid (x=anyI h.ks):=by rw[Hid,HX.out];simp[hm1]
       have ca:=Hca.out w1 HR.out (by have:=HN.out;omega)
       rw[hm1]at ca
       clear HX Hca
       go_wp2_with fail
       refine ca.mono ?_
       rintro e w2 ⟨rfl,b2⟩
       go_wp2
       go_ret
       rw[HX2.out]
       exact⟨rfl,HB.out.trans (b2.mono HB.out.size)⟩
      ·have HX2:Hid (x=false):=by rw[Hid,HX.out];simp[hm1]
       clear HX Hca
       go_wp2
       go_ret
       exact⟨ret_bool (by rw[HX2.out]),HB.out⟩
     |false=>
      have HX:Hid (x=(bi&&bw&&regI h.ks h.ho)):=by rw[Hid,HK.out,HM.out,if_neg hk0,if_neg (by decide)]
      clear HK HM Hca
      go_wp2_with fail
      refine(cf _).mono ?_
      rintro e w' ⟨rfl,hw⟩;subst w'
      clear cf
      go_wp2_with fail
      refine(ci _).mono ?_
      rintro e w' ⟨rfl,hw⟩;subst w'
      clear ci
      cases bi with
      |false=>
       go_wp2
       go_ret
       exact⟨ret_bool (by rw[HX.out];rfl),HB.out⟩
      |true=>
       go_wp2_with fail
       refine(cw _).mono ?_
       rintro e w' ⟨rfl,hw⟩;subst w'
       clear cw
       cases bw with
       |false=>
        go_wp2
        go_ret
        exact⟨ret_bool (by rw[HX.out];rfl),HB.out⟩
       |true=>
        obtain⟨hw0,hw3⟩:=HWR.out rfl
        obtain⟨b,off,rfl,hcj⟩:=hcell h.ho.toNat (by omega)
        have HX2:Hid (x=decide (h.ks.getD h.ho.toNat 0≠0)):=by rw[Hid,HX.out,HREG.out];rfl
        obtain⟨y,hy⟩:∃y,y=h.ks.getD h.ho.toNat 0:=⟨_,rfl⟩
        rw[←hy]at hcj HX2
        clear hcell hy HX HREG
        have hoc:((h.ho.toNat:Nat):Int)=h.ho:=by omega
        by_cases hy0:y=0
        ·go_wp2
         go_ret
         exact⟨ret_bool (by rw[HX2.out];simp[hy0]),HB.out⟩
        ·have hyn:(y !=0)=true:=by simpa using hy0
         go_wp2
         go_ret
         exact⟨ret_bool (by rw[HX2.out];simp[hy0]),HB.out⟩
end Go.Proofs.YtflbcjgkdokhiaaGreatDoor
