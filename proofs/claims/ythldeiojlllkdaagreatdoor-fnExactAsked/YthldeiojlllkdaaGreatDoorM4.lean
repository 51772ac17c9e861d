/- Disks: the model's DiskOk, NewDisk, Written, Flushed, Loose and Lost answer what plain lists say, in new memory. -/
import Derived.Test.YthldeiojlllkdaaGreatDoorM1
import Derived.Test.YthldeiojlllkdaaGreatDoorM3
import Derived.Deep.RegionHeld3
import Derived.Deep.RegionWith
import Derived.WalkSpells
import Derived.Below
import Derived.Laws.Tables
import Derived.Laws.ResultCell
set_option maxRecDepth 20000
set_option maxHeartbeats 1000000
namespace Go.Proofs.YthldeiojlllkdaaGreatDoor
open Go.ChangeShapes Go.WideShapes Go.ChangeAt Go.RowKit
def cM (w wx:World) (u v:Value):Prop:=
 cK wx w.heap.size 36 u v/\cK wx (w.heap.size+1) 36 (.slice none 0 0) (.slice none 0 0)/\bB w wx/\w.heap.size+2<=wx.heap.size
theorem cM.start (w:World) (u v:Value):cM w ((w.alloc (.cells #[u,v] 36)).alloc (.cells #[.slice none 0 0,.slice none 0 0] 36)) u v:=by
 refine⟨(cK.new w _ u v).alloc _,?_,bA.alloc (by simp) _,by simp⟩;have:=cK.new (w.alloc (.cells #[u,v] 36)) 36 (.slice none 0 0) (.slice none 0 0);simpa using this
theorem cM.below {w wx wy:World} {u v:Value} (h:cM w wx u v) (b:bB wx wy):cM w wy u v:=
 ⟨h.1.below b,h.2.1.below b,h.2.2.1.trans (b.mono h.2.2.1.size),Nat.le_trans h.2.2.2 b.size⟩
theorem cM.drew {w wx:World} {u v:Value} (h:cM w wx u v):cM w wx.drew u v:=⟨h.1,h.2.1,below_drewN h.2.2.1 1,h.2.2.2⟩
theorem cM.done {w wx wy:World} {u v a b:Value} {xs ys:List Int} {base base':Nat} (h:cM w wx u v) (g:wx.grownBy wy (some (w.heap.size+1))) (oa:Own wx base a xs) (ob:Own wx base' b ys) (hb:w.heap.size+2<=base) (hb':w.heap.size+2<=base') (hap:apart a b):
  aS wy w.heap.size a b xs ys/\bB w wy:=
 ⟨⟨(oa.keptLt g (by omega)).mono (by omega),(ob.keptLt g (by omega)).mono (by omega),hap⟩,h.2.2.1.grown g h.2.2.1.size (fun k e=>by cases e;omega)⟩
theorem gq {w:World} {g j k:Nat} {x y:Value} (h:w.cell? ⟨g,j,none⟩=some x):(w.setCell ⟨g+1,k,none⟩ y).cell? ⟨g,j,none⟩=some x:=by
 rw[World.cell?_of_block (w:=w) (heap_setCell_other w ⟨g+1,k,none⟩ g y (by simp)),h]
theorem mm (w:World) (g:Nat) (x y:Value):w.grownBy ((w.setCell ⟨g,0,none⟩ x).setCell ⟨g,1,none⟩ y) (some g):=(ai w g 0 x).trans (ai _ g 1 y)
theorem apart.symm {u v:Value} (h:apart u v):apart v u:=⟨h.2,h.1⟩
theorem BD (n m:Nat):((n:Int)==(m:Int))=decide (n=m):=by
 by_cases h:n=m
 ·subst h;simp
 ·have:(n:Int)≠m:=by omega
  simp[h,this]
theorem dA (u v:Value) (xs ys:List Int) (w:World) (h:ag w u xs) (h':ag w v ys) (gx:xs.length<=1099511627776) (gy:ys.length<=1099511627776):
  Calls Tryz.prog 51 #[.agg #[u,v]] w fun e w'=>∃a b,e=.returned (.agg #[a,b])/\aS w' w.heap.size a b xs ys/\bB w w':=by
 have HR:Hid (ag w u xs/\ag w v ys):=⟨h,h'⟩
 clear h h';obtain⟨w2,hw2⟩:=eX ((w.alloc (.cells #[u,v] 36)).alloc (.cells #[.slice none 0 0,.slice none 0 0] 36))
 have HB:Hid (cM w w2 u v):=by rw[hw2];exact cM.start w u v
 have c0:=HB.out.1.cell0;have c1:=HB.out.1.cell1;go_enter Tryz.func51,Tryz.ntmps51;go_wp2_with fail
 rw[<-hw2];clear hw2;have HB2:=HB.out.drew
 go_region_held3 (fun w'=>w'.cell? ⟨w.heap.size,0,none⟩=some u/\w'.cell? ⟨w.heap.size,1,none⟩=some v) (constructor<;>first|assumption|exact gq (gq (by assumption)))
  (first
   |(go_at_call_of 94 u;refine(gL u xs w2.drew (HR.out.1.below HB2.2.2.1 (Nat.le_refl _)) gx).mono ?_;rintro e w4 ⟨a,rfl,oa,ba⟩;have HB4:=HB2.below ba;have d0:=HB4.1.cell0;have d1:=HB4.1.cell1;obtain⟨ao,ca,hea⟩:=oa.reads.form;subst hea)
   |(go_at_call_of 94 v;refine(gL v ys w4 (HR.out.2.below HB4.2.2.1 (Nat.le_refl _)) gy).mono ?_;rintro e w5 ⟨b,rfl,ob,bb⟩;have hap:=dt oa ob (Nat.le_refl _);replace oa:=oa.below bb;have hs5:=ba.size;have HB5:=HB4.below bb;have e0:=HB5.1.cell0;have e1:=HB5.1.cell1;have e2:=HB5.2.1.cell0;have e3:=HB5.2.1.cell1;have f2:=HB5.2.1.frozen 0;have f3:=HB5.2.1.frozen 1;obtain⟨bo,cb,heb⟩:=ob.reads.form;subst heb))
 go_wp2_with fail
 refine bodyPost_ret (eJ rfl _ _ (w.heap.size+1) _ _ rfl ((HB5.2.1.set0 _).set1 _)) rfl ?_;exact⟨_,_,rfl,HB5.done (mm _ _ _ _) oa ob (HB2.2.2.2) (Nat.le_trans HB2.2.2.2 hs5) hap⟩
theorem pP (u v:Value) (ys:List Int) (w:World) (h':ag w v ys) (gy:ys.length<=1099511627776):
  Calls Tryz.prog 141 #[.agg #[u,v]] w fun e w'=>∃a b,e=.returned (.agg #[a,b])/\aS w' w.heap.size a b ys ys/\bB w w':=by
 have HR:Hid (ag w v ys):=h';clear h';obtain⟨w2,hw2⟩:=eX ((w.alloc (.cells #[u,v] 36)).alloc (.cells #[.slice none 0 0,.slice none 0 0] 36))
 have HB:Hid (cM w w2 u v):=by rw[hw2];exact cM.start w u v
 have c0:=HB.out.1.cell0;have c1:=HB.out.1.cell1;go_enter Tryz.func141,Tryz.ntmps141;go_wp2_with fail
 rw[<-hw2];clear hw2;have HB2:=HB.out.drew
 go_region_held3 (fun w'=>w'.cell? ⟨w.heap.size,0,none⟩=some u/\w'.cell? ⟨w.heap.size,1,none⟩=some v) (constructor<;>first|assumption|exact gq (gq (by assumption)))
  (first
   |(go_at_call_of 94 v;refine(gL v ys w2.drew (HR.out.below HB2.2.2.1 (Nat.le_refl _)) gy).mono ?_;rintro e w4 ⟨a,rfl,oa,ba⟩;have HB4:=HB2.below ba;have d0:=HB4.1.cell0;have d1:=HB4.1.cell1;obtain⟨ao,ca,hea⟩:=oa.reads.form;subst hea)
   |(go_at_call_of 94 v;refine(gL v ys w4 (HR.out.below HB4.2.2.1 (Nat.le_refl _)) gy).mono ?_;rintro e w5 ⟨b,rfl,ob,bb⟩;have hap:=dt oa ob (Nat.le_refl _);replace oa:=oa.below bb;have hs5:=ba.size;have HB5:=HB4.below bb;have e0:=HB5.1.cell0;have e1:=HB5.1.cell1;have e2:=HB5.2.1.cell0;have e3:=HB5.2.1.cell1;have f2:=HB5.2.1.frozen 0;have f3:=HB5.2.1.frozen 1;obtain⟨bo,cb,heb⟩:=ob.reads.form;subst heb))
 go_wp2_with fail
 refine bodyPost_ret (eJ rfl _ _ (w.heap.size+1) _ _ rfl ((HB5.2.1.set0 _).set1 _)) rfl ?_;exact⟨_,_,rfl,HB5.done (mm _ _ _ _) oa ob (HB2.2.2.2) (Nat.le_trans HB2.2.2.2 hs5) hap⟩
theorem uN (u v:Value) (xs ys:List Int) (w:World) (h:ag w u xs) (h':ag w v ys) (gx:xs.length<=1099511627776) (gy:ys.length<=1099511627776):
  Calls Tryz.prog 45 #[.agg #[u,v]] w fun e w'=>e=.returned (.bool (au xs ys))/\bB w w':=by
 have b1:=aZ w (.cells #[u,v] 36);have c1:=xQ u xs _ (h.below b1 (Nat.le_refl _)) gx;have c2:=xQ v ys _ (h'.below b1 (Nat.le_refl _)) gy;obtain⟨ao,ca,rfl⟩:=h.form;obtain⟨bo,cb,rfl⟩:=h'.form;have HB:Hid (bB w (w.alloc (.cells #[.slice ao xs.length ca,.slice bo ys.length cb] 36))):=b1;clear h h' b1;by_cases h1:aJ xs=true
 ·rw[h1]at c1
  by_cases h2:aJ ys=true
  ·rw[h2]at c2
   have HD:Hid (au xs ys=decide (xs.length=ys.length)):=by simp[Hid,au,h1,h2]
   obtain⟨n,hn⟩:=eX xs.length
   obtain⟨m,hm⟩:=eX ys.length
   rw[<-hn]at c1 c2 HB HD⊢;rw[<-hm]at c1 c2 HB HD⊢;clear h1 h2 gx gy hn hm;go_enter Tryz.func45,Tryz.ntmps45;go_wp2_with fail
   refine mo c1 ?_;go_wp2_with fail
   refine mo c2 ?_;go_wp2_with fail
   go_ret;refine⟨af ?_,HB.out⟩;rw[HD.out];exact BD n m
  ·have h2':aJ ys=false:=by simpa using h2
   rw[h2']at c2;have HD:Hid (au xs ys=false):=by simp[Hid,au,h2']
   obtain⟨n,hn⟩:=eX xs.length
   obtain⟨m,hm⟩:=eX ys.length
   rw[<-hn]at c1 c2 HB⊢;rw[<-hm]at c1 c2 HB⊢;clear h1 h2 h2' gx gy hn hm;go_enter Tryz.func45,Tryz.ntmps45;go_wp2_with fail
   refine mo c1 ?_;go_wp2_with fail
   refine mo c2 ?_;go_wp2_with fail
   go_ret;exact⟨af HD.out.symm,HB.out⟩
 ·have h1':aJ xs=false:=by simpa using h1
  rw[h1']at c1;have HD:Hid (au xs ys=false):=by simp[Hid,au,h1']
  obtain⟨n,hn⟩:=eX xs.length
  obtain⟨m,hm⟩:=eX ys.length
  rw[<-hn]at c1 HB⊢;rw[<-hm]at c1 HB⊢;clear h1 h1' gx gy hn hm c2;go_enter Tryz.func45,Tryz.ntmps45;go_wp2_with fail
  refine mo c1 ?_;go_wp2_with fail
  go_ret;exact⟨af HD.out.symm,HB.out⟩
def StB (w:World) (g:Nat) (t:TypeId) (cs:Array Value):Prop:=w.heap[g]?=some (.cells cs t (0,0))
theorem StB.lt {w:World} {g:Nat} {t:TypeId} {cs:Array Value} (h:StB w g t cs):g<w.heap.size:=by
 rcases Nat.lt_or_ge g w.heap.size with hlt|hge
 ·exact hlt
 ·rw[StB,Array.getElem?_eq_none hge]at h;cases h
theorem StB.new (w:World) (t:TypeId) (cs:Array Value):StB (w.alloc (.cells cs t)) w.heap.size t cs:=heap_alloc_new w _
theorem StB.below {w w':World} {g:Nat} {t:TypeId} {cs:Array Value} (h:StB w g t cs) (hb:bB w w'):StB w' g t cs:=(hb.block g h.lt).trans h
theorem StB.kept {w w':World} {g:Nat} {t:TypeId} {cs:Array Value} {row:Option Nat} (h:StB w g t cs) (hg:w.grownBy w' row) (hne:some g≠row):StB w' g t cs:=(hg.block g h.lt hne).trans h
theorem StB.alloc {w:World} {g:Nat} {t:TypeId} {cs:Array Value} (h:StB w g t cs) (o:Obj):StB (w.alloc o) g t cs:=(Below.heap_alloc w o g h.lt).trans h
theorem StB.cell {w:World} {g:Nat} {t:TypeId} {cs:Array Value} (h:StB w g t cs) (j:Nat) {x:Value} (e:cs[j]?=some x):w.cell? ⟨g,j,none⟩=some x:=by rw[cell_of_row w g j _ _ _ h,e]
theorem StB.frozen {w:World} {g:Nat} {t:TypeId} {cs:Array Value} (h:StB w g t cs) (j:Nat):w.frozen? ⟨g,j,none⟩=false:=frozen_of_row w g j _ _ h
theorem StB.put {w:World} {g:Nat} {t:TypeId} {cs ds:Array Value} (h:StB w g t cs) (j:Nat) (x:Value) (e:cs.setIfInBounds j x=ds):StB (w.setCell ⟨g,j,none⟩ x) g t ds:=by
 have:=heap_setCell_same w g j _ _ x h;rw[e]at this;exact this
theorem StB.other {w:World} {g:Nat} {t:TypeId} {cs:Array Value} (h:StB w g t cs) (a:Addr) (x:Value) (hne:g≠a.block):StB (w.setCell a x) g t cs:=(heap_setCell_other w a g x hne).trans h
theorem gz (w:World) (g:Nat) (cs:Array Value):w.grownBy (w.setRow g cs) (some g):=
 ⟨rfl,rfl,rfl,by simp,fun k _ hne=>_root_.Go.setRow_other w g k cs (fun e=>hne (by rw[e]))⟩
def IsS (t:TypeId) (n:Nat):Prop:=(∃fs,Tryz.prog.underlying t=some (.struct fs))/\(Tryz.prog.info? t).map (·.size)=some n
theorem ah {t:TypeId} {n:Nat} (hS:IsS t n) {ops:Array Oper} {rest:List Oper} {o:Oper} {a:Act} {w:World} {Q:Exit->Act->World->Prop} (hgd:o.guard=none) (x:Operand) (ho:o.op=.load t x)
  (g:Nat) (hx:a.eval x=.pointer (some ⟨g,0,none⟩)) (cs:Array Value) (hn:cs.size=n) (hr:StB w g t cs)
  (h:wpList Tryz.prog ops Q rest (a.put o.dst (.agg cs)) w):wpList Tryz.prog ops Q (o::rest) a w:=by
 obtain⟨⟨fs,hu⟩,hi⟩:=hS;exact wpList_load_row hgd _ x ho g hx _ _ _ _ hr hu rfl (by rw[hi,hn]) h
theorem ae {t:TypeId} {n:Nat} (hS:IsS t n) {ops:Array Oper} {rest:List Oper} {o:Oper} {a:Act} {w:World} {Q:Exit->Act->World->Prop} (hgd:o.guard=none) (x y:Operand) (ho:o.op=.store t x y)
  (g:Nat) (cs ds:Array Value) (hx:a.eval x=.pointer (some ⟨g,0,none⟩)) (hy:a.eval y=.agg cs) (hn:cs.size=n) (hd:ds.size=n) (h1:cs.all (·.oneCell')=true) (hr:StB w g t ds)
  (h:∀w',StB w' g t cs->w.grownBy w' (some g)->wpList Tryz.prog ops Q rest (a.put o.dst undef) w'):wpList Tryz.prog ops Q (o::rest) a w:=
 wpList_store_row hgd _ x y ho g cs hx hy _ _ hr (by rw[hS.2,hn]) (by rw[hd,hn]) h1 (h _ (setRow_heap w g _ _ _ _ hr) (gz w g _))
theorem gW {t:TypeId} {n:Nat} (hS:IsS t n) (w:World) (g:Nat) (cs:Array Value) (hn:cs.size=n) (hr:StB w g t cs):(loadVar t ⟨g,0,none⟩).run Tryz.prog w=.ok (.agg cs) w:=by
 obtain⟨⟨fs,hu⟩,hi⟩:=hS;exact run_loadVar_row w g _ _ _ _ _ hr hu rfl (by rw[hi,hn])
theorem aj {t:TypeId} {n:Nat} (hS:IsS t n) {fn:Func} {p:Tmp} (h:fn.results=#[.cell p t]) (tmps:Array Value) (w:World) (g:Nat) (cs:Array Value) (hn:cs.size=n)
  (hp:tmps.getD p undef=.pointer (some ⟨g,0,none⟩)) (hr:StB w g t cs):(results fn tmps).run Tryz.prog w=.ok (.agg cs) w:=by
 obtain⟨⟨fs,hu⟩,hi⟩:=hS;exact results_cell_row h tmps w g _ _ _ _ hp hr hu rfl (by rw[hi,hn])
theorem bE {t:TypeId} {n:Nat} (hS:IsS t n) {fn:Func} {p q:Tmp} (h:fn.results=#[.cell p t,.tmp q]) (tmps:Array Value) (w:World) (g:Nat) (cs:Array Value) (x:Value) (hn:cs.size=n)
  (hp:tmps.getD p undef=.pointer (some ⟨g,0,none⟩)) (hx:tmps.getD q undef=x) (hr:StB w g t cs):(results fn tmps).run Tryz.prog w=.ok (.tuple #[.agg cs,x]) w:=by
 rw[results_cell_tmp h,hp,hx];simp only[asAddr,Sem.run_pure,Result.andThen_ok];rw[gW hS w g cs hn hr];rfl
theorem dN {t:TypeId} {n:Nat} (hS:IsS t n) {fn:Func} {p q r:Tmp} (h:fn.results=#[.cell p t,.tmp q,.tmp r]) (tmps:Array Value) (w:World) (g:Nat) (cs:Array Value) (x y:Value) (hn:cs.size=n)
  (hp:tmps.getD p undef=.pointer (some ⟨g,0,none⟩)) (hx:tmps.getD q undef=x) (hy:tmps.getD r undef=y) (hr:StB w g t cs):(results fn tmps).run Tryz.prog w=.ok (.tuple #[.agg cs,x,y]) w:=by
 have hl:=gW hS w g cs hn hr;have hp':tmps[p]?.getD undef=.pointer (some ⟨g,0,none⟩):=by simpa using hp
 have hx':tmps[q]?.getD undef=x:=by simpa using hx
 have hy':tmps[r]?.getD undef=y:=by simpa using hy
 simp[results,h,hp',hx',hy',asAddr,hl]
theorem aK {w:World} {ao:Option Addr} {n cap:Nat} {xs:List Int} (h:ag w (.slice ao n cap) xs):n=xs.length/\n<=cap/\cap<=maxLen/\∀j,j<n->∃b off,ao=some ⟨b,off,none⟩/\w.cell? ⟨b,off+j,none⟩=some (.int .i64 (xs.getD j 0)):=by
 obtain⟨ao',cap',e,hl,⟨hm, -⟩,hc⟩:=h;simp only[Value.slice.injEq]at e;obtain⟨rfl,rfl,rfl⟩:=e;refine⟨rfl,hl,hm,fun j hj=>?_⟩;rcases hc with rfl|⟨b,off,rfl,h4⟩
 ·simp at hj
 ·exact⟨b,off,rfl,h4 j hj⟩
theorem aa {w:World} {v:Value} {xs:List Int} (h:ag w v xs):∃ao cap,v=.slice ao xs.length cap:=by
 obtain⟨ao,cap,e,_⟩:=h;exact⟨ao,cap,e⟩
theorem dq {w:World} {v:Value} {xs:List Int} (h:ag w v xs):v.oneCell'=true:=by
 obtain⟨ao,cap,rfl,_⟩:=h;rfl
theorem aL (x lo hi:Int) (w:World):
  Calls Tryz.prog 44 #[.int .i64 x,.int .i64 lo,.int .i64 hi] w fun e w'=>e=.returned (.bool (inI x lo hi))/\w'=w:=by
 by_cases h0:lo<=x
 ·by_cases h1:x<=hi
  ·have he:inI x lo hi=true:=by simp[inI,h0,h1]
   rw[he];clear he;go_enter Tryz.func44,Tryz.ntmps44;go_wp2;go_ret;exact⟨af (by simp),rfl⟩
  ·have he:inI x lo hi=false:=by simp[inI,h1]
   rw[he];clear he;go_enter Tryz.func44,Tryz.ntmps44;go_wp2;go_ret;exact⟨af (by simp),rfl⟩
 ·have he:inI x lo hi=false:=by simp[inI,h0]
  rw[he];clear he;go_enter Tryz.func44,Tryz.ntmps44;go_wp2;go_ret;exact⟨af (by simp),rfl⟩
theorem mn (x:Int) (w:World):
  Calls Tryz.prog 84 #[.int .i64 x] w fun e w'=>e=.returned (.bool (inI x 0 9999))/\w'=w:=by
 have c1:=aL x 0 9999 w;go_enter Tryz.func84,Tryz.ntmps84;go_wp2_with fail
 refine mo c1 ?_;clear c1;go_wp2_with fail
 go_ret;exact⟨rfl,rfl⟩
theorem bJ (x:Int) (w:World):
  Calls Tryz.prog 130 #[.int .i64 x] w fun e w'=>e=.returned (.bool (inI x 0 65535))/\w'=w:=by
 have c1:=aL x 0 65535 w;go_enter Tryz.func130,Tryz.ntmps130;go_wp2_with fail
 refine mo c1 ?_;clear c1;go_wp2_with fail
 go_ret;exact⟨rfl,rfl⟩
theorem mo (k:Int) (w:World):
  Calls Tryz.prog 87 #[.int .i64 k] w fun e w'=>e=.returned (.bool (kiI k))/\w'=w:=by
 have c1:=aL k 1 6 w;unfold kiI;go_enter Tryz.func87,Tryz.ntmps87;go_wp2_with fail
 refine mo c1 ?_;clear c1;go_wp2_with fail
 go_ret;exact⟨rfl,rfl⟩
theorem iA (k:Int) (w:World):
  Calls Tryz.prog 85 #[.int .i64 k] w fun e w'=>e=.returned (.bool (bY k))/\w'=w:=by
 by_cases h5:k=5
 ·subst h5
  go_enter Tryz.func85,Tryz.ntmps85;go_wp2;go_ret;exact⟨rfl,rfl⟩
 ·by_cases h6:k=6
  ·subst h6
   go_enter Tryz.func85,Tryz.ntmps85;go_wp2;go_ret;exact⟨rfl,rfl⟩
  ·have he:bY k=false:=by simp[bY,h5,h6]
   rw[he];clear he;go_enter Tryz.func85,Tryz.ntmps85;go_wp2;go_ret;exact⟨af (by simp[h5,h6]),rfl⟩
theorem zY (k:Int) (b:Bool) (w:World):
  Calls Tryz.prog 175 #[.int .i64 k,.bool b] w fun e w'=>e=.returned (.bool (yj k b))/\w'=w:=by
 have c1:=mo k w;have HE:Hid (yj k b=(kiI k&&(b||decide (k%2=0)))):=rfl;obtain⟨x,hx⟩:=eX (yj k b)
 rw[<-hx]at HE⊢;obtain⟨y,hy⟩:=eX (kiI k)
 rw[<-hy]at HE c1;have hk:y=true->1<=k/\k<=6:=fun h=>(aD k 1 6).1 (by rw[<-h,hy];rfl)
 clear hx hy;cases y with
 |false=>
  clear hk;go_enter Tryz.func175,Tryz.ntmps175;go_wp2_with fail
  refine mo c1 ?_;clear c1;go_wp2;go_ret;exact⟨af (by rw[HE.out];rfl),rfl⟩
 |true=>
  have hk2:=hk rfl;have hm:k.tmod 2=k%2:=Int.tmod_eq_emod_of_nonneg (by omega);clear hk;cases b with
  |true=>
   go_enter Tryz.func175,Tryz.ntmps175;go_wp2_with fail
   refine mo c1 ?_;clear c1;go_wp2;go_ret;exact⟨af (by rw[HE.out];rfl),rfl⟩
  |false=>
   have HX:Hid (x=decide (k%2=0)):=by rw[Hid,HE.out];rfl
   clear HE;by_cases h2:k%2=0
   ·go_enter Tryz.func175,Tryz.ntmps175
    go_wp2_with fail
    refine mo c1 ?_;clear c1;go_wp2;go_ret;exact⟨af (by rw[HX.out];simp[h2]),rfl⟩
   ·go_enter Tryz.func175,Tryz.ntmps175
    go_wp2_with fail
    refine mo c1 ?_;clear c1;go_wp2;go_ret;exact⟨af (by rw[HX.out];simp[h2]),rfl⟩
theorem BF (k:Int) (b h r:Bool) (w:World):
  Calls Tryz.prog 138 #[.int .i64 k,.bool b,.bool h,.bool r] w fun e w'=>e=.returned (.bool (kC k b h r))/\w'=w:=by
 have c1:=mo k w;have c2:=zY k b w;have HE:Hid (kC k b h r=if k=0 then true else if kiI k=false then false else if h then true else if decide (3<=k)&&r then true else !barsI k b):=rfl;obtain⟨x,hx⟩:=eX (kC k b h r)
 rw[<-hx]at HE⊢;obtain⟨y,hy⟩:=eX (kiI k)
 obtain⟨z,hz⟩:=eX (yj k b)
 rw[<-hy,<-hz]at HE;rw[<-hy]at c1;rw[<-hz]at c2;clear hx hy hz;by_cases h0:k=0
 ·have HX:Hid (x=true):=by rw[Hid,HE.out,if_pos h0]
  subst h0;clear c1 c2 HE;go_enter Tryz.func138,Tryz.ntmps138;go_wp2;go_ret;exact⟨af (by rw[HX.out]),rfl⟩
 ·cases y with
  |false=>
   have HX:Hid (x=false):=by rw[Hid,HE.out,if_neg h0,if_pos rfl]
   clear c2 HE;go_enter Tryz.func138,Tryz.ntmps138;go_wp2_with fail
   refine mo c1 ?_;clear c1;go_wp2;go_ret;exact⟨af (by rw[HX.out]),rfl⟩
  |true=>
   cases h with
   |true=>
    have HX:Hid (x=true):=by rw[Hid,HE.out,if_neg h0,if_neg (by decide),if_pos rfl]
    clear c2 HE;go_enter Tryz.func138,Tryz.ntmps138;go_wp2_with fail
    refine mo c1 ?_;clear c1;go_wp2;go_ret;exact⟨af (by rw[HX.out]),rfl⟩
   |false=>
    by_cases h3:3<=k
    ·cases r with
     |true=>
      have HX:Hid (x=true):=by rw[Hid,HE.out,if_neg h0,if_neg (by decide),if_neg (by decide),if_pos (by simp[h3])]
      clear c2 HE;go_enter Tryz.func138,Tryz.ntmps138;go_wp2_with fail
      refine mo c1 ?_;clear c1;go_wp2;go_ret;exact⟨af (by rw[HX.out]),rfl⟩
     |false=>
      have HX:Hid (x= !z):=by rw[Hid,HE.out,if_neg h0,if_neg (by decide),if_neg (by decide),if_neg (by simp)]
      clear HE;go_enter Tryz.func138,Tryz.ntmps138;go_wp2_with fail
      refine mo c1 ?_;clear c1;go_wp2_with fail
      refine mo c2 ?_;clear c2;go_wp2;go_ret;exact⟨af (by rw[HX.out]),rfl⟩
    ·have HX:Hid (x= !z):=by rw[Hid,HE.out,if_neg h0,if_neg (by decide),if_neg (by decide),if_neg (by simp[h3])]
     clear HE;go_enter Tryz.func138,Tryz.ntmps138;go_wp2_with fail
     refine mo c1 ?_;clear c1;go_wp2_with fail
     refine mo c2 ?_;clear c2;go_wp2;go_ret;exact⟨af (by rw[HX.out]),rfl⟩
end Go.Proofs.YthldeiojlllkdaaGreatDoor
