/- Disks: the model's DiskOk, NewDisk, Written, Flushed, Loose and Lost answer what plain lists say, in new memory. -/
import Derived.Test.YthldeiojlllkdaaGreatDoorM2
import Derived.Deep.RegionWith
import Derived.BigRegion
set_option maxRecDepth 20000
set_option maxHeartbeats 2000000
namespace Go.Proofs.YthldeiojlllkdaaGreatDoor
open Go.ChangeShapes Go.WideShapes Go.ChangeAt Go.RowKit
def cN (w wx:World) (u v:Value):Prop:=
 cL wx w.heap.size 36 u v/\cL wx (w.heap.size+1) 36 (.slice none 0 0) (.slice none 0 0)/\iO w wx/\w.heap.size+2<=wx.heap.size
theorem cN.start (w:World) (u v:Value):cN w ((w.alloc (.cells #[u,v] 36)).alloc (.cells #[.slice none 0 0,.slice none 0 0] 36)) u v:=by
 refine⟨(cL.new w _ u v).alloc _,?_,Fc.alloc Fg _,by simp⟩;have:=cL.new (w.alloc (.cells #[u,v] 36)) 36 (.slice none 0 0) (.slice none 0 0);simpa using this
theorem cN.below {w wx wy:World} {u v:Value} (h:cN w wx u v) (b:iO wx wy):cN w wy u v:=
 ⟨h.1.below b,h.2.1.below b,h.2.2.1.trans (b.mono h.2.2.1.size),Nat.le_trans h.2.2.2 b.size⟩
theorem cN.drew {w wx:World} {u v:Value} (h:cN w wx u v):cN w wx.drew u v:=⟨h.1,h.2.1,below_drewN h.2.2.1 1,h.2.2.2⟩
theorem cN.done {w wx wy:World} {u v a b:Value} {xs ys:List Int} {base base':Nat} (h:cN w wx u v) (g:wx.grownBy wy (some (w.heap.size+1))) (oa:Own wx base a xs) (ob:Own wx base' b ys) (hb:w.heap.size+2<=base) (hb':w.heap.size+2<=base') (hap:apart a b):
  aV wy w.heap.size a b xs ys/\iO w wy:=
 ⟨⟨(oa.keptLt g Ff).mono Ff,(ob.keptLt g Ff).mono Ff,hap⟩,h.2.2.1.grown g h.2.2.1.size (fun k e=>by cases e;omega)⟩
theorem gp {w:World} {g j k:Nat} {x y:Value} (h:w.cell? ⟨g,j,none⟩=some x):(w.setCell ⟨g+1,k,none⟩ y).cell? ⟨g,j,none⟩=some x:=by
 rw[World.cell?_of_block (w:=w) (heap_setCell_other w ⟨g+1,k,none⟩ g y Fg),h]
theorem ml (w:World) (g:Nat) (x y:Value):w.grownBy ((w.setCell ⟨g,0,none⟩ x).setCell ⟨g,1,none⟩ y) (some g):=(ai w g 0 x).trans (ai _ g 1 y)
theorem apart.symm {u v:Value} (h:apart u v):apart v u:=⟨h.2,h.1⟩
theorem BC (n m:Nat):((n:Int)==(m:Int))=decide (n=m):=by
 by_cases h:n=m
 ·subst h;simp
 ·have:(n:Int)≠m:=by omega
  simp[h,this]
theorem dA (u v:Value) (xs ys:List Int) (w:World) (h:ag w u xs) (h':ag w v ys) (gx:xs.length<=1099511627776) (gy:ys.length<=1099511627776):
  Calls Tryz.prog 51 #[.agg #[u,v]] w fun e w'=>∃a b,e=.returned (.agg #[a,b])/\aV w' w.heap.size a b xs ys/\iO w w':=by
 have HR:Hid (ag w u xs/\ag w v ys):=⟨h,h'⟩
 clear h h';obtain⟨w2,hw2⟩:=Fe ((w.alloc (.cells #[u,v] 36)).alloc (.cells #[.slice none 0 0,.slice none 0 0] 36))
 have HB:Hid (cN w w2 u v):=by rw[hw2];exact cN.start w u v
 have c0:=HB.out.1.cell0;have c1:=HB.out.1.cell1;go_enter Tryz.func51,Tryz.ntmps51;go_wp2_with fail
 rw[<-hw2];clear hw2;have HB2:=HB.out.drew
 go_region_held3 (fun w'=>w'.cell? ⟨w.heap.size,0,none⟩=some u/\w'.cell? ⟨w.heap.size,1,none⟩=some v) (constructor<;>first|assumption|exact gp (gp (by assumption)))
  (first
   |(go_at_call_of 94 u;refine(gK u xs w2.drew (HR.out.1.below HB2.2.2.1 (Nat.le_refl _)) gx).mono ?_;rintro e w4 ⟨a,rfl,oa,ba⟩;have HB4:=HB2.below ba;have d0:=HB4.1.cell0;have d1:=HB4.1.cell1;obtain⟨ao,ca,hea⟩:=oa.reads.form;subst hea)
   |(go_at_call_of 94 v;refine(gK v ys w4 (HR.out.2.below HB4.2.2.1 (Nat.le_refl _)) gy).mono ?_;rintro e w5 ⟨b,rfl,ob,bb⟩;have hap:=dt oa ob (Nat.le_refl _);replace oa:=oa.below bb;have hs5:=ba.size;have HB5:=HB4.below bb;have e0:=HB5.1.cell0;have e1:=HB5.1.cell1;have e2:=HB5.2.1.cell0;have e3:=HB5.2.1.cell1;have f2:=HB5.2.1.frozen 0;have f3:=HB5.2.1.frozen 1;obtain⟨bo,cb,heb⟩:=ob.reads.form;subst heb))
 go_wp2_with fail
 refine bodyPost_ret (eJ rfl _ _ (w.heap.size+1) _ _ rfl ((HB5.2.1.set0 _).set1 _)) rfl ?_;exact⟨_,_,rfl,HB5.done (ml _ _ _ _) oa ob (HB2.2.2.2) (Nat.le_trans HB2.2.2.2 hs5) hap⟩
theorem pO (u v:Value) (ys:List Int) (w:World) (h':ag w v ys) (gy:ys.length<=1099511627776):
  Calls Tryz.prog 141 #[.agg #[u,v]] w fun e w'=>∃a b,e=.returned (.agg #[a,b])/\aV w' w.heap.size a b ys ys/\iO w w':=by
 have HR:Hid (ag w v ys):=h';clear h';obtain⟨w2,hw2⟩:=Fe ((w.alloc (.cells #[u,v] 36)).alloc (.cells #[.slice none 0 0,.slice none 0 0] 36))
 have HB:Hid (cN w w2 u v):=by rw[hw2];exact cN.start w u v
 have c0:=HB.out.1.cell0;have c1:=HB.out.1.cell1;go_enter Tryz.func141,Tryz.ntmps141;go_wp2_with fail
 rw[<-hw2];clear hw2;have HB2:=HB.out.drew
 go_region_held3 (fun w'=>w'.cell? ⟨w.heap.size,0,none⟩=some u/\w'.cell? ⟨w.heap.size,1,none⟩=some v) (constructor<;>first|assumption|exact gp (gp (by assumption)))
  (first
   |(go_at_call_of 94 v;refine(gK v ys w2.drew (HR.out.below HB2.2.2.1 (Nat.le_refl _)) gy).mono ?_;rintro e w4 ⟨a,rfl,oa,ba⟩;have HB4:=HB2.below ba;have d0:=HB4.1.cell0;have d1:=HB4.1.cell1;obtain⟨ao,ca,hea⟩:=oa.reads.form;subst hea)
   |(go_at_call_of 94 v;refine(gK v ys w4 (HR.out.below HB4.2.2.1 (Nat.le_refl _)) gy).mono ?_;rintro e w5 ⟨b,rfl,ob,bb⟩;have hap:=dt oa ob (Nat.le_refl _);replace oa:=oa.below bb;have hs5:=ba.size;have HB5:=HB4.below bb;have e0:=HB5.1.cell0;have e1:=HB5.1.cell1;have e2:=HB5.2.1.cell0;have e3:=HB5.2.1.cell1;have f2:=HB5.2.1.frozen 0;have f3:=HB5.2.1.frozen 1;obtain⟨bo,cb,heb⟩:=ob.reads.form;subst heb))
 go_wp2_with fail
 refine bodyPost_ret (eJ rfl _ _ (w.heap.size+1) _ _ rfl ((HB5.2.1.set0 _).set1 _)) rfl ?_;exact⟨_,_,rfl,HB5.done (ml _ _ _ _) oa ob (HB2.2.2.2) (Nat.le_trans HB2.2.2.2 hs5) hap⟩
theorem uN (u v:Value) (xs ys:List Int) (w:World) (h:ag w u xs) (h':ag w v ys) (gx:xs.length<=1099511627776) (gy:ys.length<=1099511627776):
  Calls Tryz.prog 45 #[.agg #[u,v]] w fun e w'=>e=.returned (.bool (au xs ys))/\iO w w':=by
 have b1:=be w (.cells #[u,v] 36);have c1:=xQ u xs _ (h.below b1 (Nat.le_refl _)) gx;have c2:=xQ v ys _ (h'.below b1 (Nat.le_refl _)) gy;obtain⟨ao,ca,rfl⟩:=h.form;obtain⟨bo,cb,rfl⟩:=h'.form;have HB:Hid (iO w (w.alloc (.cells #[.slice ao xs.length ca,.slice bo ys.length cb] 36))):=b1;clear h h' b1;by_cases h1:aK xs=true
 ·rw[h1]at c1
  by_cases h2:aK ys=true
  ·rw[h2]at c2
   have HD:Hid (au xs ys=decide (xs.length=ys.length)):=by simp[Hid,au,h1,h2]
   obtain⟨n,hn⟩:=Fe xs.length
   obtain⟨m,hm⟩:=Fe ys.length
   rw[<-hn]at c1 c2 HB HD⊢;rw[<-hm]at c1 c2 HB HD⊢;clear h1 h2 gx gy hn hm;go_enter Tryz.func45,Tryz.ntmps45;go_wp2_with fail
   refine Fd c1 ?_;go_wp2_with fail
   refine Fd c2 ?_;go_wp2_with fail
   go_ret;refine⟨af ?_,HB.out⟩;rw[HD.out];exact BC n m
  ·have h2':aK ys=false:=by simpa using h2
   rw[h2']at c2;have HD:Hid (au xs ys=false):=by simp[Hid,au,h2']
   obtain⟨n,hn⟩:=Fe xs.length
   obtain⟨m,hm⟩:=Fe ys.length
   rw[<-hn]at c1 c2 HB⊢;rw[<-hm]at c1 c2 HB⊢;clear h1 h2 h2' gx gy hn hm;go_enter Tryz.func45,Tryz.ntmps45;go_wp2_with fail
   refine Fd c1 ?_;go_wp2_with fail
   refine Fd c2 ?_;go_wp2_with fail
   go_ret;exact⟨af HD.out.symm,HB.out⟩
 ·have h1':aK xs=false:=by simpa using h1
  rw[h1']at c1;have HD:Hid (au xs ys=false):=by simp[Hid,au,h1']
  obtain⟨n,hn⟩:=Fe xs.length
  obtain⟨m,hm⟩:=Fe ys.length
  rw[<-hn]at c1 HB⊢;rw[<-hm]at c1 HB⊢;clear h1 h1' gx gy hn hm c2;go_enter Tryz.func45,Tryz.ntmps45;go_wp2_with fail
  refine Fd c1 ?_;go_wp2_with fail
  go_ret;exact⟨af HD.out.symm,HB.out⟩
def StB (w:World) (g:Nat) (t:TypeId) (cs:Array Value):Prop:=w.heap[g]?=some (.cells cs t (0,0))
theorem StB.lt {w:World} {g:Nat} {t:TypeId} {cs:Array Value} (h:StB w g t cs):g<w.heap.size:=by
 rcases Nat.lt_or_ge g w.heap.size with hlt|hge
 ·exact hlt
 ·rw[StB,Array.getElem?_eq_none hge]at h;cases h
theorem StB.new (w:World) (t:TypeId) (cs:Array Value):StB (w.alloc (.cells cs t)) w.heap.size t cs:=heap_alloc_new w _
theorem StB.below {w w':World} {g:Nat} {t:TypeId} {cs:Array Value} (h:StB w g t cs) (hb:iO w w'):StB w' g t cs:=(hb.block g h.lt).trans h
theorem StB.kept {w w':World} {g:Nat} {t:TypeId} {cs:Array Value} {row:Option Nat} (h:StB w g t cs) (hg:w.grownBy w' row) (hne:some g≠row):StB w' g t cs:=(hg.block g h.lt hne).trans h
theorem StB.alloc {w:World} {g:Nat} {t:TypeId} {cs:Array Value} (h:StB w g t cs) (o:Obj):StB (w.alloc o) g t cs:=(Below.heap_alloc w o g h.lt).trans h
theorem StB.cell {w:World} {g:Nat} {t:TypeId} {cs:Array Value} (h:StB w g t cs) (j:Nat) {x:Value} (e:cs[j]?=some x):w.cell? ⟨g,j,none⟩=some x:=by rw[cell_of_row w g j _ _ _ h,e]
theorem StB.frozen {w:World} {g:Nat} {t:TypeId} {cs:Array Value} (h:StB w g t cs) (j:Nat):w.frozen? ⟨g,j,none⟩=false:=frozen_of_row w g j _ _ h
theorem StB.put {w:World} {g:Nat} {t:TypeId} {cs ds:Array Value} (h:StB w g t cs) (j:Nat) (x:Value) (e:cs.setIfInBounds j x=ds):StB (w.setCell ⟨g,j,none⟩ x) g t ds:=by
 have:=heap_setCell_same w g j _ _ x h;rw[e]at this;exact this
theorem StB.other {w:World} {g:Nat} {t:TypeId} {cs:Array Value} (h:StB w g t cs) (a:Addr) (x:Value) (hne:g≠a.block):StB (w.setCell a x) g t cs:=(heap_setCell_other w a g x hne).trans h
theorem gw (w:World) (g:Nat) (cs:Array Value):w.grownBy (w.setRow g cs) (some g):=
 ⟨rfl,rfl,rfl,by simp,fun k _ hne=>_root_.Go.setRow_other w g k cs (fun e=>hne (by rw[e]))⟩
def IsS (t:TypeId) (n:Nat):Prop:=(∃fs,Tryz.prog.underlying t=some (.struct fs))/\(Tryz.prog.info? t).map (·.size)=some n
theorem ah {t:TypeId} {n:Nat} (hS:IsS t n) {ops:Array Oper} {rest:List Oper} {o:Oper} {a:Act} {w:World} {Q:Exit->Act->World->Prop} (hgd:o.guard=none) (x:Operand) (ho:o.op=.load t x)
  (g:Nat) (hx:a.eval x=.pointer (some ⟨g,0,none⟩)) (cs:Array Value) (hn:cs.size=n) (hr:StB w g t cs)
  (h:wpList Tryz.prog ops Q rest (a.put o.dst (.agg cs)) w):wpList Tryz.prog ops Q (o::rest) a w:=by
 obtain⟨⟨fs,hu⟩,hi⟩:=hS;exact wpList_load_row hgd _ x ho g hx _ _ _ _ hr hu rfl (by rw[hi,hn]) h
theorem ae {t:TypeId} {n:Nat} (hS:IsS t n) {ops:Array Oper} {rest:List Oper} {o:Oper} {a:Act} {w:World} {Q:Exit->Act->World->Prop} (hgd:o.guard=none) (x y:Operand) (ho:o.op=.store t x y)
  (g:Nat) (cs ds:Array Value) (hx:a.eval x=.pointer (some ⟨g,0,none⟩)) (hy:a.eval y=.agg cs) (hn:cs.size=n) (hd:ds.size=n) (h1:cs.all (·.oneCell')=true) (hr:StB w g t ds)
  (h:∀w',StB w' g t cs->w.grownBy w' (some g)->wpList Tryz.prog ops Q rest (a.put o.dst undef) w'):wpList Tryz.prog ops Q (o::rest) a w:=
 wpList_store_row hgd _ x y ho g cs hx hy _ _ hr (by rw[hS.2,hn]) (by rw[hd,hn]) h1 (h _ (setRow_heap w g _ _ _ _ hr) (gw w g _))
theorem gV {t:TypeId} {n:Nat} (hS:IsS t n) (w:World) (g:Nat) (cs:Array Value) (hn:cs.size=n) (hr:StB w g t cs):(loadVar t ⟨g,0,none⟩).run Tryz.prog w=.ok (.agg cs) w:=by
 obtain⟨⟨fs,hu⟩,hi⟩:=hS;exact run_loadVar_row w g _ _ _ _ _ hr hu rfl (by rw[hi,hn])
theorem aj {t:TypeId} {n:Nat} (hS:IsS t n) {fn:Func} {p:Tmp} (h:fn.results=#[.cell p t]) (tmps:Array Value) (w:World) (g:Nat) (cs:Array Value) (hn:cs.size=n)
  (hp:tmps.getD p undef=.pointer (some ⟨g,0,none⟩)) (hr:StB w g t cs):(results fn tmps).run Tryz.prog w=.ok (.agg cs) w:=by
 obtain⟨⟨fs,hu⟩,hi⟩:=hS;exact results_cell_row h tmps w g _ _ _ _ hp hr hu rfl (by rw[hi,hn])
theorem bI {t:TypeId} {n:Nat} (hS:IsS t n) {fn:Func} {p q:Tmp} (h:fn.results=#[.cell p t,.tmp q]) (tmps:Array Value) (w:World) (g:Nat) (cs:Array Value) (x:Value) (hn:cs.size=n)
  (hp:tmps.getD p undef=.pointer (some ⟨g,0,none⟩)) (hx:tmps.getD q undef=x) (hr:StB w g t cs):(results fn tmps).run Tryz.prog w=.ok (.tuple #[.agg cs,x]) w:=by
 rw[results_cell_tmp h,hp,hx];simp only[asAddr,Sem.run_pure,Result.andThen_ok];rw[gV hS w g cs hn hr];rfl
theorem dN {t:TypeId} {n:Nat} (hS:IsS t n) {fn:Func} {p q r:Tmp} (h:fn.results=#[.cell p t,.tmp q,.tmp r]) (tmps:Array Value) (w:World) (g:Nat) (cs:Array Value) (x y:Value) (hn:cs.size=n)
  (hp:tmps.getD p undef=.pointer (some ⟨g,0,none⟩)) (hx:tmps.getD q undef=x) (hy:tmps.getD r undef=y) (hr:StB w g t cs):(results fn tmps).run Tryz.prog w=.ok (.tuple #[.agg cs,x,y]) w:=by
 have hl:=gV hS w g cs hn hr;have hp':tmps[p]?.getD undef=.pointer (some ⟨g,0,none⟩):=by simpa using hp
 have hx':tmps[q]?.getD undef=x:=by simpa using hx
 have hy':tmps[r]?.getD undef=y:=by simpa using hy
 simp[results,h,hp',hx',hy',asAddr,hl]
theorem aL {w:World} {ao:Option Addr} {n cap:Nat} {xs:List Int} (h:ag w (.slice ao n cap) xs):n=xs.length/\n<=cap/\cap<=maxLen/\∀j,j<n->∃b off,ao=some ⟨b,off,none⟩/\w.cell? ⟨b,off+j,none⟩=some (.int .i64 (xs.getD j 0)):=by
 obtain⟨ao',cap',e,hl,⟨hm, -⟩,hc⟩:=h;simp only[Value.slice.injEq]at e;obtain⟨rfl,rfl,rfl⟩:=e;refine⟨rfl,hl,hm,fun j hj=>?_⟩;rcases hc with rfl|⟨b,off,rfl,h4⟩
 ·simp at hj
 ·exact⟨b,off,rfl,h4 j hj⟩
theorem aa {w:World} {v:Value} {xs:List Int} (h:ag w v xs):∃ao cap,v=.slice ao xs.length cap:=by
 obtain⟨ao,cap,e,_⟩:=h;exact⟨ao,cap,e⟩
theorem aB {w:World} {v:Value} {xs:List Int} (h:ag w v xs):v.oneCell'=true:=by
 obtain⟨ao,cap,rfl,_⟩:=h;rfl
theorem aM (x lo hi:Int) (w:World):
  Calls Tryz.prog 44 #[.int .i64 x,.int .i64 lo,.int .i64 hi] w fun e w'=>e=.returned (.bool (inI x lo hi))/\w'=w:=by
 by_cases h0:lo<=x
 ·by_cases h1:x<=hi
  ·have he:inI x lo hi=true:=by simp[inI,h0,h1]
   rw[he];clear he;go_enter Tryz.func44,Tryz.ntmps44;go_wp2;go_ret;exact⟨af Fg,rfl⟩
  ·have he:inI x lo hi=false:=by simp[inI,h1]
   rw[he];clear he;go_enter Tryz.func44,Tryz.ntmps44;go_wp2;go_ret;exact⟨af Fg,rfl⟩
 ·have he:inI x lo hi=false:=by simp[inI,h0]
  rw[he];clear he;go_enter Tryz.func44,Tryz.ntmps44;go_wp2;go_ret;exact⟨af Fg,rfl⟩
theorem mm (x:Int) (w:World):
  Calls Tryz.prog 84 #[.int .i64 x] w fun e w'=>e=.returned (.bool (inI x 0 9999))/\w'=w:=by
 have c1:=aM x 0 9999 w;go_enter Tryz.func84,Tryz.ntmps84;go_wp2_with fail
 refine Fd c1 ?_;clear c1;go_wp2_with fail
 go_ret;exact⟨rfl,rfl⟩
theorem bM (x:Int) (w:World):
  Calls Tryz.prog 130 #[.int .i64 x] w fun e w'=>e=.returned (.bool (inI x 0 65535))/\w'=w:=by
 have c1:=aM x 0 65535 w;go_enter Tryz.func130,Tryz.ntmps130;go_wp2_with fail
 refine Fd c1 ?_;clear c1;go_wp2_with fail
 go_ret;exact⟨rfl,rfl⟩
theorem mn (k:Int) (w:World):
  Calls Tryz.prog 87 #[.int .i64 k] w fun e w'=>e=.returned (.bool (kiI k))/\w'=w:=by
 have c1:=aM k 1 6 w;unfold kiI;go_enter Tryz.func87,Tryz.ntmps87;go_wp2_with fail
 refine Fd c1 ?_;clear c1;go_wp2_with fail
 go_ret;exact⟨rfl,rfl⟩
theorem iA (k:Int) (w:World):
  Calls Tryz.prog 85 #[.int .i64 k] w fun e w'=>e=.returned (.bool (bY k))/\w'=w:=by
 by_cases h5:k=5
 ·subst h5
  go_enter Tryz.func85,Tryz.ntmps85;go_wp2;go_ret;exact⟨rfl,rfl⟩
 ·by_cases h6:k=6
  ·subst h6
   go_enter Tryz.func85,Tryz.ntmps85;go_wp2;go_ret;exact⟨rfl,rfl⟩
  ·have he:bY k=false:=by simp[bY,h5,h6]
   rw[he];clear he;go_enter Tryz.func85,Tryz.ntmps85;go_wp2;go_ret;exact⟨af (by simp[h5,h6]),rfl⟩
theorem zV (k:Int) (b:Bool) (w:World):
  Calls Tryz.prog 175 #[.int .i64 k,.bool b] w fun e w'=>e=.returned (.bool (qE k b))/\w'=w:=by
 have c1:=mn k w;have HE:Hid (qE k b=(kiI k&&(b||decide (k%2=0)))):=rfl;obtain⟨x,hx⟩:=Fe (qE k b)
 rw[<-hx]at HE⊢;obtain⟨y,hy⟩:=Fe (kiI k)
 rw[<-hy]at HE c1;have hk:y=true->1<=k/\k<=6:=fun h=>(aE k 1 6).1 (by rw[<-h,hy];rfl)
 clear hx hy;cases y with
 |false=>
  clear hk;go_enter Tryz.func175,Tryz.ntmps175;go_wp2_with fail
  refine Fd c1 ?_;clear c1;go_wp2;go_ret;exact⟨af (by rw[HE.out];rfl),rfl⟩
 |true=>
  have hk2:=hk rfl;have hm:k.tmod 2=k%2:=Int.tmod_eq_emod_of_nonneg Ff;clear hk;cases b with
  |true=>
   go_enter Tryz.func175,Tryz.ntmps175;go_wp2_with fail
   refine Fd c1 ?_;clear c1;go_wp2;go_ret;exact⟨af (by rw[HE.out];rfl),rfl⟩
  |false=>
   have HX:Hid (x=decide (k%2=0)):=by rw[Hid,HE.out];rfl
   clear HE;by_cases h2:k%2=0
   ·go_enter Tryz.func175,Tryz.ntmps175
    go_wp2_with fail
    refine Fd c1 ?_;clear c1;go_wp2;go_ret;exact⟨af (by rw[HX.out];simp[h2]),rfl⟩
   ·go_enter Tryz.func175,Tryz.ntmps175
    go_wp2_with fail
    refine Fd c1 ?_;clear c1;go_wp2;go_ret;exact⟨af (by rw[HX.out];simp[h2]),rfl⟩
theorem BE (k:Int) (b h r:Bool) (w:World):
  Calls Tryz.prog 138 #[.int .i64 k,.bool b,.bool h,.bool r] w fun e w'=>e=.returned (.bool (kC k b h r))/\w'=w:=by
 have c1:=mn k w;have c2:=zV k b w;have HE:Hid (kC k b h r=if k=0 then true else if kiI k=false then false else if h then true else if decide (3<=k)&&r then true else !qE k b):=rfl;obtain⟨x,hx⟩:=Fe (kC k b h r)
 rw[<-hx]at HE⊢;obtain⟨y,hy⟩:=Fe (kiI k)
 obtain⟨z,hz⟩:=Fe (qE k b)
 rw[<-hy,<-hz]at HE;rw[<-hy]at c1;rw[<-hz]at c2;clear hx hy hz;by_cases h0:k=0
 ·have HX:Hid (x=true):=by rw[Hid,HE.out,if_pos h0]
  subst h0;clear c1 c2 HE;go_enter Tryz.func138,Tryz.ntmps138;go_wp2;go_ret;exact⟨af (by rw[HX.out]),rfl⟩
 ·cases y with
  |false=>
   have HX:Hid (x=false):=by rw[Hid,HE.out,if_neg h0,if_pos rfl]
   clear c2 HE;go_enter Tryz.func138,Tryz.ntmps138;go_wp2_with fail
   refine Fd c1 ?_;clear c1;go_wp2;go_ret;exact⟨af (by rw[HX.out]),rfl⟩
  |true=>
   cases h with
   |true=>
    have HX:Hid (x=true):=by rw[Hid,HE.out,if_neg h0,if_neg Fh,if_pos rfl]
    clear c2 HE;go_enter Tryz.func138,Tryz.ntmps138;go_wp2_with fail
    refine Fd c1 ?_;clear c1;go_wp2;go_ret;exact⟨af (by rw[HX.out]),rfl⟩
   |false=>
    by_cases h3:3<=k
    ·cases r with
     |true=>
      have HX:Hid (x=true):=by rw[Hid,HE.out,if_neg h0,if_neg Fh,if_neg Fh,if_pos (by simp[h3])]
      clear c2 HE;go_enter Tryz.func138,Tryz.ntmps138;go_wp2_with fail
      refine Fd c1 ?_;clear c1;go_wp2;go_ret;exact⟨af (by rw[HX.out]),rfl⟩
     |false=>
      have HX:Hid (x= !z):=by rw[Hid,HE.out,if_neg h0,if_neg Fh,if_neg Fh,if_neg Fg]
      clear HE;go_enter Tryz.func138,Tryz.ntmps138;go_wp2_with fail
      refine Fd c1 ?_;clear c1;go_wp2_with fail
      refine Fd c2 ?_;clear c2;go_wp2;go_ret;exact⟨af (by rw[HX.out]),rfl⟩
    ·have HX:Hid (x= !z):=by rw[Hid,HE.out,if_neg h0,if_neg Fh,if_neg Fh,if_neg (by simp[h3])]
     clear HE;go_enter Tryz.func138,Tryz.ntmps138;go_wp2_with fail
     refine Fd c1 ?_;clear c1;go_wp2_with fail
     refine Fd c2 ?_;clear c2;go_wp2;go_ret;exact⟨af (by rw[HX.out]),rfl⟩
def hdA (v:Value) (h:Hd):Array Value:=#[v,.int .i64 h.kd,.int .i64 h.ho,.int .i64 h.tu]
def HV (v:Value) (h:Hd):Value:=.agg (hdA v h)
theorem GJ:IsS 37 4:=⟨⟨_,Tryz.underlying37⟩,by kernel_rfl⟩
def HdB (w:World) (g:Nat) (t:TypeId) (v:Value) (h:Hd):Prop:=StB w g t (hdA v h)/\ag w v h.ks
theorem HdB.new {w:World} {v:Value} {h:Hd} (t:TypeId) (hr:ag w v h.ks):HdB (w.alloc (.cells (hdA v h) t)) w.heap.size t v h:=
 ⟨StB.new w t _,hr.below Fc (Nat.le_refl _)⟩
theorem HdB.below {w w':World} {g:Nat} {t:TypeId} {v:Value} {h:Hd} (k:HdB w g t v h) (hb:iO w w'):HdB w' g t v h:=⟨k.1.below hb,k.2.below hb (Nat.le_refl _)⟩
theorem HdB.alloc {w:World} {g:Nat} {t:TypeId} {v:Value} {h:Hd} (k:HdB w g t v h) (o:Obj):HdB (w.alloc o) g t v h:=k.below Fc
theorem HdB.drewN {w:World} {g:Nat} {t:TypeId} {v:Value} {h:Hd} (k:HdB w g t v h) (n:Nat):HdB (w.drewN n) g t v h:=k.below (below_drewN (Below.refl _ _) n)
theorem uO (k:Int) (w:World):
  Calls Tryz.prog 55 #[.int .i64 k] w fun e w'=>e=.returned (.bool (inI k 0 3))/\w'=w:=by
 have c1:=aM k 0 3 w;go_enter Tryz.func55,Tryz.ntmps55;go_wp2_with fail
 refine Fd c1 ?_;clear c1;go_wp2_with fail
 go_ret;exact⟨rfl,rfl⟩
theorem qI (v:Value) (h:Hd) (w:World) (hr:ag w v h.ks) (hl:h.ks.length<=1099511627776):
  Calls Tryz.prog 86 #[HV v h] w fun e w'=>e=.returned (.bool (eE h.ks))/\iO w w':=by
 obtain⟨ao,cap,rfl⟩:=aa hr;obtain⟨w1,hw1⟩:=Fe (w.alloc (.cells (hdA (.slice ao h.ks.length cap) h) 37))
 have H1:HdB w1 w.heap.size 37 (.slice ao h.ks.length cap) h:=by rw[hw1];exact HdB.new _ hr
 have HB:Hid (iO w w1):=by rw[hw1];exact Fc
 have HW:Hid (w1=w.alloc (.cells #[.slice ao h.ks.length cap,.int .i64 h.kd,.int .i64 h.ho,.int .i64 h.tu] 37)):=hw1;have k0:w1.cell? ⟨w.heap.size,0,none⟩=some (.slice ao h.ks.length cap):=H1.1.cell 0 rfl;obtain⟨-,hc1,hc2,hcell⟩:=aL H1.2;obtain⟨n,hn⟩:=Fe h.ks.length
 rw[<-hn]at hl k0 hc1 hcell HW;unfold HV hdA;rw[<-hn];have HN:Hid (n=h.ks.length):=hn;unfold maxLen at hc2;clear hw1 H1 hr hn;go_enter Tryz.func86,Tryz.ntmps86;go_wp2;rw[<-HW.out];go_loop [3] (fun i=>∃j:Nat,j<=n/\i=.int .i64 j/\Hid (eE (h.ks.take j)=false)) (fun i=>n-(intOf i).toNat)
 case atStart=>exact⟨0,Nat.zero_le _,rfl,by simp[Hid,eE]⟩
 case round=>
  obtain⟨j,hj,rfl,HT⟩:=hrel;by_cases hlt:(j:Int)<(n:Int)
  ·obtain⟨b,off,rfl,hcj⟩:=hcell j Ff
   clear hcell;have hjl:j<h.ks.length:=by have:=HN.out;omega
   have HA:Hid (h.ks.getD j 0≠0->eE h.ks=true):=rJ h.ks j hjl;have HZ:Hid (h.ks.getD j 0=0->eE (h.ks.take (j+1))=false):=AF h.ks j hjl HT.out;obtain⟨x,hx⟩:=Fe (h.ks.getD j 0)
   rw[<-hx]at hcj HA HZ;clear hx hjl;by_cases h0:x=0
   ·go_wp2
    go_round
    case rel=>exact⟨j+1,by omega,by go_num,HZ.out h0⟩
    case measure=>simp[intOf];omega
   ·have hne:(x !=0)=true:=by simpa using h0
    go_wp2;go_ret;rw[HA.out h0];exact⟨rfl,HB.out⟩
  ·have HE:Hid (eE h.ks=false):=by
    have:=HT.out
    rwa[List.take_of_length_le (by have:=HN.out;omega)]at this
   go_wp2;go_ret;rw[HE.out];exact⟨rfl,HB.out⟩
theorem uP (v:Value) (h:Hd) (w:World) (hr:ag w v h.ks) (hl:h.ks.length<=1099511627776):
  Calls Tryz.prog 46 #[HV v h] w fun e w'=>e=.returned (.bool h.ok)/\iO w w':=by
 have HE:Hid (h.ok=(decide (h.ks.length=4)&&inI h.tu 0 1000000000&&ey h.ks&&h.mid)):=rfl;have HM:Hid (h.mid=if h.kd=0 then decide (h.ho= -1)else if bY h.kd then decide (h.ho= -1)&&eE h.ks else kiI h.kd&&inI h.ho 0 3&&dT h.ks h.ho):=rfl;obtain⟨ao,cap,rfl⟩:=aa hr;obtain⟨w1,hw1⟩:=Fe (w.alloc (.cells (hdA (.slice ao h.ks.length cap) h) 37))
 have H1:HdB w1 w.heap.size 37 (.slice ao h.ks.length cap) h:=by rw[hw1];exact HdB.new _ hr
 have HB:Hid (iO w w1):=by rw[hw1];exact Fc
 have HW:Hid (w1=w.alloc (.cells #[.slice ao h.ks.length cap,.int .i64 h.kd,.int .i64 h.ho,.int .i64 h.tu] 37)):=hw1;have k0:w1.cell? ⟨w.heap.size,0,none⟩=some (.slice ao h.ks.length cap):=H1.1.cell 0 rfl;have k1:w1.cell? ⟨w.heap.size,1,none⟩=some (.int .i64 h.kd):=H1.1.cell 1 rfl;have k2:w1.cell? ⟨w.heap.size,2,none⟩=some (.int .i64 h.ho):=H1.1.cell 2 rfl;have k3:w1.cell? ⟨w.heap.size,3,none⟩=some (.int .i64 h.tu):=H1.1.cell 3 rfl;obtain⟨-,hc1,hc2,hcell⟩:=aL H1.2;have ct:=fun wx=>aM h.tu 0 1000000000 wx
 have ck:=fun x wx=>mm x wx
 have cf:=fun wx=>iA h.kd wx
 have ca:=fun wx=>qI (.slice ao h.ks.length cap) h wx
 have ci:=fun wx=>mn h.kd wx
 have cw:=fun wx=>uO h.ho wx
 have HR:Hid (ag w1 (.slice ao h.ks.length cap) h.ks):=H1.2;have HREG:Hid (dT h.ks h.ho=decide (h.ks.getD h.ho.toNat 0≠0)):=rfl;obtain⟨bt,hbt⟩:=Fe (inI h.tu 0 1000000000)
 obtain⟨bf,hbf⟩:=Fe (bY h.kd)
 obtain⟨bi,hbi⟩:=Fe (kiI h.kd)
 obtain⟨bw,hbw⟩:=Fe (inI h.ho 0 3)
 have HWR:Hid (bw=true->0<=h.ho/\h.ho<=3):=fun e=>(aE _ _ _).1 (by rw[<-hbw,e])
 rw[<-hbt]at HE;rw[<-hbf,<-hbi,<-hbw]at HM;simp only[<-hbt]at ct;simp only[<-hbf]at cf;simp only[<-hbi]at ci;simp only[<-hbw]at cw;obtain⟨x,hx⟩:=Fe h.ok
 rw[<-hx]at HE⊢;obtain⟨n,hn⟩:=Fe h.ks.length
 rw[<-hn]at hl k0 hc1 hcell HW HE HR;simp only[<-hn]at ca;unfold HV hdA at ca;unfold HV hdA;rw[<-hn];have Hca:Hid _:=ca;have HN:Hid (n=h.ks.length):=hn;unfold maxLen at hc2;clear hw1 H1 hr hn hx hbt hbf hbi hbw ca;by_cases hn4:(n:Int)=4
 case neg=>
  have HX:Hid (x=false):=by rw[Hid,HE.out,show decide (n=4)=false by simp;omega];rfl
  have hne:((n:Int) !=4)=true:=by simpa using hn4
  clear hcell;go_enter Tryz.func46,Tryz.ntmps46;go_wp2;rw[<-HW.out];go_ret;rw[HX.out];exact⟨rfl,HB.out⟩
 obtain rfl:n=4:=by omega
 cases bt with
 |false=>
  have HX:Hid (x=false):=by rw[Hid,HE.out];rfl
  clear hcell;go_enter Tryz.func46,Tryz.ntmps46;go_wp2_with fail
  rw[<-HW.out];refine Fd (ct _) ?_;go_wp2;go_ret;rw[HX.out];exact⟨rfl,HB.out⟩
 |true=>
  have HY:Hid (x=(ey h.ks&&h.mid)):=by rw[Hid,HE.out];simp
  clear HE;go_enter Tryz.func46,Tryz.ntmps46;go_wp2_with fail
  rw[<-HW.out];refine Fd (ct _) ?_;clear ct HW;go_wp2;go_loop [3] (fun i=>∃j:Nat,(j:Int)<=4/\i=.int .i64 j/\Hid (ey (h.ks.take j)=true)) (fun i=>4-(intOf i).toNat)
  case atStart=>exact⟨0,by omega,rfl,by simp[Hid,ey]⟩
  case round=>
   obtain⟨j,hj,rfl,HT⟩:=hrel;by_cases hlt:(j:Int)<4
   ·obtain⟨b,off,rfl,hcj⟩:=hcell j Ff
    clear hcell;have hjl:j<h.ks.length:=by have:=HN.out;omega
    have HA:Hid (inI (h.ks.getD j 0) 0 9999=false->ey h.ks=false):=tj h.ks j hjl;have HZ:Hid (inI (h.ks.getD j 0) 0 9999=true->ey (h.ks.take (j+1))=true):=qh h.ks j hjl HT.out;have ckj:=fun wx=>ck (h.ks.getD j 0) wx
    obtain⟨y,hy⟩:=Fe (h.ks.getD j 0)
    rw[<-hy]at hcj HA HZ;simp only[<-hy]at ckj;obtain⟨by1,hby⟩:=Fe (inI y 0 9999)
    rw[<-hby]at HA HZ;simp only[<-hby]at ckj;clear hy hjl hby ck;go_wp2_with fail
    refine Fd (ckj _) ?_;cases by1 with
    |true=>
     have HZ2:Hid (ey (h.ks.take (j+1))=true):=HZ.out rfl;clear HZ HA;go_wp2
     go_round
     case rel=>exact⟨j+1,by omega,by go_num,HZ2.out⟩
     case measure=>simp[intOf];omega
    |false=>
     have HX:Hid (x=false):=by rw[Hid,HY.out,HA.out rfl];rfl
     clear HZ HA;go_wp2;go_ret;rw[HX.out];exact⟨rfl,HB.out⟩
   ·have HK:Hid (x=h.mid):=by
     have:=HT.out;rw[List.take_of_length_le (by have:=HN.out;omega)]at this;rw[Hid,HY.out,this];rfl
    clear HY HT ck;by_cases hk0:h.kd=0
    ·have HX:Hid (x=decide (h.ho= -1)):=by rw[Hid,HK.out,HM.out,if_pos hk0]
     clear HK HM Hca cf ci cw hcell;by_cases hm1:h.ho= -1
     ·go_wp2
      go_ret;exact⟨af (by rw[HX.out];simp[hm1]),HB.out⟩
     ·go_wp2
      go_ret;exact⟨af (by rw[HX.out];simp[hm1]),HB.out⟩
    ·cases bf with
     |true=>
      have HX:Hid (x=(decide (h.ho= -1)&&eE h.ks)):=by rw[Hid,HK.out,HM.out,if_neg hk0,if_pos rfl]
      clear HK HM ci cw hcell;go_wp2_with fail
      refine Fd (cf _) ?_;clear cf;by_cases hm1:h.ho= -1
      ·have HX2:Hid (x=eE h.ks):=by rw[Hid,HX.out];simp[hm1]
       have ca:=Hca.out w1 HR.out (by have:=HN.out;omega);rw[hm1]at ca;clear HX Hca;go_wp2_with fail
       refine ca.mono ?_;rintro e w2 ⟨rfl,b2⟩;go_wp2;go_ret;rw[HX2.out];exact⟨rfl,HB.out.trans (b2.mono HB.out.size)⟩
      ·have HX2:Hid (x=false):=by rw[Hid,HX.out];simp[hm1]
       clear HX Hca;go_wp2;go_ret;exact⟨af (by rw[HX2.out]),HB.out⟩
     |false=>
      have HX:Hid (x=(bi&&bw&&dT h.ks h.ho)):=by rw[Hid,HK.out,HM.out,if_neg hk0,if_neg Fh]
      clear HK HM Hca;go_wp2_with fail
      refine Fd (cf _) ?_;clear cf;go_wp2_with fail
      refine Fd (ci _) ?_;clear ci;cases bi with
      |false=>
       go_wp2;go_ret;exact⟨af (by rw[HX.out];rfl),HB.out⟩
      |true=>
       go_wp2_with fail
       refine Fd (cw _) ?_;clear cw;cases bw with
       |false=>
        go_wp2;go_ret;exact⟨af (by rw[HX.out];rfl),HB.out⟩
       |true=>
        obtain⟨hw0,hw3⟩:=HWR.out rfl;obtain⟨b,off,rfl,hcj⟩:=hcell h.ho.toNat Ff;have HX2:Hid (x=decide (h.ks.getD h.ho.toNat 0≠0)):=by rw[Hid,HX.out,HREG.out];rfl
        obtain⟨y,hy⟩:=Fe (h.ks.getD h.ho.toNat 0)
        rw[<-hy]at hcj HX2;clear hcell hy HX HREG;have hoc:((h.ho.toNat:Nat):Int)=h.ho:=by omega
        by_cases hy0:y=0
        ·go_wp2
         go_ret;exact⟨af (by rw[HX2.out];simp[hy0]),HB.out⟩
        ·have hyn:(y !=0)=true:=by simpa using hy0
         go_wp2;go_ret;exact⟨af (by rw[HX2.out];simp[hy0]),HB.out⟩
def srA (a b k:Value) (h:Hd):Array Value:=#[a,b,k,.int .i64 h.kd,.int .i64 h.ho,.int .i64 h.tu]
def SRV (a b k:Value) (h:Hd):Value:=.agg (srA a b k h)
structure Sr where
 xs:List Int
 ys:List Int
 h:Hd
def Sr.zero:Sr:=⟨[],[],Hd.zero⟩
def Sr.ok (s:Sr):Bool:=au s.xs s.ys&&s.h.ok
def iV (r:Hd×Bool):Hd×An:=(r.1,if r.2 then⟨0,[]⟩else⟨3,[]⟩)
def Hd.act (h:Hd) (who:Int) (c:Cm):Hd×An:=
 if c.o=6 then(h.regd who c.a,⟨0,[]⟩)
 else if c.o=7 then iV (h.resd who c.k)
 else if c.o=8 then iV (h.reld who)
 else if c.o=9 then iV (h.clrd who)
 else if c.o=10 then(if c.a=0 then(h,⟨1,[]⟩)else iV (h.pred who c.a c.k))
 else if c.o=11 then(h,⟨0,h.keysT⟩)
 else(h,⟨0,h.holdT⟩)
def Sr.doing (s:Sr) (who:Int) (c:Cm):Sr×An:=
 if 5<c.o then(⟨s.xs,s.ys,(s.h.act who c).1⟩,(s.h.act who c).2)
 else if s.h.may who (decide (c.o≠1))then(⟨(bC s.xs s.ys c).1,(bC s.xs s.ys c).2.1,s.h⟩,(bC s.xs s.ys c).2.2)
 else(s,⟨3,[]⟩)
def Sr.did (s:Sr) (who:Int) (c:Cm):Sr×An:=
 if s.ok then(if inI who 0 3&&c.ok then s.doing who c else(s,⟨7,[]⟩))else(Sr.zero,⟨7,[]⟩)
section
open Go.RowKit
end
section
open Go.RowKit
theorem rl {ks:List Int}:eE ks=true↔∃j,j<ks.length/\ks.getD j 0≠0:=by
 constructor
 ·intro h
  unfold eE at h;obtain⟨x,hx,h0⟩:=List.any_eq_true.1 h;obtain⟨j,hj,rfl⟩:=List.getElem_of_mem hx;exact⟨j,hj,by simpa[hj]using h0⟩
 ·rintro⟨j,hj,h⟩
  exact rJ ks j hj h
theorem kE {ks:List Int}:ey ks=true↔∀j,j<ks.length->0<=ks.getD j 0/\ks.getD j 0<=9999:=by
 constructor
 ·intro h j hj
  unfold ey at h;have:=List.all_eq_true.1 h ks[j] (List.getElem_mem hj);rw[aE]at this;simpa[hj]using this
 ·intro h
  unfold ey;rw[List.all_eq_true];intro x hx;obtain⟨j,hj,rfl⟩:=List.getElem_of_mem hx;have:=h j hj;rw[aE];simpa[hj]using this
theorem fP {h:Hd}:h.mid=true↔(h.kd=0/\h.ho= -1)∨(h.kd≠0/\bY h.kd=true/\h.ho= -1/\eE h.ks=true)∨(h.kd≠0/\bY h.kd=false/\kiI h.kd=true/\(0<=h.ho/\h.ho<=3)/\h.ks.getD h.ho.toNat 0≠0):=by
 unfold Hd.mid dT;by_cases h0:h.kd=0
 ·simp[h0]
 ·cases ha:bY h.kd
  ·simp[h0,Bool.and_eq_true,aE,and_assoc]
  ·simp[h0]
theorem ok_iff {h:Hd}:h.ok=true↔h.ks.length=4/\(0<=h.tu/\h.tu<=1000000000)/\ey h.ks=true/\h.mid=true:=by
 unfold Hd.ok;simp[Bool.and_eq_true,aE,and_assoc]
theorem iq {ks:List Int} {j m:Nat} {x:Int} (hj:j<ks.length):(ks.set j x).getD m 0=if m=j then x else ks.getD m 0:=by
 by_cases e:m=j
 ·subst e;simp[hj]
 ·rw[if_neg e]
  simp only[List.getD_eq_getElem?_getD];rw[List.getElem?_set_ne (Ne.symm e)]
theorem BW (h:Hd) (i key:Int):(h.regd i key).ks=h.ks.set i.toNat key:=by
 unfold Hd.regd;split<;>rfl
theorem BX (h:Hd) (i key:Int):(h.regd i key).tu=cM h.tu:=by
 unfold Hd.regd;split<;>rfl
theorem BY {h:Hd} (ok:h.ok=true) {i key:Int} (hi:0<=i/\i<=3) (hk:0<=key/\key<=9999):(h.regd i key).ok=true/\((h.regd i key).kd=h.kd∨key=0/\(h.regd i key).kd=0):=by
 obtain⟨hl,ht,hks,hm⟩:=ok_iff.1 ok;have hi4:i.toNat<h.ks.length:=by omega
 have hany:key≠0->eE (h.ks.set i.toNat key)=true:=fun hk0=>rl.2 ⟨i.toNat,by simpa using hi4,by rw[iq hi4,if_pos rfl];exact hk0⟩
 have hkeys:ey (h.ks.set i.toNat key)=true:=kE.2 fun j hj=>by
  rw[iq hi4];split
  ·exact hk
  ·exact kE.1 hks j (by simpa using hj)
 have htu:=sF h.tu ht.1 ht.2;constructor
 ·rw[ok_iff,BW,BX]
  refine⟨by simpa using hl,htu,hkeys,?_⟩;unfold Hd.regd;split
  ·rw[fP];exact .inl ⟨rfl,rfl⟩
  ·rename_i c
   rw[fP];simp only[Hd.turn,Hd.key];rcases fP.1 hm with m|m|m
   ·exact .inl m
   ·refine .inr (.inl ⟨m.1,m.2.1,m.2.2.1,?_⟩)
    by_cases hk0:key=0
    ·cases ha:eE (h.ks.set i.toNat key)
     ·exact absurd ⟨hk0,.inr ha⟩ c
     ·rfl
    ·exact hany hk0
   ·refine .inr (.inr ⟨m.1,m.2.1,m.2.2.1,m.2.2.2.1,?_⟩)
    rw[iq hi4];split
    ·rename_i e
     intro hk0;exact c ⟨hk0,.inl (by have:=m.2.2.2.1;omega)⟩
    ·exact m.2.2.2.2
 ·unfold Hd.regd
  split
  ·rename_i c;exact .inr ⟨c.1,rfl⟩
  ·exact .inl rfl
end
section
open Go.RowKit
theorem vp {k:Int} (h:kiI k=true):k≠0:=by intro e;subst e;exact absurd h Fh
theorem BZ {h:Hd} (ok:h.ok=true) {i k:Int} (hi:0<=i/\i<=3) (hr:h.ks.getD i.toNat 0≠0) (hk:kiI k=true):(h.take i k).ok=true:=by
 obtain⟨hl,ht,hks,hm⟩:=ok_iff.1 ok;rw[ok_iff];refine⟨hl,ht,hks,?_⟩;rw[fP];unfold Hd.take;have h0:=vp hk;cases ha:bY k
 ·refine .inr (.inr ⟨h0,rfl,hk,?_,?_⟩)
  ·simpa using hi
  ·simpa using hr
 ·refine .inr (.inl ⟨h0,rfl,by simp,rl.2 ⟨i.toNat,by simp;omega,hr⟩⟩)
theorem Af {h:Hd} {i k:Int} (ok:(h.take i k).ok=true) (hi:inI i 0 3=true) (hr:dT h.ks i=true) (hk:kiI k=true):(h.take i k).Hol i=true:=by
 unfold Hd.Hol Hd.holds;rw[ok,hi];have h0:=vp hk;cases ha:bY k
 ·simp[Hd.take,h0,ha]
 ·simp[Hd.take,h0,ha,hr]
theorem rm {h:Hd} {i:Int}:dT h.ks i=true↔h.ks.getD i.toNat 0≠0:=by simp[dT]
theorem vq (ks:List Int) (i:Nat) (key:Int) (n m:Nat) (hn:n<=ks.length) (hm:m<n):(cA ks i key n).getD m 0=if m≠i/\ks.getD m 0=key then 0 else ks.getD m 0:=by
 induction n with
 |zero=>omega
 |succ n ih=>
  by_cases e:m=n
  ·subst e
   unfold cA;split
   ·rw[iq (by rw[jW];omega),if_pos rfl]
   ·exact pU _ _ _ _ _ (Nat.le_refl _)
  ·have:=ih Ff Ff
   unfold cA;split
   ·rw[iq (by rw[jW];omega),if_neg e,this]
   ·exact this
theorem pr (h:Hd) (i key k:Int):h.preempt i key k=(Hd.zero,2)∨h.preempt i key k=(h,1)∨
  (∃x,h.preempt i key k=(x,0)/\x.ks.length=4/\h.ks.length=4/\(∀m,m<4->x.ks.getD m 0=if(m:Int)≠i/\h.ks.getD m 0=key then 0 else h.ks.getD m 0)/\
   (h.kd≠0->0<=h.ho->h.ho<=3/\(h.ks.getD h.ho.toNat 0=key->x.Hol i=true/\x.kd=k))/\(h.kd=0->x.kd=0)/\(h.kd≠0->x.kd≠0)/\x.ok=true/\x.Reg i=true):=by
 unfold Hd.preempt;by_cases c:(h.ok&&inI i 0 3&&inI key 1 9999&&kiI k)=true
 ·rw[if_pos c]
  simp only[Bool.and_eq_true]at c;obtain⟨⟨⟨ok,hin⟩,hkey⟩,hk⟩:=c;have hi:=(aE _ _ _).1 hin;have hky:=(aE _ _ _).1 hkey;have hk0:=vp hk;obtain⟨hl,ht,hks,hm⟩:=ok_iff.1 ok;by_cases hrf:(dT h.ks i&&has h.ks key 4)=false
  ·refine .inr (.inl ?_)
   unfold Hd.pred;rw[if_pos hrf];rfl
  ·have hr:dT h.ks i=true:=by
    cases hx:dT h.ks i
    ·rw[hx]at hrf;exact absurd rfl hrf
    ·rfl
   have hri:=rm.1 hr;obtain⟨h4,hh4⟩:∃h4:Hd,h4=Hd.turn ⟨cA h.ks i.toNat key 4,h.kd,h.ho,h.tu⟩:=⟨_,rfl⟩
   have h4ks:h4.ks=cA h.ks i.toNat key 4:=by rw[hh4];rfl
   have h4kd:h4.kd=h.kd:=by rw[hh4];rfl
   have h4ho:h4.ho=h.ho:=by rw[hh4];rfl
   have h4tu:h4.tu=cM h.tu:=by rw[hh4];rfl
   have hg:∀m,m<4->h4.ks.getD m 0=if m≠i.toNat/\h.ks.getD m 0=key then 0 else h.ks.getD m 0:=fun m hm=>by
    rw[h4ks];exact vq _ _ _ _ _ Ff hm
   have hl4:h4.ks.length=4:=by rw[h4ks,jW];exact hl
   have hr4:h4.ks.getD i.toNat 0≠0:=by
    rw[hg i.toNat Ff,if_neg (fun e=>e.1 rfl)];exact hri
   have hks4:ey h4.ks=true:=kE.2 fun j hj=>by
    rw[hg j Ff];split
    ·omega
    ·exact kE.1 hks j Ff
   have htu4:=sF h.tu ht.1 ht.2;have hgi:∀m,m<4->h4.ks.getD m 0=if(m:Int)≠i/\h.ks.getD m 0=key then 0 else h.ks.getD m 0:=fun m hm=>by
    rw[hg m hm];have:m≠i.toNat↔(m:Int)≠i:=by omega
    simp only[this]
   have hany4:eE h4.ks=true:=rl.2 ⟨i.toNat,by omega,hr4⟩;have ho:h.kd≠0->0<=h.ho->bY h.kd=false/\h.ho<=3:=by
    intro e1 e2;rcases fP.1 hm with m|m|m
    ·exact absurd m.1 e1
    ·omega
    ·exact⟨m.2.1,m.2.2.2.1.2⟩
   by_cases ht':(h.alone key||(bY h.kd&& !ip h.ks i.toNat key 4))=true
   ·have e:h.pred i key k=(h4.take i k,true):=by
     unfold Hd.pred;rw[if_neg hrf,if_pos ht',hh4]
    rw[e];have hkd:h.kd≠0:=by
     intro e0;rw[Hd.alone,e0]at ht';exact absurd ht' (by simp[show bY 0=false from rfl])
    have tok:(h4.take i k).ok=true:=by
     rw[ok_iff];refine⟨hl4,by rw[show(h4.take i k).tu=h4.tu from rfl,h4tu];exact htu4,hks4,?_⟩;rw[fP];unfold Hd.take;cases ha:bY k
     ·exact .inr (.inr ⟨hk0,rfl,hk,by simpa using hi,by simpa using hr4⟩)
     ·exact .inr (.inl ⟨hk0,rfl,by simp,hany4⟩)
    have hr4':dT h4.ks i=true:=(rm (h:=h4)).2 hr4;refine .inr (.inr ⟨h4.take i k,rfl,hl4,hl,hgi,fun e1 e2=>⟨(ho e1 e2).2,fun _=>⟨Af tok hin hr4' hk,rfl⟩⟩,fun e0=>absurd e0 hkd,fun _=>hk0,tok,?_⟩);unfold Hd.Reg;rw[tok,hin];exact hr4'
   ·have e:h.pred i key k=(h4,true):=by
     unfold Hd.pred;rw[if_neg hrf,if_neg ht',hh4]
    rw[e];have hal:h.alone key=false:=by
     cases hx:h.alone key
     ·rfl
     ·rw[hx]at ht';exact absurd rfl ht'
    have hok4:h4.ok=true:=by
     rw[ok_iff];refine⟨hl4,by rw[h4tu];exact htu4,hks4,?_⟩;rw[fP,h4kd,h4ho];rcases fP.1 hm with m|m|m
     ·exact .inl m
     ·exact .inr (.inl ⟨m.1,m.2.1,m.2.2.1,hany4⟩)
     ·refine .inr (.inr ⟨m.1,m.2.1,m.2.2.1,m.2.2.2.1,?_⟩)
      rw[hg h.ho.toNat (by have:=m.2.2.2.1;omega)];have:h.ks.getD h.ho.toNat 0≠key:=by
       intro e1;rw[Hd.alone,e1]at hal;simp[m.1,m.2.1]at hal
      rw[if_neg (fun e=>this e.2)];exact m.2.2.2.2
    refine .inr (.inr ⟨h4,rfl,hl4,hl,hgi,fun e1 e2=>⟨(ho e1 e2).2,fun e3=>?_⟩,fun e0=>by rw[h4kd];exact e0,fun e0=>by rw[h4kd];exact e0,hok4,?_⟩)
    ·rw[Hd.alone,e3,(ho e1 e2).1]at hal
     simp[e1]at hal
    ·unfold Hd.Reg
     rw[hok4,hin];exact(rm (h:=h4)).2 hr4
 ·rw[if_neg c];exact .inl rfl
end
section
open Go.ChangeShapes Go.WideShapes Go.ChangeAt Go.RowKit
end
def Du (p:Nat->Bool):Nat->Nat->Nat
 |0,k=>k
 |f+1,k=>if p k then k else Du p f (k+1)
def Dv (p:Nat->Bool) (k:Nat):Nat:=Du p (8-k) k
def Ew (s:Int):Nat->Bool:=fun j=>inB s j
def fM (s:Int):Int:=if Dv (Ew s) 0=8 then-1 else Dv (Ew s) 0
section
open Go.RowKit
theorem pi:∀n:Nat,n<256->∀i:Nat,i<8->(cv n i).toNat<256/\0<=cv n i/\∀k:Nat,k<8->inN (cv n i).toNat k=(inN n k||k==i):=by decide+kernel
theorem Dc {s k:Int} (h:inB s k=true):0<=s/\s<256/\0<=k/\k<8:=by
 simp[inB,mX,il]at h;omega
theorem vj {s i:Int} (h0:0<=s) (h1:s<256):0<=cv s i:=by
 by_cases hi:0<=i/\i<8
 ·obtain⟨n,rfl⟩:=dM h0
  obtain⟨j,rfl⟩:=dM hi.1;exact(pi n Ff j Ff).2.1
 ·rw[eM h0 h1 Ff];exact h0
theorem Dd {s i:Int} (h0:0<=s) (h1:s<256) (k:Int):inB (cv s i) k=(inB s k||(k==i&&decide (0<=i)&&decide (i<8))):=by
 by_cases hi:0<=i/\i<8
 ·obtain⟨n,rfl⟩:=dM h0
  obtain⟨j,rfl⟩:=dM hi.1;have a:=pi n Ff j Ff;by_cases hk:0<=k/\k<8
  ·obtain⟨m,rfl⟩:=dM hk.1
   rw[ie a.2.1 Ff hk.1 hk.2,ie h0 h1 hk.1 hk.2];have:=a.2.2 m Ff;simp only[Int.toNat_natCast]at this⊢;rw[this];have e:((m:Int)==(j:Int))=(m==j):=by
    rw[Bool.eq_iff_iff];simp;omega
   rw[e];simp[hi.2]
  ·rw[gU Ff,gU Ff]
   have:(k==(j:Int))=false:=by simp;omega
   simp[this]
 ·rw[eM h0 h1 Ff]
  have:(decide (0<=i)&&decide (i<8))=false:=by simp;omega
  rw[Bool.and_assoc,this];simp
end
section
open Go.RowKit
end
def wrK (xs ys:List Int):List Int:=if au xs ys then xs else[]
def wrN (xs ys:List Int) (i x:Int):List Int:=if au xs ys then eV ys i x else[]
def wrB (xs ys:List Int) (i x:Int):Bool:=au xs ys&&fy ys i x
def flN (xs ys:List Int):List Int:=if au xs ys then ys else[]
theorem sw (w:World) (base:Nat):aV w base (.slice none 0 0) (.slice none 0 0) [] []:=⟨Own.nil w base,Own.nil w base,.inl rfl,.inl rfl⟩
theorem cN.kept {w wx wy:World} {u v:Value} {h:Nat} (H:cN w wx u v) (g:wx.grownBy wy (some h)) (hh:w.heap.size+2<=h):cN w wy u v:=
 ⟨H.1.kept g (by simp;omega),H.2.1.kept g (by simp;omega),H.2.2.1.grown g H.2.2.1.size (fun k e=>by cases e;omega),Nat.le_trans H.2.2.2 g.size⟩
theorem Own.keptNew {w w':World} {base:Nat} {v:Value} {xs:List Int} (h:Own w base v xs) (g:w.grownBy w' (some w.heap.size)):Own w' base v xs:=
 h.kept g (by
  by_cases e:v.ownBlock=none
  ·exact .inl e
  ·refine .inr fun e2=>?_
   have:=h.lt _ e2;omega)
theorem cN.alloc {w wx:World} {u v:Value} (H:cN w wx u v) (o:Obj):cN w (wx.alloc o) u v:=H.below (be wx o)
theorem Own.ltBlock {w:World} {base:Nat} {v:Value} {xs:List Int} {g n cap:Nat} (h:Own w base v xs) (e:v=.slice (some ⟨g,0,none⟩) n cap):base<=g/\g<w.heap.size:=h.lt g (by rw[e];rfl)
theorem ut {xs ys:List Int} (h:au xs ys=true):au ys ys=true:=by
 have:=(fR h).2.1;simp[au,this]
theorem D8 {xs ys:List Int} {i x:Int} (h:au xs ys=true) (hp:ex ys i x=true):au xs (ys.set i.toNat x)=true:=by
 obtain⟨h1,h2,h3⟩:=fR h;have hv:bJ x=true:=by simp[ex]at hp;exact hp.2.2
 have hb:aK (ys.set i.toNat x)=true:=by
  simp only[aK,Bool.and_eq_true,List.all_eq_true,List.length_set]at h2⊢;refine⟨fun z hz=>?_,h2.2⟩;rcases List.mem_or_eq_of_mem_set hz with hz|rfl
  ·exact h2.1 z hz
  ·exact hv
 simp[au,h1,hb,h3]
theorem Ab {xs ys:List Int} {c:Cm} (hb:au xs ys=true) (h:(c.ok&&decide (c.o<=5))=false):dD xs ys c=(xs,ys,⟨7,[]⟩):=by
 unfold dD;rw[hb,h];simp
theorem BR {xs ys:List Int} {c:Cm} (hb:au xs ys=true) (h:(c.ok&&decide (c.o<=5))=true):dD xs ys c=bC xs ys c:=by
 unfold dD;rw[hb,h];simp
theorem Ac {xs ys:List Int} (c:Cm) (hb:au xs ys=true):
  (((dD xs ys c).2.2.st≠0∨c.rd=true)/\(dD xs ys c).1=xs/\(dD xs ys c).2.1=ys)∨
  ((dD xs ys c).2.2.st=0/\c.rd=false/\c.o=5/\(dD xs ys c).1=ys/\(dD xs ys c).2.1=ys)∨
  ((dD xs ys c).2.2.st=0/\c.rd=false/\c.o≠5/\∃(j:Nat) (z:Int),c.p=j/\j<ys.length/\bJ z=true/\(dD xs ys c).1=xs/\(dD xs ys c).2.1=ys.set j z/\(c.o=3->z=c.b/\ys.getD j 0=c.a)/\(c.o≠3->z=c.a)):=by
 cases h:(c.ok&&decide (c.o<=5))with
 |false=>
  left;rw[Ab hb h];exact⟨.inl Fg,rfl,rfl⟩
 |true=>
  rw[BR hb h];obtain⟨hk,h5⟩:c.ok=true/\c.o<=5:=by simpa using h
  obtain⟨ho,hp⟩:=Cm.ok_vol hk h5;obtain⟨o,p,x,y,k0⟩:=c;dsimp only at ho hp h5⊢;unfold bC;dsimp only;by_cases e5:o=5
  ·subst e5
   right;left;rw[if_pos rfl];exact⟨rfl,by simp[Cm.rd],rfl,rfl,rfl⟩
  ·rw[if_neg e5]
   by_cases hr:cX ys ⟨o,p,x,y,k0⟩=true
   ·rw[if_pos hr]
    left;exact⟨.inl Fg,rfl,rfl⟩
   ·rw[if_neg hr]
    simp only[cX,Bool.or_eq_true,Bool.and_eq_true,decide_eq_true_eq,Bool.not_eq_true',not_or,not_and,Bool.not_eq_false]at hr;obtain⟨⟨r1,r2⟩,r3⟩:=hr;by_cases e1:o=1
    ·subst e1
     left;rw[if_pos rfl];refine⟨.inr ?_,rfl,rfl⟩;unfold Cm.rd;rw[hk];rfl
    ·rw[if_neg e1]
     have hrd:(⟨o,p,x,y,k0⟩:Cm).rd=false:=by simp[Cm.rd,e1]
     have hj:p=(p.toNat:Int):=by omega
     have hjl:p.toNat<ys.length:=by omega
     by_cases e2:o=2
     ·subst e2
      right;right;rw[if_pos rfl];exact⟨rfl,hrd,e5,p.toNat,x,hj,hjl,r2 rfl,rfl,rfl,by simp,by simp⟩
     ·rw[if_neg e2]
      by_cases e3:o=3
      ·subst e3
       rw[if_pos rfl];by_cases ha:atI ys ⟨3,p,x,y,k0⟩=x
       ·rw[if_pos ha]
        right;right;exact⟨rfl,hrd,e5,p.toNat,y,hj,hjl,r3 rfl,rfl,rfl,fun _=>⟨rfl,ha⟩,by simp⟩
       ·rw[if_neg ha]
        left;exact⟨.inl Fg,rfl,rfl⟩
      ·rw[if_neg e3]
       right;right;have hx:x=0:=by
        have hk':=hk;unfold Cm.ok Cm.told at hk';dsimp only at hk';simp only[Bool.and_eq_true,Bool.or_eq_true,decide_eq_true_eq,aE]at hk';omega
       refine⟨rfl,hrd,e5,p.toNat,0,hj,hjl,rfl,rfl,rfl,fun e=>absurd e e3,fun _=>hx.symm⟩
theorem BT {xs ys:List Int} {j:Nat} {z:Int} (hb:au xs ys=true) (hj:j<ys.length) (hz:bJ z=true):au xs (ys.set j z)=true:=by
 have hp:ex ys (j:Int) z=true:=by simp[ex,hz];omega
 have:=D8 hb hp;simpa using this
end Go.Proofs.YthldeiojlllkdaaGreatDoor
