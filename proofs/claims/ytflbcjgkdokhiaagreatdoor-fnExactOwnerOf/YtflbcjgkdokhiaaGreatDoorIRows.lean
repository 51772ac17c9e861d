/- rowsOf, Differ and Chosen of the program answer what plain lists say. -/
import Derived.Test.YtflbcjgkdokhiaaGreatDoorM18
import Derived.ChangeKeysEq
import Derived.BigRegion
set_option maxRecDepth 20000
set_option maxHeartbeats 8000000
namespace Go.Proofs.YtflbcjgkdokhiaaGreatDoor
open Go.ChangeShapes Go.WideShapes Go.ChangeAt Go.RowKit
def fill8 (w:World) (g:Nat) (f:Nat→Int):World:=
 (((((((w.setCell ⟨g,0,none⟩ (.int .i64 (f 0))).setCell ⟨g,1,none⟩ (.int .i64 (f 1))).setCell ⟨g,2,none⟩ (.int .i64 (f 2))).setCell ⟨g,3,none⟩ (.int .i64 (f 3))).setCell ⟨g,4,none⟩ (.int .i64 (f 4))).setCell ⟨g,5,none⟩ (.int .i64 (f 5))).setCell ⟨g,6,none⟩ (.int .i64 (f 6))).setCell ⟨g,7,none⟩ (.int .i64 (f 7))
theorem Row.fill {w:World} {g:Nat} {old:Nat→Int} (h:Row w g old) (f:Nat→Int):Row (fill8 w g f) g f:=by
 have:=(((((((h.setCell 0 (by omega) (f 0)).setCell 1 (by omega) (f 1)).setCell 2 (by omega) (f 2)).setCell 3 (by omega) (f 3)).setCell 4 (by omega) (f 4)).setCell 5 (by omega) (f 5)).setCell 6 (by omega) (f 6)).setCell 7 (by omega) (f 7)
 exact Eq.trans this (congrArg (fun c=>some (Obj.cells c 149 (0,0))) (rowA_congr (eight rfl rfl rfl rfl rfl rfl rfl rfl)))
theorem Row.fill_other {w:World} {g k:Nat} {old:Nat→Int} (h:Row w g old) (f:Nat→Int) (hne:g≠k):Row (fill8 w k f) g old:=by
 unfold fill8
 exact(((((((h.other _ _ hne).other _ _ hne).other _ _ hne).other _ _ hne).other _ _ hne).other _ _ hne).other _ _ hne).other _ _ hne
theorem below_fill {B g:Nat} {w0 w:World} (h:Below B w0 w) (hB:B≤g) (f:Nat→Int):Below B w0 (fill8 w g f):=by
 unfold fill8
 exact(((((((h.setCell hB _).setCell hB _).setCell hB _).setCell hB _).setCell hB _).setCell hB _).setCell hB _).setCell hB _
theorem Row.drew {w:World} {g:Nat} {f:Nat→Int} (h:Row w g f):Row w.drew g f:=h
theorem filled {w w4:World} {H:Nat} (f g:Nat→Int) (hH:H=w.heap.size) (h:Below w.heap.size w w4∧Row w4 H (fun _=>0)∧Row w4 (H+1) (fun _=>0)):
  Row (((((((((((((((((w4.setCell ⟨H,0,none⟩ (.int .i64 (f 0))).setCell ⟨H,1,none⟩ (.int .i64 (f 1))).setCell ⟨H,2,none⟩ (.int .i64 (f 2))).setCell ⟨H,3,none⟩ (.int .i64 (f 3))).setCell ⟨H,4,none⟩ (.int .i64 (f 4))).setCell ⟨H,5,none⟩ (.int .i64 (f 5))).setCell ⟨H,6,none⟩ (.int .i64 (f 6))).setCell ⟨H,7,none⟩ (.int .i64 (f 7))).setCell ⟨(H+1),0,none⟩ (.int .i64 (g 0))).setCell ⟨(H+1),1,none⟩ (.int .i64 (g 1))).setCell ⟨(H+1),2,none⟩ (.int .i64 (g 2))).setCell ⟨(H+1),3,none⟩ (.int .i64 (g 3))).setCell ⟨(H+1),4,none⟩ (.int .i64 (g 4))).setCell ⟨(H+1),5,none⟩ (.int .i64 (g 5))).setCell ⟨(H+1),6,none⟩ (.int .i64 (g 6))).setCell ⟨(H+1),7,none⟩ (.int .i64 (g 7))).drew) H f∧Row (((((((((((((((((w4.setCell ⟨H,0,none⟩ (.int .i64 (f 0))).setCell ⟨H,1,none⟩ (.int .i64 (f 1))).setCell ⟨H,2,none⟩ (.int .i64 (f 2))).setCell ⟨H,3,none⟩ (.int .i64 (f 3))).setCell ⟨H,4,none⟩ (.int .i64 (f 4))).setCell ⟨H,5,none⟩ (.int .i64 (f 5))).setCell ⟨H,6,none⟩ (.int .i64 (f 6))).setCell ⟨H,7,none⟩ (.int .i64 (f 7))).setCell ⟨(H+1),0,none⟩ (.int .i64 (g 0))).setCell ⟨(H+1),1,none⟩ (.int .i64 (g 1))).setCell ⟨(H+1),2,none⟩ (.int .i64 (g 2))).setCell ⟨(H+1),3,none⟩ (.int .i64 (g 3))).setCell ⟨(H+1),4,none⟩ (.int .i64 (g 4))).setCell ⟨(H+1),5,none⟩ (.int .i64 (g 5))).setCell ⟨(H+1),6,none⟩ (.int .i64 (g 6))).setCell ⟨(H+1),7,none⟩ (.int .i64 (g 7))).drew) (H+1) g∧Below w.heap.size w (((((((((((((((((w4.setCell ⟨H,0,none⟩ (.int .i64 (f 0))).setCell ⟨H,1,none⟩ (.int .i64 (f 1))).setCell ⟨H,2,none⟩ (.int .i64 (f 2))).setCell ⟨H,3,none⟩ (.int .i64 (f 3))).setCell ⟨H,4,none⟩ (.int .i64 (f 4))).setCell ⟨H,5,none⟩ (.int .i64 (f 5))).setCell ⟨H,6,none⟩ (.int .i64 (f 6))).setCell ⟨H,7,none⟩ (.int .i64 (f 7))).setCell ⟨(H+1),0,none⟩ (.int .i64 (g 0))).setCell ⟨(H+1),1,none⟩ (.int .i64 (g 1))).setCell ⟨(H+1),2,none⟩ (.int .i64 (g 2))).setCell ⟨(H+1),3,none⟩ (.int .i64 (g 3))).setCell ⟨(H+1),4,none⟩ (.int .i64 (g 4))).setCell ⟨(H+1),5,none⟩ (.int .i64 (g 5))).setCell ⟨(H+1),6,none⟩ (.int .i64 (g 6))).setCell ⟨(H+1),7,none⟩ (.int .i64 (g 7))).drew):=by
 obtain⟨z1,z2,z3⟩:=h
 have HW0:Row (fill8 (fill8 w4 H f) (H+1) g) H f∧Row (fill8 (fill8 w4 H f) (H+1) g) (H+1) g∧Below w.heap.size w (fill8 (fill8 w4 H f) (H+1) g):=by
  refine⟨(z2.fill f).fill_other _ (by omega),(z3.fill_other f (by omega)).fill g,below_fill (below_fill z1 (by omega) _) (by omega) _⟩
 have HW:Row (fill8 (fill8 w4 H f) (H+1) g).drew H f∧Row (fill8 (fill8 w4 H f) (H+1) g).drew (H+1) g∧Below w.heap.size w (fill8 (fill8 w4 H f) (H+1) g).drew:=⟨HW0.1.drew,HW0.2.1.drew,HW0.2.2.drew⟩
 unfold fill8 at HW
 exact HW
theorem results_rows {fn:Func} {p q u:Tmp} (h:fn.results=#[.cell p 149,.cell q 149,.tmp u]) (tmps:Array Value) (w:World) (g k:Nat) (f f':Nat→Int) (x:Value)
  (hp:tmps.getD p undef=.pointer (some ⟨g,0,none⟩)) (hq:tmps.getD q undef=.pointer (some ⟨k,0,none⟩)) (hx:tmps.getD u undef=x) (hr:Row w g f) (hr':Row w k f'):
  (results fn tmps).run Tryz.prog w=.ok (.tuple #[.agg (rowA f),.agg (rowA f'),x]) w:=by
 have l1:=run_loadVar_row w g _ _ _ _ _ hr Tryz.under8 rfl (Tryz.info8 f)
 have l2:=run_loadVar_row w k _ _ _ _ _ hr' Tryz.under8 rfl (Tryz.info8 f')
 have hp':tmps[p]?.getD undef=.pointer (some ⟨g,0,none⟩):=by simpa using hp
 have hq':tmps[q]?.getD undef=.pointer (some ⟨k,0,none⟩):=by simpa using hq
 have hx':tmps[u]?.getD undef=x:=by simpa using hx
 simp only[results,h]
 simp[Sem.run_bind,Result.andThen,asAddr,hp',hq',hx',l1,l2]
theorem rowsOf_any (va vb:Value) (a b:List Int) (w:World) (ha:Reads w va a) (hb:Reads w vb b) (ga:a.length≤1099511627776) (gb:b.length≤1099511627776):
  Calls Tryz.prog 115 #[va,vb] w fun e w'=>e=.returned (.tuple #[.agg (rowA (rowF a)),.agg (rowA (rowF b)),.bool (bothOk a b)])∧Below w.heap.size w w':=by
 obtain⟨f,hf⟩:∃f,f=rowF a:=⟨_,rfl⟩
 obtain⟨g,hg⟩:∃f,f=rowF b:=⟨_,rfl⟩
 obtain⟨x,hx⟩:∃x,x=blocksOk a:=⟨_,rfl⟩
 obtain⟨y,hy⟩:∃y,y=blocksOk b:=⟨_,rfl⟩
 have c1:∀w',Reads w' va a→_:=fun w' h=>rowOf_any va a w' h ga
 have c2:∀w',Reads w' vb b→_:=fun w' h=>rowOf_any vb b w' h gb
 rw[←hf,←hg]
 simp only[←hf,←hg,←hx,←hy]at c1 c2
 have HB:Hid (bothOk a b=(x&&(y&&decide (a.length=b.length)))):=by rw[hx,hy];rfl
 clear hf hg hx hy
 obtain⟨w0,hw0⟩:∃w0,w0=(w.alloc (.cells (rowA fun _=>0) 149)).alloc (.cells (rowA fun _=>0) 149):=⟨_,rfl⟩
 have b0:Below w.heap.size w w0:=by rw[hw0];exact((Below.refl _ _).alloc (Nat.le_refl _) _).alloc (by simp) _
 have s0:w0.heap.size=w.heap.size+2:=by rw[hw0];simp
 have r0:Row w0 w.heap.size (fun _=>0):=by rw[hw0];exact(Row.new w _).alloc _
 have q0:Row w0 (w.heap.size+1) (fun _=>0):=by
  rw[hw0]
  have:=Row.new (w.alloc (.cells (rowA fun _=>0) 149)) (fun _=>0)
  simpa using this
 have k1:=c1 w0 (ha.below b0 (Nat.le_refl _))
 rw[hw0]at k1
 obtain⟨ao,ca,rfl⟩:=ha.form
 obtain⟨bo,cb,rfl⟩:=hb.form
 go_enter Tryz.func115,Tryz.ntmps115
 go_wp2_with fail
 refine k1.mono ?_
 rw[←hw0]
 rintro e w1 ⟨rfl,b1⟩
 clear hw0
 go_wp2_with (refine wpList_put8 rfl _ _ rfl w1.heap.size f rfl rfl (fun _=>0) (Row.new w1 fun _=>0) ?_)
 intro w2 r2 g2
 have b2:Below w.heap.size w w2:=((b0.trans (b1.mono b0.size)).alloc (Nat.le_trans b0.size b1.size) _).grown g2 (by simp;have:=b1.size;omega) (fun k e=>by cases e;have:=b1.size;omega)
 have r2a:Row w2 w.heap.size (fun _=>0):=((r0.below b1).alloc _).kept g2 (by have:=(r0.below b1).lt;simp;omega)
 have r2b:Row w2 (w.heap.size+1) (fun _=>0):=((q0.below b1).alloc _).kept g2 (by have:=(q0.below b1).lt;simp;omega)
 have n2:w.heap.size+2≤w1.heap.size:=by have:=b1.size;omega
 obtain⟨G7,hG7⟩:∃G,G=w1.heap.size:=⟨_,rfl⟩
 rw[←hG7]at r2 n2
 have k2:=c2 w2 (hb.below b2 (Nat.le_refl _))
 clear k1 c1 c2 b1 g2 r0 q0 b0 s0
 go_wp2_with fail
 refine k2.mono ?_
 rintro e w3 ⟨rfl,b3⟩
 go_wp2_with (refine wpList_put8 rfl _ _ rfl w3.heap.size g rfl rfl (fun _=>0) (Row.new w3 fun _=>0) ?_)
 intro w4 r4 g4
 have b4:Below w.heap.size w w4:=((b2.trans (b3.mono b2.size)).alloc (Nat.le_trans b2.size b3.size) _).grown g4 (by simp;have:=b3.size;have:=b2.size;omega) (fun k e=>by cases e;have:=b3.size;have:=b2.size;omega)
 have r4a:Row w4 w.heap.size (fun _=>0):=((r2a.below b3).alloc _).kept g4 (by have:=(r2a.below b3).lt;simp;omega)
 have r4b:Row w4 (w.heap.size+1) (fun _=>0):=((r2b.below b3).alloc _).kept g4 (by have:=(r2b.below b3).lt;simp;omega)
 have r4c:Row w4 G7 f:=((r2.below b3).alloc _).kept g4 (by have:=(r2.below b3).lt;simp;omega)
 have n4:G7<w3.heap.size:=(r2.below b3).lt
 obtain⟨G9,hG9⟩:∃G,G=w3.heap.size:=⟨_,rfl⟩
 rw[←hG9]at r4 n4
 rw[←hG7,←hG9]
 clear hG7 hG9 g4 b3 r2a r2b r2 b2 k2
 go_wp2
 obtain⟨H,hH⟩:∃H,H=w.heap.size:=⟨_,rfl⟩
 have HH:Hid (H=w.heap.size):=hH
 have HR:Hid (Below w.heap.size w w4∧Row w4 H (fun _=>0)∧Row w4 (H+1) (fun _=>0)):=⟨b4,hH▸r4a,hH▸r4b⟩
 rw[←hH]at n2 r4a r4b
 rw[←hH]
 clear hH b4
 have e1:G7≠H:=by omega
 have e2:G7≠H+1:=by omega
 have e3:G9≠H:=by omega
 have e4:G9≠H+1:=by omega
 have p0:=r4c.cell 0 (by omega)
 have q0:=r4.cell 0 (by omega)
 have s0:=r4a.cell 0 (by omega)
 have t0:=r4b.cell 0 (by omega)
 have u0:=r4a.frozen 0
 have v0:=r4b.frozen 0
 have p1:=r4c.cell 1 (by omega)
 have q1:=r4.cell 1 (by omega)
 have s1:=r4a.cell 1 (by omega)
 have t1:=r4b.cell 1 (by omega)
 have u1:=r4a.frozen 1
 have v1:=r4b.frozen 1
 have p2:=r4c.cell 2 (by omega)
 have q2:=r4.cell 2 (by omega)
 have s2:=r4a.cell 2 (by omega)
 have t2:=r4b.cell 2 (by omega)
 have u2:=r4a.frozen 2
 have v2:=r4b.frozen 2
 have p3:=r4c.cell 3 (by omega)
 have q3:=r4.cell 3 (by omega)
 have s3:=r4a.cell 3 (by omega)
 have t3:=r4b.cell 3 (by omega)
 have u3:=r4a.frozen 3
 have v3:=r4b.frozen 3
 have p4:=r4c.cell 4 (by omega)
 have q4:=r4.cell 4 (by omega)
 have s4:=r4a.cell 4 (by omega)
 have t4:=r4b.cell 4 (by omega)
 have u4:=r4a.frozen 4
 have v4:=r4b.frozen 4
 have p5:=r4c.cell 5 (by omega)
 have q5:=r4.cell 5 (by omega)
 have s5:=r4a.cell 5 (by omega)
 have t5:=r4b.cell 5 (by omega)
 have u5:=r4a.frozen 5
 have v5:=r4b.frozen 5
 have p6:=r4c.cell 6 (by omega)
 have q6:=r4.cell 6 (by omega)
 have s6:=r4a.cell 6 (by omega)
 have t6:=r4b.cell 6 (by omega)
 have u6:=r4a.frozen 6
 have v6:=r4b.frozen 6
 have p7:=r4c.cell 7 (by omega)
 have q7:=r4.cell 7 (by omega)
 have s7:=r4a.cell 7 (by omega)
 have t7:=r4b.cell 7 (by omega)
 have u7:=r4a.frozen 7
 have v7:=r4b.frozen 7
 clear r4 r4a r4b r4c
 by_cases hx:x=true
 ·by_cases hy:y=true
  ·by_cases hl:a.length=b.length
   ·have hl':((a.length:Int)==(b.length:Int))=true:=by simp[hl]
    have HB':Hid (bothOk a b=true):=by rw[Hid,HB.out,hx,hy,decide_eq_true hl];rfl
    obtain⟨n,hn⟩:∃n,n=a.length:=⟨_,rfl⟩
    obtain⟨m,hm⟩:∃m,m=b.length:=⟨_,rfl⟩
    rw[←hn]at hl'⊢
    rw[←hm]at hl'⊢
    clear HB hl ga gb ha hb hn hm
    subst hx hy
    go_big_region
    go_wp2
    refine bodyPost_ret (results_rows rfl _ _ H (H+1) f g _ rfl rfl rfl (filled f g HH.out HR.out).1 (filled f g HH.out HR.out).2.1) rfl ?_
    rw[HB'.out]
    exact⟨rfl,(filled f g HH.out HR.out).2.2⟩
   ·have hl':((a.length:Int)==(b.length:Int))=false:=by simp;omega
    have HB':Hid (bothOk a b=false):=by rw[Hid,HB.out,decide_eq_false hl];simp
    obtain⟨n,hn⟩:∃n,n=a.length:=⟨_,rfl⟩
    obtain⟨m,hm⟩:∃m,m=b.length:=⟨_,rfl⟩
    rw[←hn]at hl'⊢
    rw[←hm]at hl'⊢
    clear HB hl ga gb ha hb hn hm
    subst hx hy
    go_big_region
    go_wp2
    refine bodyPost_ret (results_rows rfl _ _ H (H+1) f g _ rfl rfl rfl (filled f g HH.out HR.out).1 (filled f g HH.out HR.out).2.1) rfl ?_
    rw[HB'.out]
    exact⟨rfl,(filled f g HH.out HR.out).2.2⟩
  ·have hy':y=false:=by simpa using hy
   have HB':Hid (bothOk a b=false):=by rw[Hid,HB.out,hy'];simp
   clear HB ga gb ha hb hy
   subst hx hy'
   go_big_region
   go_wp2
   refine bodyPost_ret (results_rows rfl _ _ H (H+1) f g _ rfl rfl rfl (filled f g HH.out HR.out).1 (filled f g HH.out HR.out).2.1) rfl ?_
   rw[HB'.out]
   exact⟨rfl,(filled f g HH.out HR.out).2.2⟩
 ·have hx':x=false:=by simpa using hx
  have HB':Hid (bothOk a b=false):=by rw[Hid,HB.out,hx'];simp
  clear HB ga gb ha hb hx
  subst hx'
  go_big_region
  go_wp2
  refine bodyPost_ret (results_rows rfl _ _ H (H+1) f g _ rfl rfl rfl (filled f g HH.out HR.out).1 (filled f g HH.out HR.out).2.1) rfl ?_
  rw[HB'.out]
  exact⟨rfl,(filled f g HH.out HR.out).2.2⟩
end Go.Proofs.YtflbcjgkdokhiaaGreatDoor
