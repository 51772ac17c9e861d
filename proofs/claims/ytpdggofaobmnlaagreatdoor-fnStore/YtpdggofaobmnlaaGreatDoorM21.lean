import Derived.Test.YtpdggofaobmnlaaGreatDoorM20
import Derived.ChangeKeysEq
import Derived.BigRegion
/- The program's BlocksOk, NewBlocks and Put answer what plain lists say, in new memory, and write nothing that was there. -/
set_option maxRecDepth 20000
set_option maxHeartbeats 8000000
namespace Go.Proofs.YtpdggofaobmnlaaGreatDoor
open Go.ChangeShapes Go.WideShapes Go.ChangeAt Go.RowKit
def listF (f:Nat→Int) (n:Nat):List Int:=(List.range n).map f
theorem listF_len (f:Nat→Int) (n:Nat):(listF f n).length=n:=by simp[listF]
theorem listF_getD (xs:List Int):listF (fun k=>xs.getD k 0) xs.length=xs:=by
 apply List.ext_getElem
 ·simp[listF]
 ·intro j h1 h2
  simp[listF,List.getD,h2]
theorem list_any (f:Nat→Int) (n:Nat) (w:World) (h8:n≤8):
  Calls Tryz.prog 123 #[.agg (rowA f),.int .i64 n] w fun e w'=>∃u,e=.returned u∧Own w' w.heap.size u (listF f n)∧Below w.heap.size w w':=by
 obtain⟨i0,hi,hz0,hz1,hz2⟩:=info_parts Tryz.infoI
 have h8':(n:Int)≤8:=by omega
 obtain⟨w1,hw1⟩:∃w1,w1=(w.alloc (.cells (rowA f) 112)).alloc (.cells #[] 2):=⟨_,rfl⟩
 have hown:w1.ownsRow w.heap.size 2 1 (.slice (some ⟨w.heap.size+1,0,none⟩) 0 0) 0 []:=by
  have:=World.ownsRow_lit (base:=w.heap.size) (e:=2) (size:=1) (w.alloc (.cells (rowA f) 112)) #[] 0 (by simp) (Nat.zero_le _) rfl
  rw[hw1]
  simpa using this
 have hrow:Row w1 w.heap.size f:=by rw[hw1];exact(Row.new w f).alloc _
 have hnews:∀j u,((listF f n).map (Value.int .i64))[j]?=some u→w1.cell? ((⟨w.heap.size,0,none⟩:Addr).add j)=some u:=by
  intro j u hj
  have hlt:j<n:=by
   rcases Nat.lt_or_ge j n with h|h
   ·exact h
   ·rw[List.getElem?_eq_none (by simpa[listF]using h)]at hj;cases hj
  rw[show(⟨w.heap.size,0,none⟩:Addr).add j=⟨w.heap.size,j,none⟩ by unfold Addr.add;split<;>simp_all]
  rw[hrow.cell j (by omega)]
  simp[listF,hlt]at hj⊢
  exact hj
 have hone:∀u∈(listF f n).map (Value.int .i64),u.oneCell'=true:=by
  intro u hu
  obtain⟨x,_,rfl⟩:=List.mem_map.1 hu
  rfl
 have hll:((listF f n).map (Value.int .i64)).length=n*1:=by simp[listF]
 have hb1:Below w.heap.size w w1:=by rw[hw1];exact((Below.refl _ _).alloc (Nat.le_refl _) _).alloc (by simp) _
 go_enter Tryz.func123,Tryz.ntmps123
 go_wp2_with (at_builtin;rw[←hw1];refine wpList_append_own _ rfl _ _ 24 rfl w.heap.size 2 i0 (.int .i64 0) 1 8 Tryz.underlying24 hi hz0 hz1 hz2 rfl (by decide) _ _ _ rfl hown _ n 8 ((listF f n).map (Value.int .i64)) rfl hll hnews hone (by unfold maxLen;omega) (by omega) hb1.size ?_)
 intro v' w2 hown' hgrow _
 rw[←hw1]at hgrow
 have HG:Hid (Below w.heap.size w w2):=hb1.grown hgrow hb1.size (fun g e=>by simp[Value.ownBlock]at e;omega)
 go_wp2
 go_ret
 refine⟨_,rfl,?_,HG.out⟩
 unfold Own
 simpa[listF_len]using hown'
theorem new_any8 (n:Int) (w:World):
  Calls Tryz.prog 84 #[.int .i64 n] w fun e w'=>∃u,e=.returned u∧Own w' w.heap.size u (zerosI n)∧Below w.heap.size w w':=by
 by_cases hc:cntOk n=true
 ·obtain⟨k,rfl⟩:∃k:Nat,n=k:=⟨n.toNat,by simp[cntOk]at hc;omega⟩
  have h8:k≤8:=by simp[cntOk]at hc;omega
  have HZ:Hid (listF (fun _=>0) k=zerosI k):=by
   have h1:1≤k:=by simp[cntOk]at hc;omega
   rw[Hid,zerosI,if_pos (by omega)]
   apply List.ext_getElem
   ·simp[listF]
   ·intro j h1 h2
    simp[listF]
  go_enter Tryz.func84,Tryz.ntmps84
  go_wp2_with (first|(go_at_call 83;refine(cnt_any _ _).mono ?_;rw[hc];rintro e w' ⟨rfl,hw⟩;subst w')|(go_at_call 123;refine(list_any (fun _=>0) k _ h8).mono ?_;rw[HZ.out];rintro e w1 ⟨u,rfl,o1,b1⟩;have HU:Hid (Own w1 w.heap.size u (zerosI k)∧Below w.heap.size w w1):=⟨o1,b1⟩;clear o1 b1))
  go_ret
  exact⟨_,rfl,HU.out⟩
 ·have hc':cntOk n=false:=by simpa using hc
  have HZ:Hid (zerosI n=[]):=by simp[Hid,zerosI];simp[cntOk]at hc';omega
  clear hc
  go_enter Tryz.func84,Tryz.ntmps84
  go_wp2_with (go_at_call 83;refine(cnt_any _ _).mono ?_;rw[hc'];rintro e w' ⟨rfl,hw⟩;subst w')
  go_ret
  rw[HZ.out]
  exact⟨_,rfl,ownEmpty w,belowNew w _⟩
theorem listF_set (xs:List Int) (i:Nat) (x:Int):listF (upd (fun k=>xs.getD k 0) i x) xs.length=xs.set i x:=by
 apply List.ext_getElem
 ·simp[listF]
 ·intro j h1 h2
  have h3:j<xs.length:=by simpa[listF]using h1
  rw[List.getElem_set]
  by_cases e:i=j
  ·subst e;simp[listF,upd]
  ·have e':¬j=i:=fun h=>e h.symm
   simp[listF,upd,e,e',List.getD,h3]
theorem put_any (v:Value) (xs:List Int) (i x:Int) (w:World) (h:Reads w v xs) (hbig:xs.length≤1099511627776):
  Calls Tryz.prog 183 #[v,.int .i64 i,.int .i64 x] w fun e w'=>∃u,e=.returned (.tuple #[u,.bool (putB xs i x)])∧Own w' w.heap.size u (putI xs i x)∧Below w.heap.size w w':=by
 have c1:=rowOf_any v xs w h hbig
 obtain⟨ao,cap,rfl⟩:=h.form
 clear h
 obtain⟨n,hn⟩:∃n,n=xs.length:=⟨_,rfl⟩
 by_cases hok:blocksOk xs=true
 ·have hlen:=blocksOk_len hok
  rw[hok,rowF_yes hok]at c1
  obtain⟨f,hf⟩:∃f:Nat→Int,f=fun k=>xs.getD k 0:=⟨_,rfl⟩
  have HL:Hid (listF f n=xs):=by rw[Hid,hf,hn];exact listF_getD xs
  have HL2:Hid (∀i x,listF (upd f i x) n=xs.set i x):=by rw[hf,hn];exact listF_set xs
  rw[←hf]at c1
  clear hf
  rw[←hn]at c1 hbig hlen⊢
  by_cases h0:0≤i
  ·by_cases h1:i<(n:Int)
   ·by_cases hv:valOk x=true
    ·have HB:Hid (putB xs i x=true∧putI xs i x=xs.set i.toNat x):=by
      simp[Hid,putB,putI,hok,placeOk,hv,h0,←hn,h1]
     clear hn hok
     go_enter Tryz.func183,Tryz.ntmps183
     go_wp2_with fail
     refine c1.mono ?_
     rintro e w1 ⟨rfl,b1⟩
     go_wp2_with (refine wpList_put8 rfl _ _ rfl w1.heap.size f rfl rfl (fun _=>0) (Row.new w1 fun _=>0) ?_)
     intro w2 r2 g2
     have b2:Below w.heap.size w w2:=(b1.alloc b1.size _).grown g2 (by simp;have:=b1.size;omega) (fun k e=>by cases e;exact b1.size)
     have hfr:=r2.frozen i.toNat
     have hc2:=r2.cell i.toNat (by omega)
     have r3:=r2.setCell i.toNat (by omega) x
     have b3:Hid (Below w.heap.size w (w2.setCell ⟨w1.heap.size,i.toNat,none⟩ (.int .i64 x))):=b2.setCell (p:=⟨w1.heap.size,i.toNat,none⟩) b1.size (.int .i64 x)
     clear g2 b2 r2
     go_wp2_with (first
      |(go_at_call 159;refine(val_any _ _).mono ?_;rw[hv];rintro e w' ⟨rfl,hw⟩;subst w')
      |(refine wpList_get8 rfl _ rfl w1.heap.size rfl _ r3 ?_)
      |(go_at_call 123;refine(list_any _ n _ (by omega)).mono ?_;rintro e w4 ⟨u,rfl,o4,b4⟩;rw[HL2.out]at o4;have HU:Hid (Own w4 w.heap.size u (xs.set i.toNat x)∧Below w.heap.size w w4):=⟨o4.mono b3.out.size,b3.out.trans (b4.mono b3.out.size)⟩;clear o4 b4))
     go_ret2
     rw[HB.out.1,HB.out.2]
     exact⟨_,rfl,HU.out⟩
    ·have HB:Hid (putB xs i x=false∧putI xs i x=xs):=by
      have hv:valOk x=false:=by simpa using hv
      simp[Hid,putB,putI,hok,placeOk,hv]
     replace hv:valOk x=false:=by simpa using hv
     clear hn hok
     go_enter Tryz.func183,Tryz.ntmps183
     go_wp2_with fail
     refine c1.mono ?_
     rintro e w1 ⟨rfl,b1⟩
     go_wp2_with (refine wpList_put8 rfl _ _ rfl w1.heap.size f rfl rfl (fun _=>0) (Row.new w1 fun _=>0) ?_)
     intro w2 r2 g2
     have b2:Hid (Below w.heap.size w w2):=(b1.alloc b1.size _).grown g2 (by simp;have:=b1.size;omega) (fun k e=>by cases e;exact b1.size)
     clear g2
     go_wp2_with (first
      |(go_at_call 159;refine(val_any _ _).mono ?_;rw[hv];rintro e w' ⟨rfl,hw⟩;subst w')
      |(refine wpList_get8 rfl _ rfl w1.heap.size rfl _ r2 ?_)
      |(go_at_call 123;refine(list_any _ n _ (by omega)).mono ?_;rw[HL.out];rintro e w4 ⟨u,rfl,o4,b4⟩;have HU:Hid (Own w4 w.heap.size u xs∧Below w.heap.size w w4):=⟨o4.mono b2.out.size,b2.out.trans (b4.mono b2.out.size)⟩;clear o4 b4))
     go_ret2
     rw[HB.out.1,HB.out.2]
     exact⟨_,rfl,HU.out⟩
   ·have HB:Hid (putB xs i x=false∧putI xs i x=xs):=by
     simp[Hid,putB,putI,hok,placeOk,←hn];omega
    obtain⟨bv,hv⟩:∃bv,valOk x=bv:=⟨_,rfl⟩
    clear hn hok
    go_enter Tryz.func183,Tryz.ntmps183
    go_wp2_with fail
    refine c1.mono ?_
    rintro e w1 ⟨rfl,b1⟩
    go_wp2_with (refine wpList_put8 rfl _ _ rfl w1.heap.size f rfl rfl (fun _=>0) (Row.new w1 fun _=>0) ?_)
    intro w2 r2 g2
    have b2:Hid (Below w.heap.size w w2):=(b1.alloc b1.size _).grown g2 (by simp;have:=b1.size;omega) (fun k e=>by cases e;exact b1.size)
    clear g2
    go_wp2_with (first
     |(go_at_call 159;refine(val_any _ _).mono ?_;rw[hv];rintro e w' ⟨rfl,hw⟩;subst w')
     |(refine wpList_get8 rfl _ rfl w1.heap.size rfl _ r2 ?_)
     |(go_at_call 123;refine(list_any _ n _ (by omega)).mono ?_;rw[HL.out];rintro e w4 ⟨u,rfl,o4,b4⟩;have HU:Hid (Own w4 w.heap.size u xs∧Below w.heap.size w w4):=⟨o4.mono b2.out.size,b2.out.trans (b4.mono b2.out.size)⟩;clear o4 b4))
    go_ret2
    rw[HB.out.1,HB.out.2]
    exact⟨_,rfl,HU.out⟩
  ·have HB:Hid (putB xs i x=false∧putI xs i x=xs):=by
    simp[Hid,putB,putI,hok,placeOk];omega
   obtain⟨bv,hv⟩:∃bv,valOk x=bv:=⟨_,rfl⟩
   clear hn hok
   go_enter Tryz.func183,Tryz.ntmps183
   go_wp2_with fail
   refine c1.mono ?_
   rintro e w1 ⟨rfl,b1⟩
   go_wp2_with (refine wpList_put8 rfl _ _ rfl w1.heap.size f rfl rfl (fun _=>0) (Row.new w1 fun _=>0) ?_)
   intro w2 r2 g2
   have b2:Hid (Below w.heap.size w w2):=(b1.alloc b1.size _).grown g2 (by simp;have:=b1.size;omega) (fun k e=>by cases e;exact b1.size)
   clear g2
   go_wp2_with (first
    |(go_at_call 159;refine(val_any _ _).mono ?_;rw[hv];rintro e w' ⟨rfl,hw⟩;subst w')
    |(refine wpList_get8 rfl _ rfl w1.heap.size rfl _ r2 ?_)
    |(go_at_call 123;refine(list_any _ n _ (by omega)).mono ?_;rw[HL.out];rintro e w4 ⟨u,rfl,o4,b4⟩;have HU:Hid (Own w4 w.heap.size u xs∧Below w.heap.size w w4):=⟨o4.mono b2.out.size,b2.out.trans (b4.mono b2.out.size)⟩;clear o4 b4))
   go_ret2
   rw[HB.out.1,HB.out.2]
   exact⟨_,rfl,HU.out⟩
 ·have hok':blocksOk xs=false:=by simpa using hok
  rw[hok',rowF_no hok']at c1
  have HB:Hid (putB xs i x=false∧putI xs i x=[]):=by
   simp[Hid,putB,putI,hok']
  clear hok hok'
  rw[←hn]at c1
  rw[←hn]
  clear hn hbig
  go_enter Tryz.func183,Tryz.ntmps183
  go_wp2_with fail
  refine c1.mono ?_
  rintro e w1 ⟨rfl,b1⟩
  go_wp2_with (refine wpList_put8 rfl _ _ rfl w1.heap.size (fun _=>0) rfl rfl (fun _=>0) (Row.new w1 fun _=>0) ?_)
  intro w2 r2 g2
  have b2:Hid (Below w.heap.size w w2):=(b1.alloc b1.size _).grown g2 (by simp;have:=b1.size;omega) (fun k e=>by cases e;exact b1.size)
  clear g2
  go_wp2
  go_ret2
  rw[HB.out.1,HB.out.2]
  exact⟨_,rfl,(ownEmpty w2).mono b2.out.size,b2.out.trans ((belowNew w2 _).mono b2.out.size)⟩
end Go.Proofs.YtpdggofaobmnlaaGreatDoor
namespace Go.Proofs.YtpdggofaobmnlaaGreatDoor
open Go.ChangeShapes Go.WideShapes Go.ChangeAt Go.RowKit
def fill8 (w:World) (g:Nat) (f:Nat→Int):World:=
 (((((((w.setCell ⟨g,0,none⟩ (.int .i64 (f 0))).setCell ⟨g,1,none⟩ (.int .i64 (f 1))).setCell ⟨g,2,none⟩ (.int .i64 (f 2))).setCell ⟨g,3,none⟩ (.int .i64 (f 3))).setCell ⟨g,4,none⟩ (.int .i64 (f 4))).setCell ⟨g,5,none⟩ (.int .i64 (f 5))).setCell ⟨g,6,none⟩ (.int .i64 (f 6))).setCell ⟨g,7,none⟩ (.int .i64 (f 7))
theorem Row.fill {w:World} {g:Nat} {old:Nat→Int} (h:Row w g old) (f:Nat→Int):Row (fill8 w g f) g f:=by
 have:=(((((((h.setCell 0 (by omega) (f 0)).setCell 1 (by omega) (f 1)).setCell 2 (by omega) (f 2)).setCell 3 (by omega) (f 3)).setCell 4 (by omega) (f 4)).setCell 5 (by omega) (f 5)).setCell 6 (by omega) (f 6)).setCell 7 (by omega) (f 7)
 exact Eq.trans this (congrArg (fun c=>some (Obj.cells c 112 (0,0))) (rowA_congr (eight rfl rfl rfl rfl rfl rfl rfl rfl)))
theorem Row.fill_other {w:World} {g k:Nat} {old:Nat→Int} (h:Row w g old) (f:Nat→Int) (hne:g≠k):Row (fill8 w k f) g old:=by
 unfold fill8
 exact(((((((h.other _ _ hne).other _ _ hne).other _ _ hne).other _ _ hne).other _ _ hne).other _ _ hne).other _ _ hne).other _ _ hne
theorem below_fill {B g:Nat} {w0 w:World} (h:Below B w0 w) (hB:B≤g) (f:Nat→Int):Below B w0 (fill8 w g f):=by
 unfold fill8
 exact(((((((h.setCell hB _).setCell hB _).setCell hB _).setCell hB _).setCell hB _).setCell hB _).setCell hB _).setCell hB _
theorem Row.drew {w:World} {g:Nat} {f:Nat→Int} (h:Row w g f):Row w.drew g f:=h
theorem filled {w w4:World} {H:Nat} (f g:Nat→Int) (hH:H=w.heap.size) (h:Below w.heap.size w w4∧Row w4 H (fun _=>0)∧Row w4 (H+1) (fun _=>0)):
  Row (((((((((((((((((w4.setCell ⟨H,0,none⟩ (.int .i64 (f 0))).setCell ⟨H,1,none⟩ (.int .i64 (f 1))).setCell ⟨H,2,none⟩ (.int .i64 (f 2))).setCell ⟨H,3,none⟩ (.int .i64 (f 3))).setCell ⟨H,4,none⟩ (.int .i64 (f 4))).setCell ⟨H,5,none⟩ (.int .i64 (f 5))).setCell ⟨H,6,none⟩ (.int .i64 (f 6))).setCell ⟨H,7,none⟩ (.int .i64 (f 7))).setCell ⟨(H+1),0,none⟩ (.int .i64 (g 0))).setCell ⟨(H+1),1,none⟩ (.int .i64 (g 1))).setCell ⟨(H+1),2,none⟩ (.int .i64 (g 2))).setCell ⟨(H+1),3,none⟩ (.int .i64 (g 3))).setCell ⟨(H+1),4,none⟩ (.int .i64 (g 4))).setCell ⟨(H+1),5,none⟩ (.int .i64 (g 5))).setCell ⟨(H+1),6,none⟩ (.int .i64 (g 6))).setCell ⟨(H+1),7,none⟩ (.int .i64 (g 7))).drew) H f∧Row (((((((((((((((((w4.setCell ⟨H,0,none⟩ (.int .i64 (f 0))).setCell ⟨H,1,none⟩ (.int .i64 (f 1))).setCell ⟨H,2,none⟩ (.int .i64 (f 2))).setCell ⟨H,3,none⟩ (.int .i64 (f 3))).setCell ⟨H,4,none⟩ (.int .i64 (f 4))).setCell ⟨H,5,none⟩ (.int .i64 (f 5))).setCell ⟨H,6,none⟩ (.int .i64 (f 6))).setCell ⟨H,7,none⟩ (.int .i64 (f 7))).setCell ⟨(H+1),0,none⟩ (.int .i64 (g 0))).setCell ⟨(H+1),1,none⟩ (.int .i64 (g 1))).setCell ⟨(H+1),2,none⟩ (.int .i64 (g 2))).setCell ⟨(H+1),3,none⟩ (.int .i64 (g 3))).setCell ⟨(H+1),4,none⟩ (.int .i64 (g 4))).setCell ⟨(H+1),5,none⟩ (.int .i64 (g 5))).setCell ⟨(H+1),6,none⟩ (.int .i64 (g 6))).setCell ⟨(H+1),7,none⟩ (.int .i64 (g 7))).drew) (H+1) g∧Below w.heap.size w (((((((((((((((((w4.setCell ⟨H,0,none⟩ (.int .i64 (f 0))).setCell ⟨H,1,none⟩ (.int .i64 (f 1))).setCell ⟨H,2,none⟩ (.int .i64 (f 2))).setCell ⟨H,3,none⟩ (.int .i64 (f 3))).setCell ⟨H,4,none⟩ (.int .i64 (f 4))).setCell ⟨H,5,none⟩ (.int .i64 (f 5))).setCell ⟨H,6,none⟩ (.int .i64 (f 6))).setCell ⟨H,7,none⟩ (.int .i64 (f 7))).setCell ⟨(H+1),0,none⟩ (.int .i64 (g 0))).setCell ⟨(H+1),1,none⟩ (.int .i64 (g 1))).setCell ⟨(H+1),2,none⟩ (.int .i64 (g 2))).setCell ⟨(H+1),3,none⟩ (.int .i64 (g 3))).setCell ⟨(H+1),4,none⟩ (.int .i64 (g 4))).setCell ⟨(H+1),5,none⟩ (.int .i64 (g 5))).setCell ⟨(H+1),6,none⟩ (.int .i64 (g 6))).setCell ⟨(H+1),7,none⟩ (.int .i64 (g 7))).drew):=by
 obtain⟨z1,z2,z3⟩:=h
 have HW0:Row (fill8 (fill8 w4 H f) (H+1) g) H f∧Row (fill8 (fill8 w4 H f) (H+1) g) (H+1) g∧Below w.heap.size w (fill8 (fill8 w4 H f) (H+1) g):=by
  refine⟨(z2.fill f).fill_other _ (by omega),(z3.fill_other f (by omega)).fill g,below_fill (below_fill z1 (by omega) _) (by omega) _⟩
 have HW:Row (fill8 (fill8 w4 H f) (H+1) g).drew H f∧Row (fill8 (fill8 w4 H f) (H+1) g).drew (H+1) g∧Below w.heap.size w (fill8 (fill8 w4 H f) (H+1) g).drew:=⟨HW0.1.drew,HW0.2.1.drew,HW0.2.2.drew⟩
 unfold fill8 at HW
 exact HW
theorem results_rows {fn:Func} {p q u:Tmp} (h:fn.results=#[.cell p 112,.cell q 112,.tmp u]) (tmps:Array Value) (w:World) (g k:Nat) (f f':Nat→Int) (x:Value)
  (hp:tmps.getD p undef=.pointer (some ⟨g,0,none⟩)) (hq:tmps.getD q undef=.pointer (some ⟨k,0,none⟩)) (hx:tmps.getD u undef=x) (hr:Row w g f) (hr':Row w k f'):
  (results fn tmps).run Tryz.prog w=.ok (.tuple #[.agg (rowA f),.agg (rowA f'),x]) w:=by
 have l1:=run_loadVar_row w g _ _ _ _ _ hr Tryz.under8 rfl (Tryz.info8 f)
 have l2:=run_loadVar_row w k _ _ _ _ _ hr' Tryz.under8 rfl (Tryz.info8 f')
 have hp':tmps[p]?.getD undef=.pointer (some ⟨g,0,none⟩):=by simpa using hp
 have hq':tmps[q]?.getD undef=.pointer (some ⟨k,0,none⟩):=by simpa using hq
 have hx':tmps[u]?.getD undef=x:=by simpa using hx
 simp only[results,h]
 simp[Sem.run_bind,Result.andThen,asAddr,hp',hq',hx',l1,l2]
theorem rowsOf_any (va vb:Value) (a b:List Int) (w:World) (ha:Reads w va a) (hb:Reads w vb b) (ga:a.length≤1099511627776) (gb:b.length≤1099511627776):
  Calls Tryz.prog 90 #[va,vb] w fun e w'=>e=.returned (.tuple #[.agg (rowA (rowF a)),.agg (rowA (rowF b)),.bool (bothOk a b)])∧Below w.heap.size w w':=by
 obtain⟨f,hf⟩:∃f,f=rowF a:=⟨_,rfl⟩
 obtain⟨g,hg⟩:∃f,f=rowF b:=⟨_,rfl⟩
 obtain⟨x,hx⟩:∃x,x=blocksOk a:=⟨_,rfl⟩
 obtain⟨y,hy⟩:∃y,y=blocksOk b:=⟨_,rfl⟩
 have c1:∀w',Reads w' va a→_:=fun w' h=>rowOf_any va a w' h ga
 have c2:∀w',Reads w' vb b→_:=fun w' h=>rowOf_any vb b w' h gb
 rw[←hf,←hg]
 simp only[←hf,←hg,←hx,←hy]at c1 c2
 have HB:Hid (bothOk a b=(x&&(y&&decide (a.length=b.length)))):=by rw[hx,hy];rfl
 clear hf hg hx hy
 obtain⟨w0,hw0⟩:∃w0,w0=(w.alloc (.cells (rowA fun _=>0) 112)).alloc (.cells (rowA fun _=>0) 112):=⟨_,rfl⟩
 have b0:Below w.heap.size w w0:=by rw[hw0];exact((Below.refl _ _).alloc (Nat.le_refl _) _).alloc (by simp) _
 have s0:w0.heap.size=w.heap.size+2:=by rw[hw0];simp
 have r0:Row w0 w.heap.size (fun _=>0):=by rw[hw0];exact(Row.new w _).alloc _
 have q0:Row w0 (w.heap.size+1) (fun _=>0):=by
  rw[hw0]
  have:=Row.new (w.alloc (.cells (rowA fun _=>0) 112)) (fun _=>0)
  simpa using this
 have k1:=c1 w0 (ha.below b0 (Nat.le_refl _))
 rw[hw0]at k1
 obtain⟨ao,ca,rfl⟩:=ha.form
 obtain⟨bo,cb,rfl⟩:=hb.form
 go_enter Tryz.func90,Tryz.ntmps90
 go_wp2_with fail
 refine k1.mono ?_
 rw[←hw0]
 rintro e w1 ⟨rfl,b1⟩
 clear hw0
 go_wp2_with (refine wpList_put8 rfl _ _ rfl w1.heap.size f rfl rfl (fun _=>0) (Row.new w1 fun _=>0) ?_)
 intro w2 r2 g2
 have b2:Below w.heap.size w w2:=((b0.trans (b1.mono b0.size)).alloc (Nat.le_trans b0.size b1.size) _).grown g2 (by simp;have:=b1.size;omega) (fun k e=>by cases e;have:=b1.size;omega)
 have r2a:Row w2 w.heap.size (fun _=>0):=((r0.below b1).alloc _).kept g2 (by have:=(r0.below b1).lt;simp;omega)
 have r2b:Row w2 (w.heap.size+1) (fun _=>0):=((q0.below b1).alloc _).kept g2 (by have:=(q0.below b1).lt;simp;omega)
 have n2:w.heap.size+2≤w1.heap.size:=by have:=b1.size;omega
 obtain⟨G7,hG7⟩:∃G,G=w1.heap.size:=⟨_,rfl⟩
 rw[←hG7]at r2 n2
 have k2:=c2 w2 (hb.below b2 (Nat.le_refl _))
 clear k1 c1 c2 b1 g2 r0 q0 b0 s0
 go_wp2_with fail
 refine k2.mono ?_
 rintro e w3 ⟨rfl,b3⟩
 go_wp2_with (refine wpList_put8 rfl _ _ rfl w3.heap.size g rfl rfl (fun _=>0) (Row.new w3 fun _=>0) ?_)
 intro w4 r4 g4
 have b4:Below w.heap.size w w4:=((b2.trans (b3.mono b2.size)).alloc (Nat.le_trans b2.size b3.size) _).grown g4 (by simp;have:=b3.size;have:=b2.size;omega) (fun k e=>by cases e;have:=b3.size;have:=b2.size;omega)
 have r4a:Row w4 w.heap.size (fun _=>0):=((r2a.below b3).alloc _).kept g4 (by have:=(r2a.below b3).lt;simp;omega)
 have r4b:Row w4 (w.heap.size+1) (fun _=>0):=((r2b.below b3).alloc _).kept g4 (by have:=(r2b.below b3).lt;simp;omega)
 have r4c:Row w4 G7 f:=((r2.below b3).alloc _).kept g4 (by have:=(r2.below b3).lt;simp;omega)
 have n4:G7<w3.heap.size:=(r2.below b3).lt
 obtain⟨G9,hG9⟩:∃G,G=w3.heap.size:=⟨_,rfl⟩
 rw[←hG9]at r4 n4
 rw[←hG7,←hG9]
 clear hG7 hG9 g4 b3 r2a r2b r2 b2 k2
 go_wp2
 obtain⟨H,hH⟩:∃H,H=w.heap.size:=⟨_,rfl⟩
 have HH:Hid (H=w.heap.size):=hH
 have HR:Hid (Below w.heap.size w w4∧Row w4 H (fun _=>0)∧Row w4 (H+1) (fun _=>0)):=⟨b4,hH▸r4a,hH▸r4b⟩
 rw[←hH]at n2 r4a r4b
 rw[←hH]
 clear hH b4
 have e1:G7≠H:=by omega
 have e2:G7≠H+1:=by omega
 have e3:G9≠H:=by omega
 have e4:G9≠H+1:=by omega
 have p0:=r4c.cell 0 (by omega)
 have q0:=r4.cell 0 (by omega)
 have s0:=r4a.cell 0 (by omega)
 have t0:=r4b.cell 0 (by omega)
 have u0:=r4a.frozen 0
 have v0:=r4b.frozen 0
 have p1:=r4c.cell 1 (by omega)
 have q1:=r4.cell 1 (by omega)
 have s1:=r4a.cell 1 (by omega)
 have t1:=r4b.cell 1 (by omega)
 have u1:=r4a.frozen 1
 have v1:=r4b.frozen 1
 have p2:=r4c.cell 2 (by omega)
 have q2:=r4.cell 2 (by omega)
 have s2:=r4a.cell 2 (by omega)
 have t2:=r4b.cell 2 (by omega)
 have u2:=r4a.frozen 2
 have v2:=r4b.frozen 2
 have p3:=r4c.cell 3 (by omega)
 have q3:=r4.cell 3 (by omega)
 have s3:=r4a.cell 3 (by omega)
 have t3:=r4b.cell 3 (by omega)
 have u3:=r4a.frozen 3
 have v3:=r4b.frozen 3
 have p4:=r4c.cell 4 (by omega)
 have q4:=r4.cell 4 (by omega)
 have s4:=r4a.cell 4 (by omega)
 have t4:=r4b.cell 4 (by omega)
 have u4:=r4a.frozen 4
 have v4:=r4b.frozen 4
 have p5:=r4c.cell 5 (by omega)
 have q5:=r4.cell 5 (by omega)
 have s5:=r4a.cell 5 (by omega)
 have t5:=r4b.cell 5 (by omega)
 have u5:=r4a.frozen 5
 have v5:=r4b.frozen 5
 have p6:=r4c.cell 6 (by omega)
 have q6:=r4.cell 6 (by omega)
 have s6:=r4a.cell 6 (by omega)
 have t6:=r4b.cell 6 (by omega)
 have u6:=r4a.frozen 6
 have v6:=r4b.frozen 6
 have p7:=r4c.cell 7 (by omega)
 have q7:=r4.cell 7 (by omega)
 have s7:=r4a.cell 7 (by omega)
 have t7:=r4b.cell 7 (by omega)
 have u7:=r4a.frozen 7
 have v7:=r4b.frozen 7
 clear r4 r4a r4b r4c
 by_cases hx:x=true
 ·by_cases hy:y=true
  ·by_cases hl:a.length=b.length
   ·have hl':((a.length:Int)==(b.length:Int))=true:=by simp[hl]
    have HB':Hid (bothOk a b=true):=by rw[Hid,HB.out,hx,hy,decide_eq_true hl];rfl
    obtain⟨n,hn⟩:∃n,n=a.length:=⟨_,rfl⟩
    obtain⟨m,hm⟩:∃m,m=b.length:=⟨_,rfl⟩
    rw[←hn]at hl'⊢
    rw[←hm]at hl'⊢
    clear HB hl ga gb ha hb hn hm
    subst hx hy
    go_big_region
    go_wp2
    refine bodyPost_ret (results_rows rfl _ _ H (H+1) f g _ rfl rfl rfl (filled f g HH.out HR.out).1 (filled f g HH.out HR.out).2.1) rfl ?_
    rw[HB'.out]
    exact⟨rfl,(filled f g HH.out HR.out).2.2⟩
   ·have hl':((a.length:Int)==(b.length:Int))=false:=by simp;omega
    have HB':Hid (bothOk a b=false):=by rw[Hid,HB.out,decide_eq_false hl];simp
    obtain⟨n,hn⟩:∃n,n=a.length:=⟨_,rfl⟩
    obtain⟨m,hm⟩:∃m,m=b.length:=⟨_,rfl⟩
    rw[←hn]at hl'⊢
    rw[←hm]at hl'⊢
    clear HB hl ga gb ha hb hn hm
    subst hx hy
    go_big_region
    go_wp2
    refine bodyPost_ret (results_rows rfl _ _ H (H+1) f g _ rfl rfl rfl (filled f g HH.out HR.out).1 (filled f g HH.out HR.out).2.1) rfl ?_
    rw[HB'.out]
    exact⟨rfl,(filled f g HH.out HR.out).2.2⟩
  ·have hy':y=false:=by simpa using hy
   have HB':Hid (bothOk a b=false):=by rw[Hid,HB.out,hy'];simp
   clear HB ga gb ha hb hy
   subst hx hy'
   go_big_region
   go_wp2
   refine bodyPost_ret (results_rows rfl _ _ H (H+1) f g _ rfl rfl rfl (filled f g HH.out HR.out).1 (filled f g HH.out HR.out).2.1) rfl ?_
   rw[HB'.out]
   exact⟨rfl,(filled f g HH.out HR.out).2.2⟩
 ·have hx':x=false:=by simpa using hx
  have HB':Hid (bothOk a b=false):=by rw[Hid,HB.out,hx'];simp
  clear HB ga gb ha hb hx
  subst hx'
  go_big_region
  go_wp2
  refine bodyPost_ret (results_rows rfl _ _ H (H+1) f g _ rfl rfl rfl (filled f g HH.out HR.out).1 (filled f g HH.out HR.out).2.1) rfl ?_
  rw[HB'.out]
  exact⟨rfl,(filled f g HH.out HR.out).2.2⟩
end Go.Proofs.YtpdggofaobmnlaaGreatDoor
