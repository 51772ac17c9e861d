import Derived.Test.YtpdggofaobmnlaaGreatDoorM21
import Derived.Laws.StructEq
import Derived.Test.YtpdggofaobmnlaaGreatDoorM16
import Derived.ArgAppend
import Derived.Laws.CopyOwn
import Derived.Test.YtpdggofaobmnlaaGreatDoorM5
/- Arrays of eight numbers compared; the set's own methods. -/
set_option maxRecDepth 20000
set_option maxHeartbeats 1000000
namespace Go.Proofs.YtpdggofaobmnlaaGreatDoor
open Go.ChangeShapes Go.WideShapes Go.ChangeAt Go.RowKit
def same8 (f g:Nat→Int):Bool:=(f 0==g 0)&&((f 1==g 1)&&((f 2==g 2)&&((f 3==g 3)&&((f 4==g 4)&&((f 5==g 5)&&((f 6==g 6)&&(f 7==g 7)))))))
theorem same8_all {f g:Nat→Int} (h:same8 f g=true):∀j,j<8→f j=g j:=by
 simp[same8]at h
 obtain⟨h0,h1,h2,h3,h4,h5,h6,h7⟩:=h
 exact eight h0 h1 h2 h3 h4 h5 h6 h7
theorem same8_of {f g:Nat→Int} (h:∀j,j<8→f j=g j):same8 f g=true:=by
 simp[same8,h 0,h 1,h 2,h 3,h 4,h 5,h 6,h 7]
theorem run_eq8 (f g:Nat→Int) (w:World):(Op.equalIn 10000 112 (.agg (rowA f)) (.agg (rowA g))).run Tryz.prog w=.ok (same8 f g) w:=by
 obtain⟨i0,hi,hz0,hz1,hz2⟩:=info_parts Tryz.infoI
 have hz:Tryz.prog.cellsOf 2=1:=by kernel_rfl
 have hu:Tryz.prog.underlying 2=some (.int .i64):=by kernel_rfl
 rw[show(10000:Nat)=9998+1+1 from rfl,run_equalIn_array (i:=i0) w (9998+1) _ _ Tryz.under8 hi,hz]
 simp[List.range,List.range.loop,Op.eqItems,part,Sem.run_bind,sizeOf,typeInfo,hi,hz1,hu,rowA,run_equalIn_int,same8]
 (repeat' split)<;>simp_all
def mixF (a b:List Int) (j:Nat):Nat→Int:=fun k=>if k<j then b.getD k 0 else a.getD k 0
theorem mixF_zero (a b:List Int):mixF a b 0=fun k=>a.getD k 0:=by funext k;simp[mixF]
theorem mixF_step (a b:List Int) (j:Nat):upd (mixF a b j) j (b.getD j 0)=mixF a b (j+1):=by
 funext k
 unfold upd mixF
 by_cases e:k=j
 ·subst e;simp
 ·have:k<j+1↔k<j:=by omega
  simp[e,this]
theorem mixF_skip (a b:List Int) (j:Nat) (h:a.getD j 0=b.getD j 0):mixF a b j=mixF a b (j+1):=by
 funext k
 unfold mixF
 by_cases e:k=j
 ·subst e;rw[if_neg (by omega),if_pos (by omega),h]
 ·have:k<j+1↔k<j:=by omega
  simp[this]
theorem mixF_at (a b:List Int) (j:Nat):mixF a b j j=a.getD j 0:=by simp[mixF]
theorem mixF_lt {a b:List Int} {j:Nat} (h:same8 (mixF a b j) (fun k=>b.getD k 0)=false):j<8:=by
 rcases Nat.lt_or_ge j 8 with h8|h8
 ·exact h8
 ·rw[same8_of (fun k hk=>by rw[mixF,if_pos (by omega)])]at h;cases h
theorem mixF_done {a b:List Int} {j:Nat} (ha:a.length≤8) (hb:b.length≤8) (hj:j≤8) (h:same8 (mixF a b j) (fun k=>b.getD k 0)=true):differUp a b j=differUp a b 8:=by
 have h1:=same8_all h
 have:=differUp_more a b j (fun k hk=>by
  rcases Nat.lt_or_ge k 8 with h8|h8
  ·have:=h1 k h8
   rwa[mixF,if_neg (by omega)]at this
  ·rw[getD_past a k (by omega),getD_past b k (by omega)]) (8-j)
 rw[←this];congr 1;omega
def DRel (a b:List Int) (w wr:World) (G5 G6 j:Nat):Prop:=Row wr G5 (mixF a b j)∧Row wr G6 (fun k=>b.getD k 0)∧Below w.heap.size w wr
theorem below_new8 {B:Nat} {w0 w w':World} {g:Nat} (h:Below B w0 w) (hB:B≤w.heap.size) (o:Obj) (hg:(w.alloc o).grownBy w' (some g)) (hBg:B≤g):Below B w0 w':=
 (h.alloc hB o).grown hg (by simp;omega) (fun k e=>by cases e;exact hBg)
theorem two_rows (w:World):Row ((w.alloc (.cells (rowA fun _=>0) 112)).alloc (.cells (rowA fun _=>0) 112)) w.heap.size (fun _=>0)∧
  Row ((w.alloc (.cells (rowA fun _=>0) 112)).alloc (.cells (rowA fun _=>0) 112)) (w.heap.size+1) (fun _=>0):=by
 refine⟨(Row.new w _).alloc _,?_⟩
 have:=Row.new (w.alloc (.cells (rowA fun _=>0) 112)) (fun _=>0)
 simpa using this
theorem below_two {B:Nat} {w0 w w':World} {g:Nat} (h:Below B w0 w) (hB:B≤w.heap.size) (o o':Obj) (hg:((w.alloc o).alloc o').grownBy w' (some g)) (hBg:B≤g):Below B w0 w':=
 ((h.alloc hB o).alloc (by simp;omega) o').grown hg (by simp;omega) (fun k e=>by cases e;exact hBg)
end Go.Proofs.YtpdggofaobmnlaaGreatDoor
namespace Go.Proofs.YtpdggofaobmnlaaGreatDoor
open Go.ChangeShapes Go.WideShapes Go.ChangeAt Go.RowKit
end Go.Proofs.YtpdggofaobmnlaaGreatDoor
namespace Go.Proofs.YtpdggofaobmnlaaGreatDoor
open Go.ChangeShapes Go.WideShapes Go.ChangeAt Go.RowKit
def chF (a b:List Int) (s:Int) (j:Nat):Nat→Int:=fun k=>if k<j∧inB s k=true then b.getD k 0 else a.getD k 0
theorem chF_zero (a b:List Int) (s:Int):chF a b s 0=fun k=>a.getD k 0:=by funext k;simp[chF]
theorem chF_yes {a b:List Int} {s:Int} {j:Nat} (h:inB s j=true):upd (chF a b s j) j (b.getD j 0)=chF a b s (j+1):=by
 funext k
 unfold upd chF
 by_cases e:k=j
 ·subst e;simp[h]
 ·have:k<j+1↔k<j:=by omega
  simp[e,this]
theorem chF_no {a b:List Int} {s:Int} {j:Nat} (h:inB s j=false):chF a b s j=chF a b s (j+1):=by
 funext k
 unfold chF
 by_cases e:k=j
 ·subst e;simp[h]
 ·have:k<j+1↔k<j:=by omega
  simp[this]
theorem chF_list (a b:List Int) (s:Int) (n:Nat):listF (chF a b s 8) n=chosenUp a b s 8 n:=rfl
def CRel (a b:List Int) (s:Int) (w wr:World) (G5 G6 j:Nat):Prop:=Row wr G5 (chF a b s j)∧Row wr G6 (fun k=>b.getD k 0)∧Below w.heap.size w wr
end Go.Proofs.YtpdggofaobmnlaaGreatDoor
namespace Go.Proofs.YtpdggofaobmnlaaGreatDoor
open Go.ChangeShapes Go.WideShapes Go.ChangeAt Go.RowKit
theorem fresh_any (v:Value) (xs:List Int) (w:World) (h:Reads w v xs) (h1:1≤xs.length) (hbig:xs.length≤1099511627776):
  Calls Tryz.prog 116 #[v] w fun e w'=>∃u,e=.returned u∧Own w' w.heap.size u xs∧Below w.heap.size w w':=by
 obtain⟨i0,hi,hz0,hz1,hz2⟩:=info_parts Tryz.infoI
 obtain⟨ao,cap,rfl,hl,hm,hc⟩:=h
 obtain⟨b,off,hab,hcell⟩:∃b off,ao=some ⟨b,off,none⟩∧∀j,j<xs.length→w.cell? ⟨b,off+j,none⟩=some (.int .i64 (xs.getD j 0)):=by
  rcases hc with e|h
  ·subst e;simp at h1
  ·exact h
 subst hab
 have hnews:∀j u,(xs.map (Value.int .i64))[j]?=some u→w.cell? ((⟨b,off,none⟩:Addr).add j)=some u:=by
  intro j u hj
  have hlt:j<xs.length:=by
   rcases Nat.lt_or_ge j xs.length with h|h
   ·exact h
   ·rw[List.getElem?_eq_none (by simpa using h)]at hj;cases hj
  rw[show(⟨b,off,none⟩:Addr).add j=⟨b,off+j,none⟩ by unfold Addr.add;split<;>simp_all]
  rw[hcell j hlt]
  simp[List.getD,hlt]at hj⊢
  exact hj
 have hone:∀u∈xs.map (Value.int .i64),u.oneCell'=true:=by
  intro u hu
  obtain⟨x,_,rfl⟩:=List.mem_map.1 hu
  rfl
 obtain⟨hm1, -⟩:=hm
 unfold maxLen at hm1
 obtain⟨n,hn⟩:∃n,n=xs.length:=⟨_,rfl⟩
 have hll:(xs.map (Value.int .i64)).length=n*1:=by simp[hn]
 rw[←hn]at hbig hl h1⊢
 have HN:Hid (n=xs.length):=hn
 clear hn hc hcell
 go_enter Tryz.func116,Tryz.ntmps116
 go_wp2_with (at_builtin;refine wpList_append_grows _ rfl _ _ 24 rfl 2 i0 (.int .i64 0) 1 8 Tryz.underlying24 hi hz0 hz1 hz2 rfl (by decide) (some ⟨b,off,none⟩) 0 0 [] rfl (by intro e;cases e) (by simp) (by intro b' _ j u hj;simp at hj) ⟨b,off,none⟩ n cap (xs.map (Value.int .i64)) rfl hll hnews hone (by omega) (by unfold maxLen;omega) (by omega) ?_)
 intro v' w1 hown hgrow
 go_wp2_with fail
 go_ret
 refine⟨_,rfl,?_,(Below.refl w.heap.size w).grown hgrow (Nat.le_refl _) (fun k e=>by cases e)⟩
 unfold Own
 rw[←HN.out]
 exact hown
theorem freshDisk_any (u v:Value) (xs ys:List Int) (w:World) (h:Reads w u xs) (h':Reads w v ys) (hx1:1≤xs.length) (hy1:1≤ys.length) (gx:xs.length≤1099511627776) (gy:ys.length≤1099511627776):
  Calls Tryz.prog 79 #[.agg #[u,v]] w fun e w'=>∃a b,e=.returned (.agg #[a,b])∧OwnD w' w.heap.size a b xs ys∧Below w.heap.size w w':=by
 have HR:Hid (Reads w u xs∧Reads w v ys):=⟨h,h'⟩
 clear h h'
 obtain⟨w2,hw2⟩:∃w2,w2=(w.alloc (.cells #[u,v] 26)).alloc (.cells #[.slice none 0 0,.slice none 0 0] 26):=⟨_,rfl⟩
 have HB:Hid (Boxes w w2 u v):=by rw[hw2];exact Boxes.start w u v
 have c0:=HB.out.1.cell0
 have c1:=HB.out.1.cell1
 go_enter Tryz.func79,Tryz.ntmps79
 go_wp2_with fail
 rw[←hw2]
 clear hw2
 have HB2:=HB.out.drew
 go_region_held3 (fun w'=>w'.cell? ⟨w.heap.size,0,none⟩=some u∧w'.cell? ⟨w.heap.size,1,none⟩=some v) (constructor<;>first|assumption|exact cell_set1 (cell_set1 (by assumption)))
  (first
   |(go_at_call_of 116 u;refine(fresh_any u xs w2.drew (HR.out.1.below HB2.2.2.1 (Nat.le_refl _)) hx1 gx).mono ?_;rintro e w4 ⟨a,rfl,oa,ba⟩;have HB4:=HB2.below ba;have d0:=HB4.1.cell0;have d1:=HB4.1.cell1;obtain⟨ao,ca,hea⟩:=oa.reads.form;subst hea)
   |(go_at_call_of 116 v;refine(fresh_any v ys w4 (HR.out.2.below HB4.2.2.1 (Nat.le_refl _)) hy1 gy).mono ?_;rintro e w5 ⟨b,rfl,ob,bb⟩;have hap:=apart_of oa ob (Nat.le_refl _);replace oa:=oa.below bb;have hs5:=ba.size;have HB5:=HB4.below bb;have e0:=HB5.1.cell0;have e1:=HB5.1.cell1;have e2:=HB5.2.1.cell0;have e3:=HB5.2.1.cell1;have f2:=HB5.2.1.frozen 0;have f3:=HB5.2.1.frozen 1;obtain⟨bo,cb,heb⟩:=ob.reads.form;subst heb))
 go_wp2_with fail
 refine bodyPost_ret (results_pair rfl _ _ (w.heap.size+1) _ _ rfl ((HB5.2.1.set0 _).set1 _)) rfl ?_
 exact⟨_,_,rfl,HB5.done (grown_two _ _ _ _) oa ob (HB2.2.2.2) (Nat.le_trans HB2.2.2.2 hs5) hap⟩
theorem diskOk_any (u v:Value) (xs ys:List Int) (w:World) (h:Reads w u xs) (h':Reads w v ys) (gx:xs.length≤1099511627776) (gy:ys.length≤1099511627776):
  Calls Tryz.prog 41 #[.agg #[u,v]] w fun e w'=>e=.returned (.bool (bothOk xs ys))∧Below w.heap.size w w':=by
 obtain⟨w1,hw1⟩:∃w1,w1=w.alloc (.cells #[u,v] 26):=⟨_,rfl⟩
 have b1:Below w.heap.size w w1:=by rw[hw1];exact belowAlloc w _
 have c1:=rowsOf_any u v xs ys w1 (h.below b1 (Nat.le_refl _)) (h'.below b1 (Nat.le_refl _)) gx gy
 obtain⟨bk,hbk⟩:∃bk,bk=bothOk xs ys:=⟨_,rfl⟩
 obtain⟨f,hf⟩:∃f,f=rowF xs:=⟨_,rfl⟩
 obtain⟨g,hg⟩:∃g,g=rowF ys:=⟨_,rfl⟩
 rw[←hbk,←hf,←hg]at c1
 rw[←hbk]
 clear hbk hf hg h h'
 go_enter Tryz.func41,Tryz.ntmps41
 go_wp2_with fail
 rw[←hw1]
 clear hw1
 refine c1.mono ?_
 rintro e w2 ⟨rfl,b2⟩
 replace b2:=b1.trans (b2.mono b1.size)
 clear b1 c1
 go_wp2_with (refine wpList_put8 rfl _ _ rfl w2.heap.size f rfl rfl (fun _=>0) (two_rows w2).1 ?_)
 intro w3 r3 g3
 have b3:Below w.heap.size w w3:=below_two b2 b2.size _ _ g3 b2.size
 have q3:Row w3 (w2.heap.size+1) (fun _=>0):=(two_rows w2).2.kept g3 (by simp)
 have HG:Hid (w.heap.size≤w2.heap.size):=b2.size
 clear g3 b2
 go_wp2_with (refine wpList_put8 rfl _ _ rfl (w2.heap.size+1) g rfl rfl (fun _=>0) q3 ?_)
 intro w4 q4 g4
 have b4:Below w.heap.size w w4:=b3.grown g4 b3.size (fun k e=>by cases e;have:=HG.out;omega)
 clear g4 b3 q3 q4 r3
 go_wp2_with fail
 go_ret
 exact⟨rfl,b4⟩
theorem newDisk_any (n:Int) (w:World):
  Calls Tryz.prog 36 #[.int .i64 n] w fun e w'=>∃a b,e=.returned (.tuple #[.agg #[a,b],.bool (cntOk n)])∧OwnD w' w.heap.size a b (zerosI n) (zerosI n)∧Below w.heap.size w w':=by
 obtain⟨w1,hw1⟩:∃w1,w1=w.alloc (.cells #[.slice none 0 0,.slice none 0 0] 26):=⟨_,rfl⟩
 have p1:Pair w1 w.heap.size 26 (.slice none 0 0) (.slice none 0 0):=by rw[hw1];exact Pair.new w _ _ _
 have b1:Below w.heap.size w w1:=by rw[hw1];exact belowAlloc w _
 have hs1:w.heap.size<w1.heap.size:=by rw[hw1];simp
 by_cases hc:cntOk n=true
 ·rw[hc]
  obtain⟨zs,hz⟩:∃zs,zs=zerosI n:=⟨_,rfl⟩
  have c2:∀w',_:=fun w'=>new_any8 n w'
  rw[←hz]at c2⊢
  have c1:=cnt_any n w1
  rw[hc]at c1
  clear hz hc
  go_enter Tryz.func36,Tryz.ntmps36
  go_wp2_with fail
  rw[←hw1]
  clear hw1
  refine c1.mono ?_
  rintro e w' ⟨rfl,hw⟩;subst w'
  go_wp2_with fail
  refine(c2 w1).mono ?_
  rintro e w2 ⟨a,rfl,o2,b2⟩
  have HS:Hid (w.heap.size<w1.heap.size∧w1.heap.size≤w2.heap.size):=⟨hs1,b2.size⟩
  replace p1:=p1.below b2
  replace b1:=b1.trans (b2.mono b1.size)
  clear b2 c1 hs1
  go_wp2_with fail
  refine(c2 w2).mono ?_
  rintro e w3 ⟨b,rfl,o3,b3⟩
  have hap:=apart_of o2 o3 (Nat.le_refl _)
  replace o2:=o2.below b3
  replace p1:=p1.below b3
  replace b1:=b1.trans (b3.mono b1.size)
  obtain⟨ao,ca,hea⟩:=o2.reads.form
  obtain⟨bo,cb,heb⟩:=o3.reads.form
  subst hea heb
  have HO:Hid (Own w3 w1.heap.size _ zs∧Own w3 w2.heap.size _ zs∧apart _ _∧Below w.heap.size w w3):=⟨o2,o3,hap,b1⟩
  clear o2 o3 hap b1 b3 c2
  go_wp2_with (refine wpList_putP rfl _ _ rfl w.heap.size _ _ _ _ rfl rfl rfl rfl p1 ?_;intro w4 p4 g4)
  refine bodyPost_ret (results_pair2 rfl _ _ w.heap.size _ _ _ rfl rfl p4) rfl ?_
  obtain⟨o2,o3,hap,b1⟩:=HO.out
  have hs:=HS.out
  exact⟨_,_,rfl,⟨(o2.keptLt g4 (by omega)).mono (by omega),(o3.keptLt g4 (by omega)).mono (by omega),hap⟩,b1.grown g4 b1.size (fun k e=>by cases e;omega)⟩
 ·have hc':cntOk n=false:=by simpa using hc
  have HZ:Hid (zerosI n=[]):=by simp[Hid,zerosI];simp[cntOk]at hc';omega
  have c1:=cnt_any n w1
  rw[hc']at c1⊢
  clear hc hc'
  go_enter Tryz.func36,Tryz.ntmps36
  go_wp2_with fail
  rw[←hw1]
  clear hw1
  refine c1.mono ?_
  rintro e w' ⟨rfl,hw⟩;subst w'
  clear c1
  go_wp2_with (refine wpList_putP rfl _ _ rfl w.heap.size _ _ _ _ rfl rfl rfl rfl p1 ?_;intro w4 p4 g4)
  refine bodyPost_ret (results_pair2 rfl _ _ w.heap.size _ _ _ rfl rfl p4) rfl ?_
  rw[HZ.out]
  exact⟨_,_,rfl,ownNil2 _ _,b1.grown g4 b1.size (fun k e=>by cases e;omega)⟩
end Go.Proofs.YtpdggofaobmnlaaGreatDoor
namespace Go.Proofs.YtpdggofaobmnlaaGreatDoor
open Go.ChangeShapes Go.WideShapes Go.ChangeAt Go.RowKit
def kA (f:Nat→Int):Array Value:=#[.int .i64 (f 0),.int .i64 (f 1),.int .i64 (f 2),.int .i64 (f 3)]
def KF (ks:List Int):Nat→Int:=fun j=>ks.getD j 0
theorem four {p:Nat→Prop} (h0:p 0) (h1:p 1) (h2:p 2) (h3:p 3):∀j,j<4→p j
 |0,_=>h0|1,_=>h1|2,_=>h2|3,_=>h3
 |_+4,h=>by omega
theorem Tryz.isKeyRow:(Tryz.prog.info? 104).map (·.size)=some 4:=by kernel_rfl
theorem Tryz.underK:Tryz.prog.underlying 104=some (.array 4 2):=by kernel_rfl
theorem ikeyok_any (x:Int) (w:World):
  Calls Tryz.prog 160 #[.int .i64 x] w fun e w'=>e=.returned (.bool (inI x 0 9999))∧w'=w:=by
 by_cases h0:0≤x
 ·by_cases h1:x≤9999
  ·rw[show inI x 0 9999=true by simp[inI,h0,h1]]
   go_enter Tryz.func160,Tryz.ntmps160
   go_wp2
   go_ret
   exact⟨ret_bool (by simp),rfl⟩
  ·rw[show inI x 0 9999=false by simp[inI];omega]
   go_enter Tryz.func160,Tryz.ntmps160
   go_wp2
   go_ret
   exact⟨ret_bool (by simp),rfl⟩
 ·rw[show inI x 0 9999=false by simp[inI];omega]
  go_enter Tryz.func160,Tryz.ntmps160
  go_wp2
  go_ret
  exact⟨ret_bool (by simp),rfl⟩
theorem iturnok_any (x:Int) (w:World):
  Calls Tryz.prog 139 #[.int .i64 x] w fun e w'=>e=.returned (.bool (inI x 0 1000000000))∧w'=w:=by
 by_cases h0:0≤x
 ·by_cases h1:x≤1000000000
  ·rw[show inI x 0 1000000000=true by simp[inI,h0,h1]]
   go_enter Tryz.func139,Tryz.ntmps139
   go_wp2
   go_ret
   exact⟨ret_bool (by simp),rfl⟩
  ·rw[show inI x 0 1000000000=false by simp[inI];omega]
   go_enter Tryz.func139,Tryz.ntmps139
   go_wp2
   go_ret
   exact⟨ret_bool (by simp),rfl⟩
 ·rw[show inI x 0 1000000000=false by simp[inI];omega]
  go_enter Tryz.func139,Tryz.ntmps139
  go_wp2
  go_ret
  exact⟨ret_bool (by simp),rfl⟩
theorem iperson_any (x:Int) (w:World):
  Calls Tryz.prog 70 #[.int .i64 x] w fun e w'=>e=.returned (.bool (inI x 0 3))∧w'=w:=by
 by_cases h0:0≤x
 ·by_cases h1:x<4
  ·rw[show inI x 0 3=true by simp[inI,h0];omega]
   go_enter Tryz.func70,Tryz.ntmps70
   go_wp2
   go_ret
   exact⟨ret_bool (by simp),rfl⟩
  ·rw[show inI x 0 3=false by simp[inI];omega]
   go_enter Tryz.func70,Tryz.ntmps70
   go_wp2
   go_ret
   exact⟨ret_bool (by simp),rfl⟩
 ·rw[show inI x 0 3=false by simp[inI];omega]
  go_enter Tryz.func70,Tryz.ntmps70
  go_wp2
  go_ret
  exact⟨ret_bool (by simp),rfl⟩
theorem iregd_any (f:Nat→Int) (i:Int) (w:World):
  Calls Tryz.prog 143 #[.agg (kA f),.int .i64 i] w fun e w'=>e=.returned (.bool (inI i 0 3&&decide (f i.toNat≠0)))∧Below w.heap.size w w':=by
 have b1:Below w.heap.size w (w.alloc (.cells (kA f) 104)):=(Below.refl _ _).alloc (Nat.le_refl _) _
 have H1:StB (w.alloc (.cells (kA f) 104)) w.heap.size 104 (kA f):=StB.new _ _ _
 have c1:=fun wx=>iperson_any i wx
 by_cases h:0≤i∧i<4
 ·have hin:inI i 0 3=true:=by simp[inI];omega
  simp only[hin]at c1⊢
  obtain⟨j,hj,hj4⟩:∃j:Nat,i=(j:Int)∧j<4:=⟨i.toNat,by omega,by omega⟩
  subst hj
  obtain⟨y,hy⟩:∃y,y=f j:=⟨_,rfl⟩
  have hc:(w.alloc (.cells (kA f) 104)).cell? ⟨w.heap.size,j,none⟩=some (.int .i64 y):=by
   rw[hy];exact H1.cell j (four (p:=fun j=>(kA f)[j]?=some (.int .i64 (f j))) rfl rfl rfl rfl j hj4)
  have HY:Hid (y=f j):=hy
  have hl:(j:Int)<4:=by omega
  clear hin hy h H1
  unfold kA at*
  by_cases y0:y=0
  ·go_enter Tryz.func143,Tryz.ntmps143
   go_wp2_with (first|(go_at_call 70;refine(c1 _).mono ?_;rintro e w' ⟨rfl,hw⟩;subst w'))
   go_ret
   exact⟨ret_bool (by simp[←HY.out,y0]),b1⟩
  ·have hyn:(y !=0)=true:=by simpa using y0
   go_enter Tryz.func143,Tryz.ntmps143
   go_wp2_with (first|(go_at_call 70;refine(c1 _).mono ?_;rintro e w' ⟨rfl,hw⟩;subst w'))
   go_ret
   exact⟨ret_bool (by simp[←HY.out,y0]),b1⟩
 ·have hin:inI i 0 3=false:=by simp[inI];omega
  simp only[hin]at c1⊢
  clear h hin H1
  unfold kA at*
  go_enter Tryz.func143,Tryz.ntmps143
  go_wp2_with (first|(go_at_call 70;refine(c1 _).mono ?_;rintro e w' ⟨rfl,hw⟩;subst w'))
  go_ret
  exact⟨ret_bool (by simp),b1⟩
def anyF (f:Nat→Int):Bool:=(f 0 !=0)||(f 1 !=0)||(f 2 !=0)||(f 3 !=0)
theorem run_eqK0 (f:Nat→Int) (w:World):(Op.equalIn 10000 104 (.agg (kA f)) (.agg (kA fun _=>0))).run Tryz.prog w=.ok (!anyF f) w:=by
 obtain⟨i0,hi,hz0,hz1,hz2⟩:=info_parts Tryz.infoI
 have hz:Tryz.prog.cellsOf 2=1:=by kernel_rfl
 have hu:Tryz.prog.underlying 2=some (.int .i64):=by kernel_rfl
 rw[show(10000:Nat)=9998+1+1 from rfl,run_equalIn_array (i:=i0) w (9998+1) _ _ Tryz.underK hi,hz]
 simp[List.range,List.range.loop,Op.eqItems,part,Sem.run_bind,sizeOf,typeInfo,hi,hz1,hu,kA,run_equalIn_int,anyF]
 (repeat' split)<;>simp_all
theorem ianyreg_any (f:Nat→Int) (w:World):
  Calls Tryz.prog 162 #[.agg (kA f)] w fun e w'=>e=.returned (.bool (anyF f))∧Below w.heap.size w w':=by
 have b1:Below w.heap.size w (w.alloc (.cells (kA f) 104)):=(Below.refl _ _).alloc (Nat.le_refl _) _
 have he:=run_eqK0 f (w.alloc (.cells (kA f) 104))
 obtain⟨x,hx⟩:∃x,x=anyF f:=⟨_,rfl⟩
 rw[←hx]at he⊢
 clear hx
 unfold kA at*
 cases x with
 |false=>
  go_enter Tryz.func162,Tryz.ntmps162
  go_wp2
  go_ret
  exact⟨rfl,b1⟩
 |true=>
  go_enter Tryz.func162,Tryz.ntmps162
  go_wp2
  go_ret
  exact⟨rfl,b1⟩
end Go.Proofs.YtpdggofaobmnlaaGreatDoor
namespace Go.Proofs.YtpdggofaobmnlaaGreatDoor
open Go.ChangeShapes Go.WideShapes Go.ChangeAt Go.RowKit
theorem kA_size (f:Nat→Int):(kA f).size=4:=rfl
theorem kA_one (f:Nat→Int):(kA f).all (·.oneCell')=true:=by simp[kA,Value.oneCell']
theorem kA_at (f:Nat→Int):∀j,j<4→(kA f)[j]?=some (.int .i64 (f j)):=four rfl rfl rfl rfl
def updF (f:Nat→Int) (j:Nat) (x:Int):Nat→Int:=fun k=>if k=j then x else f k
theorem kA_set (f:Nat→Int) (x:Int):∀j,j<4→(kA f).setIfInBounds j (.int .i64 x)=kA (updF f j x):=four rfl rfl rfl rfl
theorem kA_congr {f g:Nat→Int} (h:∀j,j<4→f j=g j):kA f=kA g:=by
 simp[kA,h 0,h 1,h 2,h 3]
def partK (xs:List Int) (j:Nat):Nat→Int:=fun k=>if k<j then xs.getD k 0 else 0
theorem partK_step (xs:List Int) (j:Nat):updF (partK xs j) j (xs.getD j 0)=partK xs (j+1):=by
 funext k
 unfold updF partK
 by_cases e:k=j
 ·subst e;simp
 ·have:k<j+1↔k<j:=by omega
  simp[e,this]
theorem partK_zero (xs:List Int):partK xs 0=fun _=>0:=by funext k;simp[partK]
theorem partK_full (xs:List Int):partK xs xs.length=KF xs:=by
 funext k
 unfold partK KF
 split
 ·rfl
 ·rw[List.getD_eq_getElem?_getD,List.getElem?_eq_none (by omega)];rfl
def rowOk (ks:List Int):Bool:=decide (ks.length=4)&&keysI ks
def rowKF (ks:List Int):Nat→Int:=fun j=>if rowOk ks then ks.getD j 0 else 0
theorem rowKF_yes {xs:List Int} (h:rowOk xs=true):rowKF xs=KF xs:=by funext k;simp[rowKF,KF,h]
theorem rowKF_no {xs:List Int} (h:rowOk xs=false):rowKF xs=fun _=>0:=by funext k;simp[rowKF,h]
theorem wpList_getK {ops:Array Oper} {rest:List Oper} {o:Oper} {a:Act} {w:World} {Q:Exit→Act→World→Prop} (hgd:o.guard=none) (x:Operand) (ho:o.op=.load 104 x)
  (g:Nat) (hx:a.eval x=.pointer (some ⟨g,0,none⟩)) (f:Nat→Int) (hr:StB w g 104 (kA f))
  (h:wpList Tryz.prog ops Q rest (a.put o.dst (.agg (kA f))) w):wpList Tryz.prog ops Q (o::rest) a w:=
 wpList_load_row hgd _ x ho g hx _ _ _ _ hr Tryz.underK rfl Tryz.isKeyRow h
theorem wpList_putK {ops:Array Oper} {rest:List Oper} {o:Oper} {a:Act} {w:World} {Q:Exit→Act→World→Prop} (hgd:o.guard=none) (x y:Operand) (ho:o.op=.store 104 x y)
  (g:Nat) (f:Nat→Int) (hx:a.eval x=.pointer (some ⟨g,0,none⟩)) (hy:a.eval y=.agg (kA f)) (old:Nat→Int) (hr:StB w g 104 (kA old))
  (h:∀w',StB w' g 104 (kA f)→w.grownBy w' (some g)→wpList Tryz.prog ops Q rest (a.put o.dst undef) w'):wpList Tryz.prog ops Q (o::rest) a w:=
 wpList_store_row hgd _ x y ho g (kA f) hx hy _ _ hr Tryz.isKeyRow rfl (kA_one f) (h _ (setRow_heap w g _ _ _ _ hr) (grownRowS w g _))
theorem results_K {fn:Func} {p u:Tmp} (h:fn.results=#[.cell p 104,.tmp u]) (tmps:Array Value) (w:World) (g:Nat) (f:Nat→Int) (x:Value)
  (hp:tmps.getD p undef=.pointer (some ⟨g,0,none⟩)) (hx:tmps.getD u undef=x) (hr:StB w g 104 (kA f)):
  (results fn tmps).run Tryz.prog w=.ok (.tuple #[.agg (kA f),x]) w:=by
 rw[results_cell_tmp h,hp,hx]
 simp only[asAddr,Sem.run_pure,Result.andThen_ok]
 rw[run_loadVar_row w g _ _ _ _ _ hr Tryz.underK rfl Tryz.isKeyRow]
 rfl
def KRel (xs:List Int) (w wr:World) (j:Nat):Prop:=StB wr w.heap.size 104 (kA fun _=>0)∧StB wr (w.heap.size+1) 104 (kA (partK xs j))∧keysI (xs.take j)=true∧Below w.heap.size w wr
theorem KRel.start (xs:List Int) (w:World):KRel xs w ((w.alloc (.cells (kA fun _=>0) 104)).alloc (.cells (kA fun _=>0) 104)) 0:=by
 refine⟨(StB.new w _ _).alloc _,?_,by simp[keysI],((Below.refl _ _).alloc (Nat.le_refl _) _).alloc (by simp) _⟩
 have:=StB.new (w.alloc (.cells (kA fun _=>0) 104)) 104 (kA fun _=>0)
 rw[partK_zero]
 simpa using this
theorem ikeyrow_any (v:Value) (xs:List Int) (w:World) (h:Reads w v xs) (hbig:xs.length≤1099511627776):
  Calls Tryz.prog 137 #[v] w fun e w'=>e=.returned (.tuple #[.agg (kA (rowKF xs)),.bool (rowOk xs)])∧Below w.heap.size w w':=by
 obtain⟨ao,cap,rfl⟩:=reads_form h
 obtain⟨-,la,ma,hcell⟩:=reads_cells h
 have HR0:Hid (Reads w (.slice ao xs.length cap) xs):=h
 clear h
 obtain⟨n,hn⟩:∃n,n=xs.length:=⟨_,rfl⟩
 rw[←hn]at la hcell hbig HR0⊢
 have HN:Hid (n=xs.length):=hn
 clear hn
 unfold maxLen at ma
 by_cases hc:n=4
 ·subst hc
  go_enter Tryz.func137,Tryz.ntmps137
  go_wp2_with fail
  go_loopw [14] (fun i wr=>∃j:Nat,j≤4∧i=.int .i64 j∧Hid (KRel xs w wr j)) (fun i _=>4-(intOf i).toNat)
  case atStart=>exact⟨0,Nat.zero_le _,rfl,KRel.start xs w⟩
  case round=>
   obtain⟨j,hj,rfl,HR⟩:=hrel
   by_cases hlt:(j:Int)<4
   ·obtain⟨-, -, -,hcell'⟩:=reads_cells (HR0.out.below HR.out.2.2.2 (Nat.le_refl _))
    obtain⟨b,off,rfl,hc1⟩:=hcell' j (by omega)
    obtain⟨x,hx⟩:∃x,x=xs.getD j 0:=⟨_,rfl⟩
    rw[←hx]at hc1
    clear hcell hcell'
    by_cases hv:inI x 0 9999=true
    ·have hfr:=HR.out.2.1.frozen j
     have hcc:=HR.out.2.1.cell j (kA_at _ j (by omega))
     have HS:Hid (KRel xs w (wr.setCell ⟨w.heap.size+1,j,none⟩ (.int .i64 x)) (j+1)):=by
      obtain⟨r1,r2,r3,r4⟩:=HR.out
      refine⟨r1.other _ _ (by simp),?_,keys_take xs j (by have:=HN.out;omega) r3 (by rw[←hx];exact hv),r4.setCell (by simp) _⟩
      refine r2.put j (.int .i64 x) ?_
      rw[kA_set _ _ j (by omega),hx,partK_step]
     clear hx HR
     go_wp2_with (first|(go_at_call 160;refine(ikeyok_any _ _).mono ?_;rw[hv];rintro e w' ⟨rfl,hw⟩;subst w'))
     go_roundw
     case rel=>exact⟨j+1,by omega,by go_num,HS⟩
     case measure=>simp[intOf];omega
    ·have hv':inI x 0 9999=false:=by simpa using hv
     have HB:Hid (rowOk xs=false):=by
      simp[Hid,rowOk,keys_not xs j (by have:=HN.out;omega) (by rw[←hx];exact hv')]
     have hrow:=HR.out.1
     clear hx hv
     go_wp2_with (first|(go_at_call 160;refine(ikeyok_any _ _).mono ?_;rw[hv'];rintro e w' ⟨rfl,hw⟩;subst w')|(refine wpList_putK rfl _ _ rfl w.heap.size (fun _=>0) rfl rfl _ hrow ?_;intro w3 h3 g3))
     refine bodyPost_ret (results_K rfl _ _ w.heap.size (fun _=>0) _ rfl rfl h3) rfl ?_
     rw[HB.out,rowKF_no HB.out]
     exact⟨rfl,HR.out.2.2.2.grown g3 HR.out.2.2.2.size (fun k e=>by cases e;exact Nat.le_refl _)⟩
   ·have hrow:=HR.out.1
    have hrow2:=HR.out.2.1
    go_wp2_with (first|(refine wpList_getK rfl _ rfl (w.heap.size+1) rfl _ hrow2 ?_)|(refine wpList_putK rfl _ _ rfl w.heap.size (partK xs j) rfl rfl _ hrow ?_;intro w3 h3 g3))
    refine bodyPost_ret (results_K rfl _ _ w.heap.size (partK xs j) _ rfl rfl h3) rfl ?_
    have e:j=xs.length:=by have:=HN.out;omega
    have HB:rowOk xs=true:=by
     have:=HR.out.2.2.1
     rw[e,List.take_length]at this
     simp[rowOk,this,←HN.out]
    rw[HB,rowKF_yes HB,e,partK_full]
    exact⟨rfl,HR.out.2.2.2.grown g3 HR.out.2.2.2.size (fun k e=>by cases e;exact Nat.le_refl _)⟩
 ·have hn4:((n:Int) !=4)=true:=by simp;omega
  have HB:Hid (rowOk xs=false):=by
   have:=HN.out
   simp[Hid,rowOk];intro h;omega
  have hrow:=(KRel.start xs w).1
  have hz:StB (w.alloc (.cells (kA fun _=>0) 104)) w.heap.size 104 (kA fun _=>0):=StB.new _ _ _
  have hzB:Below w.heap.size w (w.alloc (.cells (kA fun _=>0) 104)):=(Below.refl _ _).alloc (Nat.le_refl _) _
  clear hrow hcell
  go_enter Tryz.func137,Tryz.ntmps137
  go_wp2_with (first|(refine wpList_putK rfl _ _ rfl w.heap.size (fun _=>0) rfl rfl _ hz ?_;intro w3 h3 g3))
  refine bodyPost_ret (results_K rfl _ _ w.heap.size (fun _=>0) _ rfl rfl h3) rfl ?_
  rw[HB.out,rowKF_no HB.out]
  exact⟨rfl,hzB.grown g3 hzB.size (fun k e=>by cases e;exact Nat.le_refl _)⟩
def listK (f:Nat→Int):List Int:=[f 0,f 1,f 2,f 3]
theorem listK_KF {ks:List Int} (h:ks.length=4):listK (KF ks)=ks:=by
 match ks,h with
 |[a,b,c,d],_=>rfl
theorem ilistK_any (f:Nat→Int) (w:World):
  Calls Tryz.prog 124 #[.agg (kA f)] w fun e w'=>∃u,e=.returned u∧Own w' w.heap.size u (listK f)∧Below w.heap.size w w':=by
 obtain⟨i0,hi,hz0,hz1,hz2⟩:=info_parts Tryz.infoI
 obtain⟨w1,hw1⟩:∃w1,w1=(w.alloc (.cells (kA f) 104)).alloc (.cells #[] 2):=⟨_,rfl⟩
 have hown:w1.ownsRow w.heap.size 2 1 (.slice (some ⟨w.heap.size+1,0,none⟩) 0 0) 0 []:=by
  have:=World.ownsRow_lit (base:=w.heap.size) (e:=2) (size:=1) (w.alloc (.cells (kA f) 104)) #[] 0 (by simp) (Nat.zero_le _) rfl
  rw[hw1]
  simpa using this
 have hrow:StB w1 w.heap.size 104 (kA f):=by rw[hw1];exact(StB.new w _ _).alloc _
 have hnews:∀j u,((listK f).map (Value.int .i64))[j]?=some u→w1.cell? ((⟨w.heap.size,0,none⟩:Addr).add j)=some u:=by
  intro j u hj
  have hlt:j<4:=by
   rcases Nat.lt_or_ge j 4 with h|h
   ·exact h
   ·rw[List.getElem?_eq_none (by simpa[listK]using h)]at hj;cases hj
  rw[show(⟨w.heap.size,0,none⟩:Addr).add j=⟨w.heap.size,j,none⟩ by unfold Addr.add;split<;>simp_all]
  rw[hrow.cell j (kA_at f j hlt)]
  rw[←hj]
  exact four (p:=fun j=>some (Value.int .i64 (f j))=((listK f).map (Value.int .i64))[j]?) rfl rfl rfl rfl j hlt
 have hone:∀u∈(listK f).map (Value.int .i64),u.oneCell'=true:=by
  intro u hu
  obtain⟨x,_,rfl⟩:=List.mem_map.1 hu
  rfl
 have hll:((listK f).map (Value.int .i64)).length=4*1:=rfl
 have hb1:Below w.heap.size w w1:=by rw[hw1];exact((Below.refl _ _).alloc (Nat.le_refl _) _).alloc (by simp) _
 go_enter Tryz.func124,Tryz.ntmps124
 go_wp2_with (at_builtin;rw[←hw1];refine wpList_append_own _ rfl _ _ 24 rfl w.heap.size 2 i0 (.int .i64 0) 1 8 Tryz.underlying24 hi hz0 hz1 hz2 rfl (by decide) _ _ _ rfl hown _ 4 4 ((listK f).map (Value.int .i64)) rfl hll hnews hone (by unfold maxLen;omega) (by omega) hb1.size ?_)
 intro v' w2 hown' hgrow _
 rw[←hw1]at hgrow
 have HG:Hid (Below w.heap.size w w2):=hb1.grown hgrow hb1.size (fun g e=>by simp[Value.ownBlock]at e;omega)
 go_wp2
 go_ret
 refine⟨_,rfl,?_,HG.out⟩
 unfold Own
 simpa[show(listK f).length=4 from rfl]using hown'
end Go.Proofs.YtpdggofaobmnlaaGreatDoor
