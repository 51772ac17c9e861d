/- What ShowRecord of the program answers. -/
import Derived.Test.YthmnmaemnihkeaaDoorM30
import Derived.Test.YthmnmaemnihkeaaDoorM25
import Derived.ChangeKeysEq
set_option maxRecDepth 20000
set_option maxHeartbeats 2000000
namespace Go.Proofs.YthmnmaemnihkeaaDoor
open Go.ChangeShapes Go.WideShapes Go.ChangeAt Go.RowKit
def partS (xs:List Int) (j:Nat):Bs:=recW++(xs.take j).flatMap (fun x=>32::decI x)
theorem partS_step (xs:List Int) (j:Nat) (h:j<xs.length):partS xs (j+1)=partS xs j++(32::decI (xs.getD j 0)):=by
 unfold partS
 have e:xs.getD j 0=xs[j]:=by simp[h]
 rw[List.take_succ_eq_append_getElem h,List.flatMap_append,e]
 simp
theorem partS_all (r:Rc):partS [r.e,r.s,r.t,r.n] 4=showR r:=by simp[partS,showR]
theorem itoa_pos {x:Int} (h:0≤x):Lib.itoa x=decI x:=by
 obtain⟨n,rfl⟩:∃n:Nat,x=n:=⟨x.toNat,by omega⟩
 rw[itoa_dec,decI_nat]
theorem partS_len (xs:List Int) (h:∀x∈xs,0≤x∧x≤100000):∀j,(partS xs j).length≤6+8*j:=by
 intro j
 induction j with
 |zero=>simp[partS,recW]
 |succ j ih=>
  by_cases hj:j<xs.length
  ·have hx:=h (xs.getD j 0) (by simp[hj])
   have hl:=dec_len 5 (xs.getD j 0).toNat (by omega)
   rw[partS_step xs j hj,List.length_append,List.length_cons,decI_pos hx.1]
   omega
  ·have:partS xs (j+1)=partS xs j:=by unfold partS;rw[List.take_of_length_le (by omega),List.take_of_length_le (by omega)]
   rw[this];omega
theorem Tryd.infoJ:(Tryd.prog.info? 2).map (fun i=>(i.zero,i.size,i.bytes))=some (some (.int .i64 0),1,8):=by kernel_rfl
theorem Tryd.cellsJ:Tryd.prog.cellsOf 2=1:=by kernel_rfl
theorem Tryd.plainJ:Tryd.prog.plainKey 2=true:=by kernel_rfl
theorem idx4 (cs:Array Value) (j:Nat) (hj:j<4) (v:Value) (hv:cs[j]?=some v) (w:World):(Instr.index 88 (.agg cs) (.int .i64 (j:Int))).run Tryd.prog w=.ok v w:=by
 obtain⟨i0,hi,hz0,hz1,hz2⟩:=info_parts Tryd.infoJ
 have h1:(0:Int)≤(j:Int)∧(j:Int)<((4:Nat):Int):=by omega
 have h2:((j:Int)).toNat*1=j:=by omega
 simp only[Instr.index,asIntOf,run_underlying Tryd.underlying88,Sem.run_bind,Sem.run_pure,Result.andThen_ok,h1,and_self,if_true,run_sizeOf w hi,Tryd.cellsJ,h2]
 exact run_part_plain w Tryd.plainJ hv
theorem ishow_any (r:Rc) (w:World) (ht:Tab w):
  Calls Tryd.prog 39 #[RV r] w fun e w'=>e=.returned (S (showS r))∧Below w.heap.size w w':=by
 have c1:=fun wx=>irecok_any r wx
 have R0:=RecB.new w 38 r
 have B0:Below w.heap.size w (w.alloc (.cells (recA r) 38)):=(Below.refl _ _).alloc (Nat.le_refl _) _
 have HS:Hid (showS r=if r.ok then showR r else[]):=rfl
 have HK:Hid (r.ok=true→∀x∈[r.e,r.s,r.t,r.n],0≤x∧x≤100000):=by
  intro h x hx
  have hk:=(Rc.ok_iff r).1 h
  simp only[List.mem_cons,List.mem_nil_iff,or_false]at hx
  rcases hx with rfl|rfl|rfl|rfl<;>omega
 obtain⟨b,hb⟩:∃b,b=r.ok:=⟨_,rfl⟩
 rw[←hb]at HS HK
 simp only[←hb]at c1
 have HT:Hid (Tab w):=ht
 clear hb ht
 unfold RV S at*
 go_enter Tryd.func39,Tryd.ntmps39
 go_wp2_with (refine wpList_getR rfl _ rfl w.heap.size rfl r R0 ?_;unfold RV)
 refine(c1 _).mono ?_
 rintro e w1 ⟨rfl,b1⟩
 have R1:=R0.below b1
 have B1:=B0.trans (b1.mono B0.size)
 clear b1 R0 B0 c1
 cases b with
 |false=>
  go_wp2_with fail
  go_ret
  rw[HS.out]
  exact⟨rfl,B1⟩
 |true=>
  have k0:w1.cell? ⟨w.heap.size,0,none⟩=some (.int .i64 r.e):=R1.cell 0 rfl
  have k1:w1.cell? ⟨w.heap.size,1,none⟩=some (.int .i64 r.s):=R1.cell 1 rfl
  have k2:w1.cell? ⟨w.heap.size,2,none⟩=some (.int .i64 r.t):=R1.cell 2 rfl
  have k3:w1.cell? ⟨w.heap.size,3,none⟩=some (.int .i64 r.n):=R1.cell 3 rfl
  have HX:Hid (∀x∈[r.e,r.s,r.t,r.n],0≤x∧x≤100000):=HK.out rfl
  have HB1:Hid (Below w.heap.size w w1):=B1
  clear R1 HK B1
  obtain⟨xs,hxs⟩:∃xs,xs=[r.e,r.s,r.t,r.n]:=⟨_,rfl⟩
  have HXS:Hid (xs=[r.e,r.s,r.t,r.n]):=hxs
  rw[←hxs]at HX
  clear hxs
  have hl4:Hid (xs.length=4):=by rw[Hid,HXS.out];rfl
  go_wp2
  go_loopw [3,18] (fun s i wr=>∃j:Nat,(j:Int)≤4∧i=.int .i64 j∧s=.string ⟨(partS xs j).toArray⟩∧Hid (Below w.heap.size w wr)) (fun _ i _=>4-(intOf i).toNat)
  case atStart=>exact⟨0,by omega,rfl,by simp[partS,recW],HB1⟩
  case round=>
   obtain⟨j,hj,rfl,rfl,HB⟩:=hrel
   by_cases hlt:(j:Int)<4
   ·have hj4:j<xs.length:=by have:=hl4.out;omega
    have hb:=HX.out (xs.getD j 0) (by simp[hj4])
    have c2:=fun wx (h:Tab wx)=>Tryd.strconv_FormatInt_10 (xs.getD j 0) (by omega) (by omega) wx h
    simp only[itoa_pos hb.1]at c2
    have hdl:=decI_len (xs.getD j 0) (by omega) (by omega)
    have hpl:=partS_len xs HX.out j
    have HP:Hid (partS xs (j+1)=partS xs j++(32::decI (xs.getD j 0))):=partS_step xs j hj4
    obtain⟨f,hf⟩:∃f,f=partS xs j:=⟨_,rfl⟩
    rw[←hf]at hpl HP⊢
    obtain⟨d,hd⟩:∃d,d=decI (xs.getD j 0):=⟨_,rfl⟩
    rw[←hd]at hdl HP
    simp only[←hd]at c2
    have hidx:xs.getD j 0=[r.e,r.s,r.t,r.n].getD j 0:=by rw[HXS.out]
    have ha1:=app [32] d
    have ha2:=app f ([32]++d)
    have hz1:(⟨f.toArray⟩:ByteArray).size=f.length:=rfl
    have hz2:(⟨d.toArray⟩:ByteArray).size=d.length:=rfl
    have hz3:(⟨([32]++d).toArray⟩:ByteArray).size=1+d.length:=by rw[bsize];simp;omega
    clear hf hd hb
    have i4:∀v,(#[.int .i64 r.e,.int .i64 r.s,.int .i64 r.t,.int .i64 r.n]:Array Value)[j]?=some v→_:=fun v hv=>idx4 #[.int .i64 r.e,.int .i64 r.s,.int .i64 r.t,.int .i64 r.n] j (by omega) v hv wr
    obtain rfl|rfl|rfl|rfl:j=0∨j=1∨j=2∨j=3:=by omega
    ·simp only[List.getD_cons_zero]at hidx
     rw[hidx]at c2
     clear hidx
     have i5:(Instr.index 88 (.agg #[.int .i64 r.e,.int .i64 r.s,.int .i64 r.t,.int .i64 r.n]) (.int .i64 0)).run Tryd.prog wr=.ok (.int .i64 r.e) wr:=i4 _ rfl
     clear i4
     go_wp2_with fail
     refine(c2 _ (HT.out.below HB.out)).mono ?_
     rintro e w2 ⟨rfl,k2,o2,hw2⟩
     have HC:Hid (Below w.heap.size w w2):=HB.out.trans (by rw[hw2];exact(below_grow wr k2 o2).mono HB.out.size)
     clear hw2 c2 HB
     go_wp2
     go_roundw
     case rel=>exact⟨0+1,by omega,by go_num,by rw[HP.out];simp;exact app f (32::d),HC⟩
     case measure=>simp[intOf]
    ·simp only[List.getD_cons_zero,List.getD_cons_succ]at hidx
     rw[hidx]at c2
     clear hidx
     have i5:(Instr.index 88 (.agg #[.int .i64 r.e,.int .i64 r.s,.int .i64 r.t,.int .i64 r.n]) (.int .i64 1)).run Tryd.prog wr=.ok (.int .i64 r.s) wr:=i4 _ rfl
     clear i4
     go_wp2_with fail
     refine(c2 _ (HT.out.below HB.out)).mono ?_
     rintro e w2 ⟨rfl,k2,o2,hw2⟩
     have HC:Hid (Below w.heap.size w w2):=HB.out.trans (by rw[hw2];exact(below_grow wr k2 o2).mono HB.out.size)
     clear hw2 c2 HB
     go_wp2
     go_roundw
     case rel=>exact⟨1+1,by omega,by go_num,by rw[HP.out];simp;exact app f (32::d),HC⟩
     case measure=>simp[intOf]
    ·simp only[List.getD_cons_zero,List.getD_cons_succ]at hidx
     rw[hidx]at c2
     clear hidx
     have i5:(Instr.index 88 (.agg #[.int .i64 r.e,.int .i64 r.s,.int .i64 r.t,.int .i64 r.n]) (.int .i64 2)).run Tryd.prog wr=.ok (.int .i64 r.t) wr:=i4 _ rfl
     clear i4
     go_wp2_with fail
     refine(c2 _ (HT.out.below HB.out)).mono ?_
     rintro e w2 ⟨rfl,k2,o2,hw2⟩
     have HC:Hid (Below w.heap.size w w2):=HB.out.trans (by rw[hw2];exact(below_grow wr k2 o2).mono HB.out.size)
     clear hw2 c2 HB
     go_wp2
     go_roundw
     case rel=>exact⟨2+1,by omega,by go_num,by rw[HP.out];simp;exact app f (32::d),HC⟩
     case measure=>simp[intOf]
    ·simp only[List.getD_cons_zero,List.getD_cons_succ]at hidx
     rw[hidx]at c2
     clear hidx
     have i5:(Instr.index 88 (.agg #[.int .i64 r.e,.int .i64 r.s,.int .i64 r.t,.int .i64 r.n]) (.int .i64 3)).run Tryd.prog wr=.ok (.int .i64 r.n) wr:=i4 _ rfl
     clear i4
     go_wp2_with fail
     refine(c2 _ (HT.out.below HB.out)).mono ?_
     rintro e w2 ⟨rfl,k2,o2,hw2⟩
     have HC:Hid (Below w.heap.size w w2):=HB.out.trans (by rw[hw2];exact(below_grow wr k2 o2).mono HB.out.size)
     clear hw2 c2 HB
     go_wp2
     go_roundw
     case rel=>exact⟨3+1,by omega,by go_num,by rw[HP.out];simp;exact app f (32::d),HC⟩
     case measure=>simp[intOf]
   ·have HE:Hid (partS xs j=showR r):=by
     obtain rfl:j=4:=by omega
     rw[Hid,HXS.out,partS_all]
    rw[HE.out]
    go_wp2
    go_ret
    rw[HS.out]
    exact⟨rfl,HB.out⟩
end Go.Proofs.YthmnmaemnihkeaaDoor
