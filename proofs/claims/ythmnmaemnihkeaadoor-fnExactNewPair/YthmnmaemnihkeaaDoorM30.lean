/- The program's store, on: freshStore, NewStore, Power. -/
import Derived.Test.YthmnmaemnihkeaaDoorM18
import Derived.Test.YthmnmaemnihkeaaDoorM29
import Derived.Test.YthmnmaemnihkeaaDoorM24
import Derived.ArgAppend
import Derived.Test.YthmnmaemnihkeaaDoorM26
import Derived.Test.YthmnmaemnihkeaaDoorM9
import Derived.Test.YthmnmaemnihkeaaDoorM13
set_option maxRecDepth 20000
set_option maxHeartbeats 2000000
namespace Go.Proofs.YthmnmaemnihkeaaDoor
open Go.ChangeShapes Go.WideShapes Go.ChangeAt Go.RowKit
theorem inewStore_any (n:Int) (w:World):
  Calls Tryd.prog 24 #[.int .i64 n] w fun e w'=>∃a b k,e=.returned (.tuple #[SRV a b k (newS n).h,.bool (cntOk n)])∧OwnR w' w.heap.size a b k (newS n).xs (newS n).ys (newS n).h.ks∧Below w.heap.size w w':=by
 obtain⟨w1,hw1⟩:∃w1,w1=w.alloc (.cells #[.slice none 0 0,.slice none 0 0,.slice none 0 0,.int .i64 0,.int .i64 0,.int .i64 0] 60):=⟨_,rfl⟩
 have S1:Hid (StB w1 w.heap.size 60 zeR∧Below w.heap.size w w1∧w.heap.size+1≤w1.heap.size):=⟨by rw[hw1];exact StB.new _ _ _,by rw[hw1];exact(Below.refl _ _).alloc (Nat.le_refl _) _,by rw[hw1];simp⟩
 have c1:=newDisk_any n w1
 cases hn:cntOk n with
 |false=>
  rw[hn]at c1
  rw[newS_no hn]
  clear hn
  go_enter Tryd.func24,Tryd.ntmps24
  go_upto_region 1 with fail
  rw[←hw1]
  clear hw1
  go_wp2_with fail
  refine c1.mono ?_
  rintro e w2 ⟨a,b,rfl,o2,b2⟩
  obtain⟨ao,ac,rfl⟩:=o2.1.reads.form
  obtain⟨bo,bc,rfl⟩:=o2.2.1.reads.form
  obtain⟨w3,hw3⟩:∃w3,w3=w2.alloc (.cells #[.slice ao (zerosI n).length ac,.slice bo (zerosI n).length bc] 34):=⟨_,rfl⟩
  have b3:Below w2.heap.size w2 w3:=by rw[hw3];exact(Below.refl _ _).alloc (Nat.le_refl _) _
  have S3:Hid (StB w3 w.heap.size 60 zeR∧Below w.heap.size w w3):=⟨(S1.out.1.below b2).below b3,(S1.out.2.1.trans (b2.mono S1.out.2.1.size)).trans (b3.mono (Nat.le_trans S1.out.2.1.size b2.size))⟩
  clear S1 b2 b3 o2 c1
  go_upto_region 2 with fail
  rw[←hw3]
  clear hw3
  go_wp2_with (refine wpList_putS Tryd.isR rfl _ _ rfl w.heap.size zeR zeR rfl rfl rfl rfl (srA_one Hd.zero rfl rfl rfl) S3.out.1 ?_;intro w5 s5 g5)
  refine bodyPost_ret (results_S2 Tryd.isR rfl _ _ w.heap.size _ _ rfl rfl rfl s5) rfl ?_
  exact⟨_,_,_,rfl,OwnR.nil _ _,S3.out.2.grown g5 S3.out.2.size (fun k e=>by cases e;omega)⟩
 |true=>
  rw[hn]at c1
  rw[newS_yes hn]
  clear hn
  have HN:=fun wx=>inewH_any wx
  have CN:Hid (∀wx,Calls Tryd.prog 37 #[] wx fun e w'=>∃u,e=.returned (HV u Hd.new)∧Own w' wx.heap.size u Hd.new.ks∧Below wx.heap.size wx w'):=HN
  clear HN
  unfold HV hdA at CN
  go_enter Tryd.func24,Tryd.ntmps24
  go_upto_region 1 with fail
  rw[←hw1]
  clear hw1
  go_wp2_with fail
  refine c1.mono ?_
  rintro e w2 ⟨a,b,rfl,o2,b2⟩
  obtain⟨ao,ac,rfl⟩:=o2.1.reads.form
  obtain⟨bo,bc,rfl⟩:=o2.2.1.reads.form
  obtain⟨w3,hw3⟩:∃w3,w3=w2.alloc (.cells #[.slice ao (zerosI n).length ac,.slice bo (zerosI n).length bc] 34):=⟨_,rfl⟩
  have b3:Below w2.heap.size w2 w3:=by rw[hw3];exact(Below.refl _ _).alloc (Nat.le_refl _) _
  have S3:Hid (StB w3 w.heap.size 60 zeR∧Below w.heap.size w w3∧StB w3 w2.heap.size 34 #[.slice ao (zerosI n).length ac,.slice bo (zerosI n).length bc]∧OwnD w3 (w.heap.size+1) (.slice ao (zerosI n).length ac) (.slice bo (zerosI n).length bc) (zerosI n) (zerosI n)∧w.heap.size+1≤w2.heap.size∧w2.heap.size≤w3.heap.size):=
   ⟨(S1.out.1.below b2).below b3,(S1.out.2.1.trans (b2.mono S1.out.2.1.size)).trans (b3.mono (Nat.le_trans S1.out.2.1.size b2.size)),by rw[hw3];exact StB.new _ _ _,⟨(o2.1.mono S1.out.2.2).below b3,(o2.2.1.mono S1.out.2.2).below b3,o2.2.2⟩,Nat.le_trans S1.out.2.2 b2.size,b3.size⟩
  clear S1 b2 b3 o2 c1
  go_upto_region 2 with fail
  rw[←hw3]
  clear hw3
  go_upto_region 4 with fail
  obtain⟨g,hg⟩:∃g,g=w2.heap.size:=⟨_,rfl⟩
  rw[←hg]at S3⊢
  clear hg
  have q0:∀w',Sp w.heap.size w3 w'→w'.cell? ⟨g,0,none⟩=some (.slice ao (zerosI n).length ac):=fun w' b=>b _ _ (by have:=S3.out.2.2.2.2.1;dsimp only;omega) (S3.out.2.2.1.cell 0 rfl)
  have q1:∀w',Sp w.heap.size w3 w'→w'.cell? ⟨g,1,none⟩=some (.slice bo (zerosI n).length bc):=fun w' b=>b _ _ (by have:=S3.out.2.2.2.2.1;dsimp only;omega) (S3.out.2.2.1.cell 1 rfl)
  go_region_held3 (fun w'=>Sp w.heap.size w3 w') ((repeat'(first|with_reducible assumption|with_reducible exact Sp.refl _ _|with_reducible refine Sp.al ?_|with_reducible refine Sp.dr ?_|with_reducible refine Sp.set ?_|with_reducible refine Sp.put ?_ (by with_reducible assumption)|with_reducible refine Sp.bel ?_ (by with_reducible assumption))))
   (first
    |(go_at_call 37;refine(CN.out _).mono ?_;rintro e w4 ⟨z,rfl,o4,b4⟩;have hap:Hid (apart (.slice ao (zerosI n).length ac) z∧apart (.slice bo (zerosI n).length bc) z):=⟨apart_of S3.out.2.2.2.1.1 o4 (bl_size bels),apart_of S3.out.2.2.2.1.2.1 o4 (bl_size bels)⟩;obtain⟨ko,kc,rfl⟩:=o4.reads.form;have B4:Hid (Below w3.heap.size w3 w4):=(show Below w3.heap.size w3 w4 from bels);have O4:Hid (OwnR w4 (w.heap.size+1) (.slice ao (zerosI n).length ac) (.slice bo (zerosI n).length bc) (.slice ko Hd.new.ks.length kc) (zerosI n) (zerosI n) Hd.new.ks):=⟨⟨S3.out.2.2.2.1.1.below B4.out,S3.out.2.2.2.1.2.1.below B4.out,S3.out.2.2.2.1.2.2⟩,o4.mono (Nat.le_trans S3.out.2.2.2.2.1 (Nat.le_trans S3.out.2.2.2.2.2 (bl_size bels))),hap.out⟩;have R4:=S3.out.1.below B4.out;have r0:w4.cell? ⟨w.heap.size,0,none⟩=some (.slice none 0 0):=R4.cell 0 rfl;have f0:=R4.frozen 0;have r1:w4.cell? ⟨w.heap.size,1,none⟩=some (.slice none 0 0):=R4.cell 1 rfl;have f1:=R4.frozen 1;have r2:w4.cell? ⟨w.heap.size,2,none⟩=some (.slice none 0 0):=R4.cell 2 rfl;have f2:=R4.frozen 2;have r3:w4.cell? ⟨w.heap.size,3,none⟩=some (.int .i64 0):=R4.cell 3 rfl;have f3:=R4.frozen 3;have r4:w4.cell? ⟨w.heap.size,4,none⟩=some (.int .i64 0):=R4.cell 4 rfl;have f4:=R4.frozen 4;have r5:w4.cell? ⟨w.heap.size,5,none⟩=some (.int .i64 0):=R4.cell 5 rfl;have f5:=R4.frozen 5;clear o4))
  all_goals
   go_wp2
   have R4:StB w4 w.heap.size 60 zeR:=S3.out.1.below B4.out
   have G6:=put6_grown w4 w.heap.size (.slice ao (zerosI n).length ac) (.slice bo (zerosI n).length bc) (.slice ko Hd.new.ks.length kc) Hd.new
   refine bodyPost_ret (results_S2 Tryd.isR rfl _ _ w.heap.size (srA (.slice ao (zerosI n).length ac) (.slice bo (zerosI n).length bc) (.slice ko Hd.new.ks.length kc) Hd.new) _ rfl rfl rfl (put6_st (.slice ao (zerosI n).length ac) (.slice bo (zerosI n).length bc) (.slice ko Hd.new.ks.length kc) Hd.new R4)) rfl ?_
   have B5:=S3.out.2.1.trans (B4.out.mono S3.out.2.1.size)
   exact⟨_,_,_,rfl,(O4.out.keptLt G6 (by omega)).mono (by omega),B5.grown G6 B5.size (fun k e=>by cases e;omega)⟩
end Go.Proofs.YthmnmaemnihkeaaDoor
namespace Go.Proofs.YthmnmaemnihkeaaDoor
open Go.ChangeShapes Go.WideShapes Go.ChangeAt Go.RowKit
end Go.Proofs.YthmnmaemnihkeaaDoor
namespace Go.Proofs.YthmnmaemnihkeaaDoor
open Go.ChangeShapes Go.WideShapes Go.ChangeAt Go.RowKit
end Go.Proofs.YthmnmaemnihkeaaDoor
namespace Go.Proofs.YthmnmaemnihkeaaDoor
open Go.ChangeShapes Go.WideShapes Go.ChangeAt Go.RowKit
end Go.Proofs.YthmnmaemnihkeaaDoor
set_option maxRecDepth 20000
set_option maxHeartbeats 1000000
namespace Go.Proofs.YthmnmaemnihkeaaDoor
open Go.ChangeShapes Go.WideShapes Go.ChangeAt Go.RowKit
theorem showR_ints (r:Rc):showR r=recW++32::intsB [r.e,r.s,r.t,r.n]:=by simp[showR,intsB]
theorem sints_any (g:Nat) (xs:List Int) (w:World) (hl:xs.length=4) (hx:∀x∈xs, -9223372036854775808≤x∧x≤9223372036854775807)
  (hc:∀j,j<4→w.cell? ⟨g,j,none⟩=some (.int .i64 (xs.getD j 0))):
  Calls Tryd.prog 51 #[.slice (some ⟨g,0,none⟩) 4 4] w fun e w'=>e=.returned (S (intsB xs))∧Below w.heap.size w w':=by
 have HX:Hid (∀x∈xs, -9223372036854775808≤x∧x≤9223372036854775807):=hx
 have HC:Hid (∀j,j<4→w.cell? ⟨g,j,none⟩=some (.int .i64 (xs.getD j 0))):=hc
 clear hx hc
 unfold S
 go_enter Tryd.func51,Tryd.ntmps51
 go_wp2
 go_loopw [3,4] (fun s i wr=>∃j:Nat,(j:Int)≤4∧i=.int .i64 j∧s=.string ⟨(fourB xs j).toArray⟩∧Hid (Below w.heap.size w wr)) (fun _ i _=>4-(intOf i).toNat)
 case atStart=>exact⟨0,by omega,rfl,rfl,Below.refl _ _⟩
 case round=>
  obtain⟨j,hj,rfl,rfl,HB⟩:=hrel
  by_cases hlt:(j:Int)<4
  ·have hj4:j<xs.length:=by omega
   have hmem:xs.getD j 0∈xs:=by simp[hj4]
   have hb:=HX.out _ hmem
   have hcell:wr.cell? ⟨g,j,none⟩=some (.int .i64 (xs.getD j 0)):=by
    have h1:=HC.out j (by omega)
    rw[HB.out.cell (p:=⟨g,j,none⟩) (World.block_lt_of_cell? w _ h1)]
    exact h1
   have c1:=fun wx=>sint_any (xs.getD j 0) wx hb.1 hb.2
   have hdl:=decI_len _ hb.1 hb.2
   have HS:Hid (fourB xs (j+1)=_):=fourB_step xs j hj4
   have hfl:(fourB xs j).length≤88:=by
    unfold fourB
    split
    ·simp
    ·have:=intsB_len (xs.take j) (fun x hx=>HX.out x (List.mem_of_mem_take hx))
     simp at this
     omega
   obtain⟨x,hxe⟩:∃x,x=xs.getD j 0:=⟨_,rfl⟩
   rw[←hxe]at hcell hdl HS
   simp only[←hxe]at c1
   obtain⟨d,hde⟩:∃d,d=decI x:=⟨_,rfl⟩
   rw[←hde]at hdl HS
   simp only[←hde]at c1
   obtain⟨f,hfe⟩:∃f,f=fourB xs j:=⟨_,rfl⟩
   have HF0:Hid (j=0→f=[]):=fun h=>by rw[hfe,h];rfl
   rw[←hfe]at hfl HS⊢
   unfold S at c1
   have hsz:(⟨f.toArray⟩:ByteArray).size=f.length:=rfl
   have hdz:(⟨d.toArray⟩:ByteArray).size=d.length:=rfl
   clear hxe hde hfe hmem hb
   by_cases h0:0<(j:Int)
   ·have HE:Hid (fourB xs (j+1)=f++[32]++d):=by rw[Hid,HS.out,if_neg (by omega)]
    have ha:=app f [32]
    have ha2:=app (f++[32]) d
    have hz2:(⟨(f++[32]).toArray⟩:ByteArray).size=f.length+1:=by rw[bsize];simp
    clear HS
    go_wp2_with fail
    refine(c1 _).mono ?_
    rintro e w1 ⟨rfl,b1⟩
    replace HB:Hid (Below w.heap.size w w1):=HB.out.trans (b1.mono HB.out.size)
    clear b1 c1
    go_wp2
    go_roundw
    case rel=>exact⟨j+1,by omega,by go_num,by simp[HE.out],HB⟩
    case measure=>simp[intOf];omega
   ·obtain rfl:j=0:=by omega
    have HE:Hid (fourB xs (0+1)=f++d):=by rw[Hid,HS.out,if_pos rfl,HF0.out rfl]
    have ha:=app f d
    clear HS
    go_wp2_with fail
    refine(c1 _).mono ?_
    rintro e w1 ⟨rfl,b1⟩
    replace HB:Hid (Below w.heap.size w w1):=HB.out.trans (b1.mono HB.out.size)
    clear b1 c1
    go_wp2
    go_roundw
    case rel=>exact⟨0+1,by omega,by go_num,by simp[HE.out],HB⟩
    case measure=>simp[intOf]
  ·have HE:Hid (fourB xs j=intsB xs):=by
    have:j=4:=by omega
    subst this
    unfold Hid fourB
    rw[if_neg (by omega),List.take_of_length_le (by omega)]
   rw[HE.out]
   go_wp2
   go_ret
   exact⟨rfl,HB.out⟩
theorem s5show_any (r:Rc) (w:World) (hf:r.Fit):
  Calls Tryd.prog 35 #[RV r] w fun e w'=>e=.returned (S (showR r))∧Below w.heap.size w w':=by
 have hx:∀x∈[r.e,r.s,r.t,r.n], -9223372036854775808≤x∧x≤9223372036854775807:=by
  unfold Rc.Fit at hf
  intro x hx
  simp only[List.mem_cons,List.mem_nil_iff,or_false]at hx
  rcases hx with rfl|rfl|rfl|rfl<;>omega
 have HI:Hid (showR r=recW++32::intsB [r.e,r.s,r.t,r.n]):=showR_ints r
 have hil:=intsB_len _ hx
 obtain⟨w1,hw1⟩:∃w1,w1=w.alloc (.cells (recA r) 38):=⟨_,rfl⟩
 have b1:Below w.heap.size w w1:=by rw[hw1];exact(Below.refl _ _).alloc (Nat.le_refl _) _
 have b2:Below w.heap.size w (w1.alloc (.cells (recA r) 2)):=b1.alloc b1.size _
 have c1:=sints_any w1.heap.size [r.e,r.s,r.t,r.n] (w1.alloc (.cells (recA r) 2)) rfl hx (by
  intro j hj
  rw[cell_of_row _ w1.heap.size j _ _ _ (heap_alloc_new w1 _)]
  match j,hj with
  |0,_=>rfl
  |1,_=>rfl
  |2,_=>rfl
  |3,_=>rfl)
 have HB:Hid (Below w.heap.size w (w1.alloc (.cells (recA r) 2))):=b2
 obtain⟨q,hq⟩:∃q,q=intsB [r.e,r.s,r.t,r.n]:=⟨_,rfl⟩
 rw[←hq]at c1 HI hil
 rw[hw1]at c1 HB
 have ha:=app [114,101,99,111,114,100,32] q
 have hz:(⟨q.toArray⟩:ByteArray).size=q.length:=rfl
 simp at hil
 clear hq hw1 hx hf b1 b2
 unfold S RV recA at*
 go_enter Tryd.func35,Tryd.ntmps35
 go_wp2_with fail
 refine Calls.mono (by simpa using c1) ?_
 rintro e w3 ⟨rfl,b3⟩
 have b4:=HB.out.trans (b3.mono (by omega))
 clear b3 HB c1
 go_wp2
 go_ret
 refine⟨?_,b4⟩
 rw[HI.out]
 simp[recW]
end Go.Proofs.YthmnmaemnihkeaaDoor
