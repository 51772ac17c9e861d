import Derived.Test.YtpdggofaobmnlaaGreatDoorSActS
import Derived.Test.YtpdggofaobmnlaaGreatDoorM9
import Derived.Test.YtpdggofaobmnlaaGreatDoorM18
import Derived.Test.YtpdggofaobmnlaaGreatDoorM8
/- The model's store, on: what an action does in a right store's own copy (l12Action). -/
set_option maxRecDepth 20000
set_option maxHeartbeats 2000000
namespace Go.Proofs.YtpdggofaobmnlaaGreatDoor
open Go.ChangeShapes Go.WideShapes Go.ChangeAt Go.RowKit
theorem PS.other {L:List Bo} {a b:Value} {xs ys:List Int} {w w':World} {base g:Nat} {h:Hd} (d:PS L a b xs ys w base g h) (x:Bo) (hx:x∈L) (ht:x.t≠2) (G:w.grownBy w' (some x.b)):PS [] a b xs ys w' base g h:=by
 obtain⟨q,cap,d⟩:=d
 obtain⟨s,h1,h2⟩:=d.2.2.2.2.2.2.2.2 x hx
 have na:=Own.ne d.2.2.2.2.2.2.1.1 s ht
 have nb:=Own.ne d.2.2.2.2.2.2.1.2.1 s ht
 refine⟨q,cap,d.1.kept G (by simp;omega),d.2.1.kept G (.inr (by intro e;exact h2 (Option.some.inj e).symm)),d.2.2.1,d.2.2.2.1,d.2.2.2.2.1,d.2.2.2.2.2.1,⟨d.2.2.2.2.2.2.1.1.kept G (.inr na),d.2.2.2.2.2.2.1.2.1.kept G (.inr nb),d.2.2.2.2.2.2.1.2.2⟩,d.2.2.2.2.2.2.2.1,fun x hx=>by cases hx⟩
theorem s12reg_any {a b:Value} {xs ys:List Int} (base g:Nat) (h:Hd) (i p x y k0:Int) (w:World) (d:PS [] a b xs ys w base g h) (i0:0≤i) (i1:i<4) (t0:0≤h.tu) (t1:h.tu≤1000000000):
  Calls Tryz.prog 88 #[.pointer (some ⟨g,0,none⟩),.int .i64 i,CV ⟨6,p,x,y,k0⟩] w fun e w'=>e=.returned (AV ⟨0,[]⟩)∧PS [] a b xs ys w' base g (h.regd i x)∧Below base w w':=by
 obtain⟨w1,hw1⟩:∃w1,w1=(w.alloc (.cells #[.int .i64 6,.int .i64 p,.int .i64 x,.int .i64 y,.int .i64 k0] 32)).alloc (.cells #[.int .i64 0,.string ⟨#[]⟩] 36):=⟨_,rfl⟩
 have b1:Below w.heap.size w w1:=by rw[hw1];exact((Below.refl _ _).alloc (Nat.le_refl _) _).alloc (by simp) _
 have lt:=d.lt
 have s0:StB w1 w.heap.size 32 #[.int .i64 6,.int .i64 p,.int .i64 x,.int .i64 y,.int .i64 k0]:=by rw[hw1];exact(StB.new w _ _).alloc _
 have s1:StB w1 (w.heap.size+1) 36 (anA ⟨0,[]⟩):=by
  rw[hw1]
  have a2:=StB.new (w.alloc (.cells #[.int .i64 6,.int .i64 p,.int .i64 x,.int .i64 y,.int .i64 k0] 32)) 36 (anA ⟨0,[]⟩)
  simp only[World.size_alloc]at a2
  exact a2
 have D1:Hid (PS [⟨w.heap.size,32,#[.int .i64 6,.int .i64 p,.int .i64 x,.int .i64 y,.int .i64 k0]⟩,⟨w.heap.size+1,36,anA ⟨0,[]⟩⟩] a b xs ys w1 base g h):=by
  refine d.boxes b1 (fun z hz=>?_)
  simp only[List.mem_cons,List.not_mem_nil,or_false]at hz
  rcases hz with rfl|rfl
  ·exact⟨s0,Nat.le_refl _⟩
  ·exact⟨s1,Nat.le_succ _⟩
 have B1:Hid (Below base w w1∧base≤w.heap.size):=⟨b1.mono lt,lt⟩
 have m0:w1.cell? ⟨w.heap.size,0,none⟩=some (.int .i64 6):=s0.cell 0 rfl
 have m2:w1.cell? ⟨w.heap.size,2,none⟩=some (.int .i64 x):=s0.cell 2 rfl
 have m4:w1.cell? ⟨w.heap.size,4,none⟩=some (.int .i64 k0):=s0.cell 4 rfl
 clear s0 s1 b1 d lt
 unfold CV cmA
 dsimp only
 go_enter Tryz.func88,Tryz.ntmps88
 go_upto_region 1 with fail
 rw[←hw1]
 clear hw1
 go_wp2_with fail
 refine(s9registerS_any base g h i x w1 D1.out t0 t1 i0 i1).mono ?_
 rintro e w2 ⟨rfl,D2,B2⟩
 have HD:Hid (PS [⟨w.heap.size,32,#[.int .i64 6,.int .i64 p,.int .i64 x,.int .i64 y,.int .i64 k0]⟩,⟨w.heap.size+1,36,anA ⟨0,[]⟩⟩] a b xs ys w2 base g (h.regd i x)):=D2
 have HB:Hid (Below base w w2):=B1.out.1.trans B2
 clear D2 B2 m0 m2 m4 D1
 go_wp2_with (refine wpList_putS Tryz.isA rfl _ _ rfl (w.heap.size+1) (anA ⟨0,[]⟩) (anA ⟨0,[]⟩) rfl rfl rfl rfl (anA_one _) (HD.out.box ⟨w.heap.size+1,36,anA ⟨0,[]⟩⟩ (by simp)) ?_;intro w9 s9 g9)
 refine bodyPost_ret (results_S Tryz.isA rfl _ _ (w.heap.size+1) _ rfl rfl s9) rfl ?_
 exact⟨rfl,HD.out.other ⟨w.heap.size+1,36,anA ⟨0,[]⟩⟩ (by simp) (show(36:Nat)≠2 by decide) g9,HB.out.grown g9 (Nat.le_trans B1.out.2 (Nat.le_of_lt (Nat.lt_of_lt_of_le (Nat.lt_succ_self _) (Nat.le_of_lt (HD.out.box ⟨w.heap.size+1,36,anA ⟨0,[]⟩⟩ (by simp)).lt)))) (fun k e=>by cases e;have:=B1.out.2;omega)⟩
theorem s12res_any {a b:Value} {xs ys:List Int} (base g:Nat) (h:Hd) (i p x y k0:Int) (w:World) (d:PS [] a b xs ys w base g h) (i0:0≤i) (i1:i<4):
  Calls Tryz.prog 88 #[.pointer (some ⟨g,0,none⟩),.int .i64 i,CV ⟨7,p,x,y,k0⟩] w fun e w'=>e=.returned (AV (conf (h.resd i k0)).2)∧PS [] a b xs ys w' base g (h.resd i k0).1∧Below base w w':=by
 obtain⟨r,HR⟩:∃r,Hid (r=h.resd i k0):=⟨_,rfl⟩
 rw[←HR.out]
 obtain⟨r1,r2⟩:=r
 obtain⟨w1,hw1⟩:∃w1,w1=(w.alloc (.cells #[.int .i64 7,.int .i64 p,.int .i64 x,.int .i64 y,.int .i64 k0] 32)).alloc (.cells #[.int .i64 0,.string ⟨#[]⟩] 36):=⟨_,rfl⟩
 have b1:Below w.heap.size w w1:=by rw[hw1];exact((Below.refl _ _).alloc (Nat.le_refl _) _).alloc (by simp) _
 have lt:=d.lt
 have s0:StB w1 w.heap.size 32 #[.int .i64 7,.int .i64 p,.int .i64 x,.int .i64 y,.int .i64 k0]:=by rw[hw1];exact(StB.new w _ _).alloc _
 have s1:StB w1 (w.heap.size+1) 36 (anA ⟨0,[]⟩):=by
  rw[hw1]
  have a2:=StB.new (w.alloc (.cells #[.int .i64 7,.int .i64 p,.int .i64 x,.int .i64 y,.int .i64 k0] 32)) 36 (anA ⟨0,[]⟩)
  simp only[World.size_alloc]at a2
  exact a2
 have D1:Hid (PS [⟨w.heap.size,32,#[.int .i64 7,.int .i64 p,.int .i64 x,.int .i64 y,.int .i64 k0]⟩,⟨w.heap.size+1,36,anA ⟨0,[]⟩⟩] a b xs ys w1 base g h):=by
  refine d.boxes b1 (fun z hz=>?_)
  simp only[List.mem_cons,List.not_mem_nil,or_false]at hz
  rcases hz with rfl|rfl
  ·exact⟨s0,Nat.le_refl _⟩
  ·exact⟨s1,Nat.le_succ _⟩
 have B1:Hid (Below base w w1∧base≤w.heap.size):=⟨b1.mono lt,lt⟩
 have m0:w1.cell? ⟨w.heap.size,0,none⟩=some (.int .i64 7):=s0.cell 0 rfl
 have m2:w1.cell? ⟨w.heap.size,2,none⟩=some (.int .i64 x):=s0.cell 2 rfl
 have m4:w1.cell? ⟨w.heap.size,4,none⟩=some (.int .i64 k0):=s0.cell 4 rfl
 clear s0 s1 b1 d lt
 unfold CV cmA
 dsimp only
 go_enter Tryz.func88,Tryz.ntmps88
 go_upto_region 1 with fail
 rw[←hw1]
 clear hw1
 go_wp2_with fail
 refine(s9reserveS_any base g h i k0 w1 D1.out i0 i1).mono ?_
 rw[←HR.out]
 dsimp only
 rintro e w2 ⟨rfl,D2,B2⟩
 have HD:Hid (PS [⟨w.heap.size,32,#[.int .i64 7,.int .i64 p,.int .i64 x,.int .i64 y,.int .i64 k0]⟩,⟨w.heap.size+1,36,anA ⟨0,[]⟩⟩] a b xs ys w2 base g r1):=D2
 have HB:Hid (Below base w w2):=B1.out.1.trans B2
 clear D2 B2 m0 m2 m4 D1
 cases r2 with
 |false=>
  go_wp2_with (refine wpList_putS Tryz.isA rfl _ _ rfl (w.heap.size+1) (anA ⟨3,[]⟩) (anA ⟨0,[]⟩) rfl rfl rfl rfl (anA_one _) (HD.out.box ⟨w.heap.size+1,36,anA ⟨0,[]⟩⟩ (by simp)) ?_;intro w9 s9 g9)
  refine bodyPost_ret (results_S Tryz.isA rfl _ _ (w.heap.size+1) _ rfl rfl s9) rfl ?_
  exact⟨rfl,HD.out.other ⟨w.heap.size+1,36,anA ⟨0,[]⟩⟩ (by simp) (show(36:Nat)≠2 by decide) g9,HB.out.grown g9 (Nat.le_trans B1.out.2 (Nat.le_of_lt (Nat.lt_of_lt_of_le (Nat.lt_succ_self _) (Nat.le_of_lt (HD.out.box ⟨w.heap.size+1,36,anA ⟨0,[]⟩⟩ (by simp)).lt)))) (fun k e=>by cases e;have:=B1.out.2;omega)⟩
 |true=>
  go_wp2_with (refine wpList_putS Tryz.isA rfl _ _ rfl (w.heap.size+1) (anA ⟨0,[]⟩) (anA ⟨0,[]⟩) rfl rfl rfl rfl (anA_one _) (HD.out.box ⟨w.heap.size+1,36,anA ⟨0,[]⟩⟩ (by simp)) ?_;intro w9 s9 g9)
  refine bodyPost_ret (results_S Tryz.isA rfl _ _ (w.heap.size+1) _ rfl rfl s9) rfl ?_
  exact⟨rfl,HD.out.other ⟨w.heap.size+1,36,anA ⟨0,[]⟩⟩ (by simp) (show(36:Nat)≠2 by decide) g9,HB.out.grown g9 (Nat.le_trans B1.out.2 (Nat.le_of_lt (Nat.lt_of_lt_of_le (Nat.lt_succ_self _) (Nat.le_of_lt (HD.out.box ⟨w.heap.size+1,36,anA ⟨0,[]⟩⟩ (by simp)).lt)))) (fun k e=>by cases e;have:=B1.out.2;omega)⟩
theorem s12rel_any {a b:Value} {xs ys:List Int} (base g:Nat) (h:Hd) (i p x y k0:Int) (w:World) (d:PS [] a b xs ys w base g h) (i0:0≤i) (i1:i<4):
  Calls Tryz.prog 88 #[.pointer (some ⟨g,0,none⟩),.int .i64 i,CV ⟨8,p,x,y,k0⟩] w fun e w'=>e=.returned (AV (conf (h.reld i)).2)∧PS [] a b xs ys w' base g (h.reld i).1∧Below base w w':=by
 obtain⟨r,HR⟩:∃r,Hid (r=h.reld i):=⟨_,rfl⟩
 rw[←HR.out]
 obtain⟨r1,r2⟩:=r
 obtain⟨w1,hw1⟩:∃w1,w1=(w.alloc (.cells #[.int .i64 8,.int .i64 p,.int .i64 x,.int .i64 y,.int .i64 k0] 32)).alloc (.cells #[.int .i64 0,.string ⟨#[]⟩] 36):=⟨_,rfl⟩
 have b1:Below w.heap.size w w1:=by rw[hw1];exact((Below.refl _ _).alloc (Nat.le_refl _) _).alloc (by simp) _
 have lt:=d.lt
 have s0:StB w1 w.heap.size 32 #[.int .i64 8,.int .i64 p,.int .i64 x,.int .i64 y,.int .i64 k0]:=by rw[hw1];exact(StB.new w _ _).alloc _
 have s1:StB w1 (w.heap.size+1) 36 (anA ⟨0,[]⟩):=by
  rw[hw1]
  have a2:=StB.new (w.alloc (.cells #[.int .i64 8,.int .i64 p,.int .i64 x,.int .i64 y,.int .i64 k0] 32)) 36 (anA ⟨0,[]⟩)
  simp only[World.size_alloc]at a2
  exact a2
 have D1:Hid (PS [⟨w.heap.size,32,#[.int .i64 8,.int .i64 p,.int .i64 x,.int .i64 y,.int .i64 k0]⟩,⟨w.heap.size+1,36,anA ⟨0,[]⟩⟩] a b xs ys w1 base g h):=by
  refine d.boxes b1 (fun z hz=>?_)
  simp only[List.mem_cons,List.not_mem_nil,or_false]at hz
  rcases hz with rfl|rfl
  ·exact⟨s0,Nat.le_refl _⟩
  ·exact⟨s1,Nat.le_succ _⟩
 have B1:Hid (Below base w w1∧base≤w.heap.size):=⟨b1.mono lt,lt⟩
 have m0:w1.cell? ⟨w.heap.size,0,none⟩=some (.int .i64 8):=s0.cell 0 rfl
 have m2:w1.cell? ⟨w.heap.size,2,none⟩=some (.int .i64 x):=s0.cell 2 rfl
 have m4:w1.cell? ⟨w.heap.size,4,none⟩=some (.int .i64 k0):=s0.cell 4 rfl
 clear s0 s1 b1 d lt
 unfold CV cmA
 dsimp only
 go_enter Tryz.func88,Tryz.ntmps88
 go_upto_region 1 with fail
 rw[←hw1]
 clear hw1
 go_wp2_with fail
 refine(s9releaseS_any base g h i w1 D1.out i0 i1).mono ?_
 rw[←HR.out]
 dsimp only
 rintro e w2 ⟨rfl,D2,B2⟩
 have HD:Hid (PS [⟨w.heap.size,32,#[.int .i64 8,.int .i64 p,.int .i64 x,.int .i64 y,.int .i64 k0]⟩,⟨w.heap.size+1,36,anA ⟨0,[]⟩⟩] a b xs ys w2 base g r1):=D2
 have HB:Hid (Below base w w2):=B1.out.1.trans B2
 clear D2 B2 m0 m2 m4 D1
 cases r2 with
 |false=>
  go_wp2_with (refine wpList_putS Tryz.isA rfl _ _ rfl (w.heap.size+1) (anA ⟨3,[]⟩) (anA ⟨0,[]⟩) rfl rfl rfl rfl (anA_one _) (HD.out.box ⟨w.heap.size+1,36,anA ⟨0,[]⟩⟩ (by simp)) ?_;intro w9 s9 g9)
  refine bodyPost_ret (results_S Tryz.isA rfl _ _ (w.heap.size+1) _ rfl rfl s9) rfl ?_
  exact⟨rfl,HD.out.other ⟨w.heap.size+1,36,anA ⟨0,[]⟩⟩ (by simp) (show(36:Nat)≠2 by decide) g9,HB.out.grown g9 (Nat.le_trans B1.out.2 (Nat.le_of_lt (Nat.lt_of_lt_of_le (Nat.lt_succ_self _) (Nat.le_of_lt (HD.out.box ⟨w.heap.size+1,36,anA ⟨0,[]⟩⟩ (by simp)).lt)))) (fun k e=>by cases e;have:=B1.out.2;omega)⟩
 |true=>
  go_wp2_with (refine wpList_putS Tryz.isA rfl _ _ rfl (w.heap.size+1) (anA ⟨0,[]⟩) (anA ⟨0,[]⟩) rfl rfl rfl rfl (anA_one _) (HD.out.box ⟨w.heap.size+1,36,anA ⟨0,[]⟩⟩ (by simp)) ?_;intro w9 s9 g9)
  refine bodyPost_ret (results_S Tryz.isA rfl _ _ (w.heap.size+1) _ rfl rfl s9) rfl ?_
  exact⟨rfl,HD.out.other ⟨w.heap.size+1,36,anA ⟨0,[]⟩⟩ (by simp) (show(36:Nat)≠2 by decide) g9,HB.out.grown g9 (Nat.le_trans B1.out.2 (Nat.le_of_lt (Nat.lt_of_lt_of_le (Nat.lt_succ_self _) (Nat.le_of_lt (HD.out.box ⟨w.heap.size+1,36,anA ⟨0,[]⟩⟩ (by simp)).lt)))) (fun k e=>by cases e;have:=B1.out.2;omega)⟩
theorem s12clr_any {a b:Value} {xs ys:List Int} (base g:Nat) (h:Hd) (i p x y k0:Int) (w:World) (d:PS [] a b xs ys w base g h) (i0:0≤i) (i1:i<4) (t0:0≤h.tu) (t1:h.tu≤1000000000):
  Calls Tryz.prog 88 #[.pointer (some ⟨g,0,none⟩),.int .i64 i,CV ⟨9,p,x,y,k0⟩] w fun e w'=>e=.returned (AV (conf (h.clrd i)).2)∧PS [] a b xs ys w' base g (h.clrd i).1∧Below base w w':=by
 obtain⟨r,HR⟩:∃r,Hid (r=h.clrd i):=⟨_,rfl⟩
 rw[←HR.out]
 obtain⟨r1,r2⟩:=r
 obtain⟨w1,hw1⟩:∃w1,w1=(w.alloc (.cells #[.int .i64 9,.int .i64 p,.int .i64 x,.int .i64 y,.int .i64 k0] 32)).alloc (.cells #[.int .i64 0,.string ⟨#[]⟩] 36):=⟨_,rfl⟩
 have b1:Below w.heap.size w w1:=by rw[hw1];exact((Below.refl _ _).alloc (Nat.le_refl _) _).alloc (by simp) _
 have lt:=d.lt
 have s0:StB w1 w.heap.size 32 #[.int .i64 9,.int .i64 p,.int .i64 x,.int .i64 y,.int .i64 k0]:=by rw[hw1];exact(StB.new w _ _).alloc _
 have s1:StB w1 (w.heap.size+1) 36 (anA ⟨0,[]⟩):=by
  rw[hw1]
  have a2:=StB.new (w.alloc (.cells #[.int .i64 9,.int .i64 p,.int .i64 x,.int .i64 y,.int .i64 k0] 32)) 36 (anA ⟨0,[]⟩)
  simp only[World.size_alloc]at a2
  exact a2
 have D1:Hid (PS [⟨w.heap.size,32,#[.int .i64 9,.int .i64 p,.int .i64 x,.int .i64 y,.int .i64 k0]⟩,⟨w.heap.size+1,36,anA ⟨0,[]⟩⟩] a b xs ys w1 base g h):=by
  refine d.boxes b1 (fun z hz=>?_)
  simp only[List.mem_cons,List.not_mem_nil,or_false]at hz
  rcases hz with rfl|rfl
  ·exact⟨s0,Nat.le_refl _⟩
  ·exact⟨s1,Nat.le_succ _⟩
 have B1:Hid (Below base w w1∧base≤w.heap.size):=⟨b1.mono lt,lt⟩
 have m0:w1.cell? ⟨w.heap.size,0,none⟩=some (.int .i64 9):=s0.cell 0 rfl
 have m2:w1.cell? ⟨w.heap.size,2,none⟩=some (.int .i64 x):=s0.cell 2 rfl
 have m4:w1.cell? ⟨w.heap.size,4,none⟩=some (.int .i64 k0):=s0.cell 4 rfl
 clear s0 s1 b1 d lt
 unfold CV cmA
 dsimp only
 go_enter Tryz.func88,Tryz.ntmps88
 go_upto_region 1 with fail
 rw[←hw1]
 clear hw1
 go_wp2_with fail
 refine(s9clearS_any base g h i w1 D1.out i0 i1 t0 t1).mono ?_
 rw[←HR.out]
 dsimp only
 rintro e w2 ⟨rfl,D2,B2⟩
 have HD:Hid (PS [⟨w.heap.size,32,#[.int .i64 9,.int .i64 p,.int .i64 x,.int .i64 y,.int .i64 k0]⟩,⟨w.heap.size+1,36,anA ⟨0,[]⟩⟩] a b xs ys w2 base g r1):=D2
 have HB:Hid (Below base w w2):=B1.out.1.trans B2
 clear D2 B2 m0 m2 m4 D1
 cases r2 with
 |false=>
  go_wp2_with (refine wpList_putS Tryz.isA rfl _ _ rfl (w.heap.size+1) (anA ⟨3,[]⟩) (anA ⟨0,[]⟩) rfl rfl rfl rfl (anA_one _) (HD.out.box ⟨w.heap.size+1,36,anA ⟨0,[]⟩⟩ (by simp)) ?_;intro w9 s9 g9)
  refine bodyPost_ret (results_S Tryz.isA rfl _ _ (w.heap.size+1) _ rfl rfl s9) rfl ?_
  exact⟨rfl,HD.out.other ⟨w.heap.size+1,36,anA ⟨0,[]⟩⟩ (by simp) (show(36:Nat)≠2 by decide) g9,HB.out.grown g9 (Nat.le_trans B1.out.2 (Nat.le_of_lt (Nat.lt_of_lt_of_le (Nat.lt_succ_self _) (Nat.le_of_lt (HD.out.box ⟨w.heap.size+1,36,anA ⟨0,[]⟩⟩ (by simp)).lt)))) (fun k e=>by cases e;have:=B1.out.2;omega)⟩
 |true=>
  go_wp2_with (refine wpList_putS Tryz.isA rfl _ _ rfl (w.heap.size+1) (anA ⟨0,[]⟩) (anA ⟨0,[]⟩) rfl rfl rfl rfl (anA_one _) (HD.out.box ⟨w.heap.size+1,36,anA ⟨0,[]⟩⟩ (by simp)) ?_;intro w9 s9 g9)
  refine bodyPost_ret (results_S Tryz.isA rfl _ _ (w.heap.size+1) _ rfl rfl s9) rfl ?_
  exact⟨rfl,HD.out.other ⟨w.heap.size+1,36,anA ⟨0,[]⟩⟩ (by simp) (show(36:Nat)≠2 by decide) g9,HB.out.grown g9 (Nat.le_trans B1.out.2 (Nat.le_of_lt (Nat.lt_of_lt_of_le (Nat.lt_succ_self _) (Nat.le_of_lt (HD.out.box ⟨w.heap.size+1,36,anA ⟨0,[]⟩⟩ (by simp)).lt)))) (fun k e=>by cases e;have:=B1.out.2;omega)⟩
theorem s12pre_any {a b:Value} {xs ys:List Int} (base g:Nat) (h:Hd) (i p x y k0:Int) (w:World) (d:PS [] a b xs ys w base g h) (i0:0≤i) (i1:i<4) (hx:x≠0) (t0:0≤h.tu) (t1:h.tu≤1000000000) (hm:h.kd≠0→allI h.kd=false→0≤h.ho∧h.ho≤3):
  Calls Tryz.prog 88 #[.pointer (some ⟨g,0,none⟩),.int .i64 i,CV ⟨10,p,x,y,k0⟩] w fun e w'=>e=.returned (AV (conf (h.pred i x k0)).2)∧PS [] a b xs ys w' base g (h.pred i x k0).1∧Below base w w':=by
 obtain⟨r,HR⟩:∃r,Hid (r=h.pred i x k0):=⟨_,rfl⟩
 rw[←HR.out]
 obtain⟨r1,r2⟩:=r
 obtain⟨w1,hw1⟩:∃w1,w1=(w.alloc (.cells #[.int .i64 10,.int .i64 p,.int .i64 x,.int .i64 y,.int .i64 k0] 32)).alloc (.cells #[.int .i64 0,.string ⟨#[]⟩] 36):=⟨_,rfl⟩
 have b1:Below w.heap.size w w1:=by rw[hw1];exact((Below.refl _ _).alloc (Nat.le_refl _) _).alloc (by simp) _
 have lt:=d.lt
 have s0:StB w1 w.heap.size 32 #[.int .i64 10,.int .i64 p,.int .i64 x,.int .i64 y,.int .i64 k0]:=by rw[hw1];exact(StB.new w _ _).alloc _
 have s1:StB w1 (w.heap.size+1) 36 (anA ⟨0,[]⟩):=by
  rw[hw1]
  have a2:=StB.new (w.alloc (.cells #[.int .i64 10,.int .i64 p,.int .i64 x,.int .i64 y,.int .i64 k0] 32)) 36 (anA ⟨0,[]⟩)
  simp only[World.size_alloc]at a2
  exact a2
 have D1:Hid (PS [⟨w.heap.size,32,#[.int .i64 10,.int .i64 p,.int .i64 x,.int .i64 y,.int .i64 k0]⟩,⟨w.heap.size+1,36,anA ⟨0,[]⟩⟩] a b xs ys w1 base g h):=by
  refine d.boxes b1 (fun z hz=>?_)
  simp only[List.mem_cons,List.not_mem_nil,or_false]at hz
  rcases hz with rfl|rfl
  ·exact⟨s0,Nat.le_refl _⟩
  ·exact⟨s1,Nat.le_succ _⟩
 have B1:Hid (Below base w w1∧base≤w.heap.size):=⟨b1.mono lt,lt⟩
 have m0:w1.cell? ⟨w.heap.size,0,none⟩=some (.int .i64 10):=s0.cell 0 rfl
 have m2:w1.cell? ⟨w.heap.size,2,none⟩=some (.int .i64 x):=s0.cell 2 rfl
 have m4:w1.cell? ⟨w.heap.size,4,none⟩=some (.int .i64 k0):=s0.cell 4 rfl
 clear s0 s1 b1 d lt
 unfold CV cmA
 dsimp only
 go_enter Tryz.func88,Tryz.ntmps88
 go_upto_region 1 with fail
 rw[←hw1]
 clear hw1
 go_wp2_with fail
 refine(s9preemptS_any base g h i x k0 w1 D1.out i0 i1 t0 t1 hm).mono ?_
 rw[←HR.out]
 dsimp only
 rintro e w2 ⟨rfl,D2,B2⟩
 have HD:Hid (PS [⟨w.heap.size,32,#[.int .i64 10,.int .i64 p,.int .i64 x,.int .i64 y,.int .i64 k0]⟩,⟨w.heap.size+1,36,anA ⟨0,[]⟩⟩] a b xs ys w2 base g r1):=D2
 have HB:Hid (Below base w w2):=B1.out.1.trans B2
 clear D2 B2 m0 m2 m4 D1
 cases r2 with
 |false=>
  go_wp2_with (refine wpList_putS Tryz.isA rfl _ _ rfl (w.heap.size+1) (anA ⟨3,[]⟩) (anA ⟨0,[]⟩) rfl rfl rfl rfl (anA_one _) (HD.out.box ⟨w.heap.size+1,36,anA ⟨0,[]⟩⟩ (by simp)) ?_;intro w9 s9 g9)
  refine bodyPost_ret (results_S Tryz.isA rfl _ _ (w.heap.size+1) _ rfl rfl s9) rfl ?_
  exact⟨rfl,HD.out.other ⟨w.heap.size+1,36,anA ⟨0,[]⟩⟩ (by simp) (show(36:Nat)≠2 by decide) g9,HB.out.grown g9 (Nat.le_trans B1.out.2 (Nat.le_of_lt (Nat.lt_of_lt_of_le (Nat.lt_succ_self _) (Nat.le_of_lt (HD.out.box ⟨w.heap.size+1,36,anA ⟨0,[]⟩⟩ (by simp)).lt)))) (fun k e=>by cases e;have:=B1.out.2;omega)⟩
 |true=>
  go_wp2_with (refine wpList_putS Tryz.isA rfl _ _ rfl (w.heap.size+1) (anA ⟨0,[]⟩) (anA ⟨0,[]⟩) rfl rfl rfl rfl (anA_one _) (HD.out.box ⟨w.heap.size+1,36,anA ⟨0,[]⟩⟩ (by simp)) ?_;intro w9 s9 g9)
  refine bodyPost_ret (results_S Tryz.isA rfl _ _ (w.heap.size+1) _ rfl rfl s9) rfl ?_
  exact⟨rfl,HD.out.other ⟨w.heap.size+1,36,anA ⟨0,[]⟩⟩ (by simp) (show(36:Nat)≠2 by decide) g9,HB.out.grown g9 (Nat.le_trans B1.out.2 (Nat.le_of_lt (Nat.lt_of_lt_of_le (Nat.lt_succ_self _) (Nat.le_of_lt (HD.out.box ⟨w.heap.size+1,36,anA ⟨0,[]⟩⟩ (by simp)).lt)))) (fun k e=>by cases e;have:=B1.out.2;omega)⟩
theorem s12bad_any {a b:Value} {xs ys:List Int} (base g:Nat) (h:Hd) (i p y k0:Int) (w:World) (d:PS [] a b xs ys w base g h):
  Calls Tryz.prog 88 #[.pointer (some ⟨g,0,none⟩),.int .i64 i,CV ⟨10,p,0,y,k0⟩] w fun e w'=>e=.returned (AV ⟨1,[]⟩)∧PS [] a b xs ys w' base g h∧Below base w w':=by
 obtain⟨w1,hw1⟩:∃w1,w1=(w.alloc (.cells #[.int .i64 10,.int .i64 p,.int .i64 0,.int .i64 y,.int .i64 k0] 32)).alloc (.cells #[.int .i64 0,.string ⟨#[]⟩] 36):=⟨_,rfl⟩
 have b1:Below w.heap.size w w1:=by rw[hw1];exact((Below.refl _ _).alloc (Nat.le_refl _) _).alloc (by simp) _
 have lt:=d.lt
 have s0:StB w1 w.heap.size 32 #[.int .i64 10,.int .i64 p,.int .i64 0,.int .i64 y,.int .i64 k0]:=by rw[hw1];exact(StB.new w _ _).alloc _
 have s1:StB w1 (w.heap.size+1) 36 (anA ⟨0,[]⟩):=by
  rw[hw1]
  have a2:=StB.new (w.alloc (.cells #[.int .i64 10,.int .i64 p,.int .i64 0,.int .i64 y,.int .i64 k0] 32)) 36 (anA ⟨0,[]⟩)
  simp only[World.size_alloc]at a2
  exact a2
 have D1:Hid (PS [⟨w.heap.size,32,#[.int .i64 10,.int .i64 p,.int .i64 0,.int .i64 y,.int .i64 k0]⟩,⟨w.heap.size+1,36,anA ⟨0,[]⟩⟩] a b xs ys w1 base g h):=by
  refine d.boxes b1 (fun z hz=>?_)
  simp only[List.mem_cons,List.not_mem_nil,or_false]at hz
  rcases hz with rfl|rfl
  ·exact⟨s0,Nat.le_refl _⟩
  ·exact⟨s1,Nat.le_succ _⟩
 have B1:Hid (Below base w w1∧base≤w.heap.size):=⟨b1.mono lt,lt⟩
 have m0:w1.cell? ⟨w.heap.size,0,none⟩=some (.int .i64 10):=s0.cell 0 rfl
 have m2:w1.cell? ⟨w.heap.size,2,none⟩=some (.int .i64 0):=s0.cell 2 rfl
 have m4:w1.cell? ⟨w.heap.size,4,none⟩=some (.int .i64 k0):=s0.cell 4 rfl
 clear s0 s1 b1 d lt
 unfold CV cmA
 dsimp only
 go_enter Tryz.func88,Tryz.ntmps88
 go_upto_region 1 with fail
 rw[←hw1]
 clear hw1
 have HD:=D1
 have HB:Hid (Below base w w1):=B1.out.1
 go_wp2_with (refine wpList_putS Tryz.isA rfl _ _ rfl (w.heap.size+1) (anA ⟨1,[]⟩) (anA ⟨0,[]⟩) rfl rfl rfl rfl (anA_one _) (HD.out.box ⟨w.heap.size+1,36,anA ⟨0,[]⟩⟩ (by simp)) ?_;intro w9 s9 g9)
 refine bodyPost_ret (results_S Tryz.isA rfl _ _ (w.heap.size+1) _ rfl rfl s9) rfl ?_
 exact⟨rfl,HD.out.other ⟨w.heap.size+1,36,anA ⟨0,[]⟩⟩ (by simp) (show(36:Nat)≠2 by decide) g9,HB.out.grown g9 (Nat.le_trans B1.out.2 (Nat.le_of_lt (Nat.lt_of_lt_of_le (Nat.lt_succ_self _) (Nat.le_of_lt (HD.out.box ⟨w.heap.size+1,36,anA ⟨0,[]⟩⟩ (by simp)).lt)))) (fun k e=>by cases e;have:=B1.out.2;omega)⟩
theorem s12keys_any {a b:Value} {xs ys:List Int} (base g:Nat) (h:Hd) (i p x y k0:Int) (w:World) (d:PS [] a b xs ys w base g h) (ok:h.ok=true):
  Calls Tryz.prog 88 #[.pointer (some ⟨g,0,none⟩),.int .i64 i,CV ⟨11,p,x,y,k0⟩] w fun e w'=>e=.returned (AV ⟨0,h.keysT⟩)∧PS [] a b xs ys w' base g h∧Below base w w':=by
 obtain⟨w1,hw1⟩:∃w1,w1=(w.alloc (.cells #[.int .i64 11,.int .i64 p,.int .i64 x,.int .i64 y,.int .i64 k0] 32)).alloc (.cells #[.int .i64 0,.string ⟨#[]⟩] 36):=⟨_,rfl⟩
 have b1:Below w.heap.size w w1:=by rw[hw1];exact((Below.refl _ _).alloc (Nat.le_refl _) _).alloc (by simp) _
 have lt:=d.lt
 have s0:StB w1 w.heap.size 32 #[.int .i64 11,.int .i64 p,.int .i64 x,.int .i64 y,.int .i64 k0]:=by rw[hw1];exact(StB.new w _ _).alloc _
 have s1:StB w1 (w.heap.size+1) 36 (anA ⟨0,[]⟩):=by
  rw[hw1]
  have a2:=StB.new (w.alloc (.cells #[.int .i64 11,.int .i64 p,.int .i64 x,.int .i64 y,.int .i64 k0] 32)) 36 (anA ⟨0,[]⟩)
  simp only[World.size_alloc]at a2
  exact a2
 have D1:Hid (PS [⟨w.heap.size,32,#[.int .i64 11,.int .i64 p,.int .i64 x,.int .i64 y,.int .i64 k0]⟩,⟨w.heap.size+1,36,anA ⟨0,[]⟩⟩] a b xs ys w1 base g h):=by
  refine d.boxes b1 (fun z hz=>?_)
  simp only[List.mem_cons,List.not_mem_nil,or_false]at hz
  rcases hz with rfl|rfl
  ·exact⟨s0,Nat.le_refl _⟩
  ·exact⟨s1,Nat.le_succ _⟩
 have B1:Hid (Below base w w1∧base≤w.heap.size):=⟨b1.mono lt,lt⟩
 have m0:w1.cell? ⟨w.heap.size,0,none⟩=some (.int .i64 11):=s0.cell 0 rfl
 have m2:w1.cell? ⟨w.heap.size,2,none⟩=some (.int .i64 x):=s0.cell 2 rfl
 have m4:w1.cell? ⟨w.heap.size,4,none⟩=some (.int .i64 k0):=s0.cell 4 rfl
 clear s0 s1 b1 d lt
 unfold CV cmA
 dsimp only
 go_enter Tryz.func88,Tryz.ntmps88
 go_upto_region 1 with fail
 rw[←hw1]
 clear hw1
 have HD:=D1
 obtain⟨q1,cap1,d1⟩:=D1.out
 have k2:w1.cell? ⟨g,2,none⟩=some (.slice (some ⟨q1,0,none⟩) 4 cap1):=d1.1.cell 2 rfl
 have k3:w1.cell? ⟨g,3,none⟩=some (.int .i64 h.kd):=d1.1.cell 3 rfl
 have k4:w1.cell? ⟨g,4,none⟩=some (.int .i64 h.ho):=d1.1.cell 4 rfl
 have k5:w1.cell? ⟨g,5,none⟩=some (.int .i64 h.tu):=d1.1.cell 5 rfl
 have c1:=s10keys_any _ h w1 d1.2.1.reads ok
 unfold HV hdA at c1
 have HE:Hid (intsB h.keysN=h.keysT):=by simp[Hid,Hd.keysT,ok]
 obtain⟨tx,htx⟩:∃tx,tx=h.keysT:=⟨_,rfl⟩
 rw[HE.out,←htx]at c1
 have HT:Hid (tx=h.keysT):=htx
 clear d1 D1 htx
 go_wp2_with fail
 refine c1.mono ?_
 rintro e w2 ⟨rfl,b2⟩
 have HD2:Hid (PS [⟨w.heap.size,32,#[.int .i64 11,.int .i64 p,.int .i64 x,.int .i64 y,.int .i64 k0]⟩,⟨w.heap.size+1,36,anA ⟨0,[]⟩⟩] a b xs ys w2 base g h):=HD.out.below b2
 have HB:Hid (Below base w w2):=B1.out.1.trans (b2.mono HD.out.lt)
 clear b2 m0 m2 m4 HD c1 k2 k3 k4 k5
 unfold S
 go_wp2_with (refine wpList_putS Tryz.isA rfl _ _ rfl (w.heap.size+1) (anA ⟨0,tx⟩) (anA ⟨0,[]⟩) rfl rfl rfl rfl (anA_one _) (HD2.out.box ⟨w.heap.size+1,36,anA ⟨0,[]⟩⟩ (by simp)) ?_;intro w9 s9 g9)
 refine bodyPost_ret (results_S Tryz.isA rfl _ _ (w.heap.size+1) _ rfl rfl s9) rfl ?_
 rw[←HT.out]
 exact⟨rfl,HD2.out.other ⟨w.heap.size+1,36,anA ⟨0,[]⟩⟩ (by simp) (show(36:Nat)≠2 by decide) g9,HB.out.grown g9 (Nat.le_trans B1.out.2 (Nat.le_of_lt (Nat.lt_of_lt_of_le (Nat.lt_succ_self _) (Nat.le_of_lt (HD2.out.box ⟨w.heap.size+1,36,anA ⟨0,[]⟩⟩ (by simp)).lt)))) (fun k e=>by cases e;have:=B1.out.2;omega)⟩
theorem s12hold_any {a b:Value} {xs ys:List Int} (base g:Nat) (h:Hd) (i p x y k0:Int) (w:World) (d:PS [] a b xs ys w base g h) (ok:h.ok=true):
  Calls Tryz.prog 88 #[.pointer (some ⟨g,0,none⟩),.int .i64 i,CV ⟨12,p,x,y,k0⟩] w fun e w'=>e=.returned (AV ⟨0,h.holdT⟩)∧PS [] a b xs ys w' base g h∧Below base w w':=by
 obtain⟨w1,hw1⟩:∃w1,w1=(w.alloc (.cells #[.int .i64 12,.int .i64 p,.int .i64 x,.int .i64 y,.int .i64 k0] 32)).alloc (.cells #[.int .i64 0,.string ⟨#[]⟩] 36):=⟨_,rfl⟩
 have b1:Below w.heap.size w w1:=by rw[hw1];exact((Below.refl _ _).alloc (Nat.le_refl _) _).alloc (by simp) _
 have lt:=d.lt
 have s0:StB w1 w.heap.size 32 #[.int .i64 12,.int .i64 p,.int .i64 x,.int .i64 y,.int .i64 k0]:=by rw[hw1];exact(StB.new w _ _).alloc _
 have s1:StB w1 (w.heap.size+1) 36 (anA ⟨0,[]⟩):=by
  rw[hw1]
  have a2:=StB.new (w.alloc (.cells #[.int .i64 12,.int .i64 p,.int .i64 x,.int .i64 y,.int .i64 k0] 32)) 36 (anA ⟨0,[]⟩)
  simp only[World.size_alloc]at a2
  exact a2
 have D1:Hid (PS [⟨w.heap.size,32,#[.int .i64 12,.int .i64 p,.int .i64 x,.int .i64 y,.int .i64 k0]⟩,⟨w.heap.size+1,36,anA ⟨0,[]⟩⟩] a b xs ys w1 base g h):=by
  refine d.boxes b1 (fun z hz=>?_)
  simp only[List.mem_cons,List.not_mem_nil,or_false]at hz
  rcases hz with rfl|rfl
  ·exact⟨s0,Nat.le_refl _⟩
  ·exact⟨s1,Nat.le_succ _⟩
 have B1:Hid (Below base w w1∧base≤w.heap.size):=⟨b1.mono lt,lt⟩
 have m0:w1.cell? ⟨w.heap.size,0,none⟩=some (.int .i64 12):=s0.cell 0 rfl
 have m2:w1.cell? ⟨w.heap.size,2,none⟩=some (.int .i64 x):=s0.cell 2 rfl
 have m4:w1.cell? ⟨w.heap.size,4,none⟩=some (.int .i64 k0):=s0.cell 4 rfl
 clear s0 s1 b1 d lt
 unfold CV cmA
 dsimp only
 go_enter Tryz.func88,Tryz.ntmps88
 go_upto_region 1 with fail
 rw[←hw1]
 clear hw1
 have HD:=D1
 obtain⟨q1,cap1,d1⟩:=D1.out
 have k2:w1.cell? ⟨g,2,none⟩=some (.slice (some ⟨q1,0,none⟩) 4 cap1):=d1.1.cell 2 rfl
 have k3:w1.cell? ⟨g,3,none⟩=some (.int .i64 h.kd):=d1.1.cell 3 rfl
 have k4:w1.cell? ⟨g,4,none⟩=some (.int .i64 h.ho):=d1.1.cell 4 rfl
 have k5:w1.cell? ⟨g,5,none⟩=some (.int .i64 h.tu):=d1.1.cell 5 rfl
 have c1:=s10holder_any _ h w1 d1.2.1.reads ok
 unfold HV hdA at c1
 have HE:Hid (intsB h.holdN=h.holdT):=by simp[Hid,Hd.holdT,ok]
 obtain⟨tx,htx⟩:∃tx,tx=h.holdT:=⟨_,rfl⟩
 rw[HE.out,←htx]at c1
 have HT:Hid (tx=h.holdT):=htx
 clear d1 D1 htx
 go_wp2_with fail
 refine c1.mono ?_
 rintro e w2 ⟨rfl,b2⟩
 have HD2:Hid (PS [⟨w.heap.size,32,#[.int .i64 12,.int .i64 p,.int .i64 x,.int .i64 y,.int .i64 k0]⟩,⟨w.heap.size+1,36,anA ⟨0,[]⟩⟩] a b xs ys w2 base g h):=HD.out.below b2
 have HB:Hid (Below base w w2):=B1.out.1.trans (b2.mono HD.out.lt)
 clear b2 m0 m2 m4 HD c1 k2 k3 k4 k5
 unfold S
 go_wp2_with (refine wpList_putS Tryz.isA rfl _ _ rfl (w.heap.size+1) (anA ⟨0,tx⟩) (anA ⟨0,[]⟩) rfl rfl rfl rfl (anA_one _) (HD2.out.box ⟨w.heap.size+1,36,anA ⟨0,[]⟩⟩ (by simp)) ?_;intro w9 s9 g9)
 refine bodyPost_ret (results_S Tryz.isA rfl _ _ (w.heap.size+1) _ rfl rfl s9) rfl ?_
 rw[←HT.out]
 exact⟨rfl,HD2.out.other ⟨w.heap.size+1,36,anA ⟨0,[]⟩⟩ (by simp) (show(36:Nat)≠2 by decide) g9,HB.out.grown g9 (Nat.le_trans B1.out.2 (Nat.le_of_lt (Nat.lt_of_lt_of_le (Nat.lt_succ_self _) (Nat.le_of_lt (HD2.out.box ⟨w.heap.size+1,36,anA ⟨0,[]⟩⟩ (by simp)).lt)))) (fun k e=>by cases e;have:=B1.out.2;omega)⟩
theorem s12act_any {a b:Value} {xs ys:List Int} (base g:Nat) (h:Hd) (i:Int) (c:Cm) (w:World) (d:PS [] a b xs ys w base g h) (i0:0≤i) (i1:i<4) (ok:h.ok=true) (hc:c.ok=true) (h5:5<c.o):
  Calls Tryz.prog 88 #[.pointer (some ⟨g,0,none⟩),.int .i64 i,CV c] w fun e w'=>e=.returned (AV (h.act i c).2)∧PS [] a b xs ys w' base g (h.act i c).1∧Below base w w':=by
 have ho:c.o≤12:=by
  unfold Cm.ok Cm.told at hc
  simp only[Bool.and_eq_true,inI_iff]at hc
  omega
 obtain⟨hl,ht, -,hm⟩:=Hd.ok_all ok
 obtain⟨o,p,x,y,k0⟩:=c
 dsimp only at h5 ho
 clear hc
 have h6:o=6∨o=7∨o=8∨o=9∨o=10∨o=11∨o=12:=by omega
 clear h5 ho
 rcases h6 with rfl|rfl|rfl|rfl|rfl|rfl|rfl
 ·exact s12reg_any base g h i p x y k0 w d i0 i1 ht.1 ht.2
 ·exact s12res_any base g h i p x y k0 w d i0 i1
 ·exact s12rel_any base g h i p x y k0 w d i0 i1
 ·exact s12clr_any base g h i p x y k0 w d i0 i1 ht.1 ht.2
 ·by_cases hx:x=0
  ·subst hx
   exact s12bad_any base g h i p y k0 w d
  ·have e:h.act i ⟨10,p,x,y,k0⟩=conf (h.pred i x k0):=by simp[Hd.act,hx]
   rw[e]
   exact s12pre_any base g h i p x y k0 w d i0 i1 hx ht.1 ht.2 (mid_holder hm)
 ·exact s12keys_any base g h i p x y k0 w d ok
 ·exact s12hold_any base g h i p x y k0 w d ok
end Go.Proofs.YtpdggofaobmnlaaGreatDoor
