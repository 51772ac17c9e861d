import Derived.Test.YtpdggofaobmnlaaGreatDoorM31
import Derived.BigQuiet
/- Blocks by commands, the program: a command that swaps (swappedIn). -/
set_option maxRecDepth 20000
set_option maxHeartbeats 2000000
namespace Go.Proofs.YtpdggofaobmnlaaGreatDoor
open Go.ChangeShapes Go.WideShapes Go.ChangeAt Go.RowKit
theorem Sq.set2 {w w1 wx:World} {j:Nat} {v:Value} (h:Sq w w1 wx):Sq w w1 (wx.setCell ⟨w.heap.size+1+1,j,none⟩ v):=fun a x h1 h2 h3=>(grownSet wx _ j v).cell (h a x h1 h2 h3) (by simpa using h1)
theorem iswap_no (u v:Value) (xs ys:List Int) (p x y:Int) (w:World) (h:Reads w u xs) (h':Reads w v ys) (hb:bothOk xs ys=true) (hp:putB ys p y=false):
  Calls Tryz.prog 167 #[.agg #[u,v],.agg #[.int .i64 p,.int .i64 x,.int .i64 y]] w fun e w'=>∃a b,e=.returned (.tuple #[.agg #[a,b],AV ⟨1,[]⟩])∧OwnD w' w.heap.size a b xs (putI ys p y)∧Below w.heap.size w w':=by
 obtain⟨n1,n8,nl⟩:=vol_len hb
 obtain⟨w1,hw1⟩:∃w1,w1=(((w.alloc (.cells #[u,v] 26)).alloc (.cells #[.int .i64 p,.int .i64 x,.int .i64 y] 196)).alloc (.cells #[.slice none 0 0,.slice none 0 0] 26)).alloc (.cells #[.int .i64 0,.string ⟨#[]⟩] 36):=⟨_,rfl⟩
 have HV:Hid (Vx w w1 u v 196 #[.int .i64 p,.int .i64 x,.int .i64 y] zeD ⟨0,[]⟩):=by rw[hw1];exact Vx.start w u v _ _
 have c1:=iwrittenTo_any u v xs ys p y w1 (h.below HV.out.bl (Nat.le_refl _)) (h'.below HV.out.bl (Nat.le_refl _)) (by omega) (by omega) hb
 rw[hp,show wrA false=⟨1,[]⟩from rfl]at c1
 unfold AV anA S at c1
 dsimp only at c1
 obtain⟨zs,hz⟩:∃zs,zs=putI ys p y:=⟨_,rfl⟩
 simp only[←hz]at c1⊢
 have HX:Hid (Reads w u xs∧Reads w v ys∧bothOk xs ys=true):=⟨h,h',hb⟩
 have m0:w1.cell? ⟨w.heap.size+1,0,none⟩=some (.int .i64 p):=HV.out.cm.cell 0 rfl
 have m1:w1.cell? ⟨w.heap.size+1,1,none⟩=some (.int .i64 x):=HV.out.cm.cell 1 rfl
 have m2:w1.cell? ⟨w.heap.size+1,2,none⟩=some (.int .i64 y):=HV.out.cm.cell 2 rfl
 obtain⟨uo,uc,rfl⟩:=h.form
 obtain⟨vo,vc,rfl⟩:=h'.form
 have HZ:Hid (zs=putI ys p y):=hz
 have HP:Hid (putB ys p y=false):=hp
 clear hb h h' hz n1 n8 nl hp
 go_enter Tryz.func167,Tryz.ntmps167
 go_upto_region 1 with fail
 rw[←hw1]
 clear hw1
 go_wp2_with (first|(refine wpList_getS Tryz.isD rfl _ rfl w.heap.size rfl _ rfl HV.out.dk ?_))
 refine c1.mono ?_
 rintro e w2 ⟨a,b,rfl,o2,b2⟩
 obtain⟨w3,hw3⟩:∃w3,w3=(w2.alloc (.cells #[.slice none 0 0,.slice none 0 0] 26)).alloc (.cells #[.int .i64 0,.string ⟨#[]⟩] 36):=⟨_,rfl⟩
 have b3:Below w2.heap.size w2 w3:=by rw[hw3];exact((Below.refl _ _).alloc (Nat.le_refl _) _).alloc (by simp) _
 have hk:Hid (w.heap.size+4≤w2.heap.size):=Nat.le_trans HV.out.sz b2.size
 have H3:Hid (Vx w w3 (.slice uo xs.length uc) (.slice vo ys.length vc) 196 #[.int .i64 p,.int .i64 x,.int .i64 y] zeD ⟨0,[]⟩):=(HV.out.next b2).next b3
 obtain⟨ao,ac,rfl⟩:=o2.1.reads.form
 obtain⟨bo,bc,rfl⟩:=o2.2.1.reads.form
 have O2:Hid (OwnD w2 (w.heap.size+4) (.slice ao xs.length ac) (.slice bo zs.length bc) xs zs):=o2.mono' HV.out.sz
 have O3:Hid (OwnD w3 (w.heap.size+4) (.slice ao xs.length ac) (.slice bo zs.length bc) xs zs):=OwnD.bel O2.out b3
 have na:Hid (∀k,w2.heap.size≤k→(Value.slice ao xs.length ac).ownBlock≠some k∧(Value.slice bo zs.length bc).ownBlock≠some k):=fun k hk=>⟨fun e=>by have:=(O2.out.1.lt _ e).2;omega,fun e=>by have:=(O2.out.2.1.lt _ e).2;omega⟩
 have s3:Hid (StB w3 w2.heap.size 26 zeD∧StB w3 (w2.heap.size+1) 36 (anA ⟨0,[]⟩)):=by
  rw[hw3]
  have q:=StB.new (w2.alloc (.cells zeD 26)) 36 (anA ⟨0,[]⟩)
  simp only[World.size_alloc]at q
  exact⟨(StB.new w2 _ zeD).alloc _,q⟩
 clear c1 o2 b2 HV m0 m1 m2 O2 b3
 go_upto_region 2 with(first
  |(rw[←hw3];refine wpList_putS Tryz.isD rfl _ _ rfl w2.heap.size #[.slice ao xs.length ac,.slice bo zs.length bc] zeD rfl rfl rfl rfl (dkA_one rfl rfl) s3.out.1 ?_;intro w4 s4 g4;clear hw3)
  |(refine wpList_putS Tryz.isA rfl _ _ rfl (w2.heap.size+1) (anA ⟨1,[]⟩) (anA ⟨0,[]⟩) rfl rfl rfl rfl (anA_one _) (s3.out.2.kept g4 (by simp)) ?_;intro w5 s5 g5))
 obtain⟨k6,hk6⟩:∃k6,k6=w2.heap.size:=⟨_,rfl⟩
 rw[←hk6]at hk s4 g4 s5 g5 na⊢
 have H5:Hid (Vx w w5 (.slice uo xs.length uc) (.slice vo ys.length vc) 196 #[.int .i64 p,.int .i64 x,.int .i64 y] zeD ⟨0,[]⟩):=(H3.out.grown g4 hk.out).grown g5 (Nat.le_succ_of_le hk.out)
 have S5:Hid (StB w5 k6 26 #[.slice ao xs.length ac,.slice bo zs.length bc]∧StB w5 (k6+1) 36 (anA ⟨1,[]⟩)):=⟨s4.kept g5 (by simp),s5⟩
 have O5:Hid (OwnD w5 (w.heap.size+4) (.slice ao xs.length ac) (.slice bo zs.length bc) xs zs):=⟨(O3.out.1.kept g4 (.inr (na.out k6 (Nat.le_refl _)).1)).kept g5 (.inr (na.out (k6+1) (Nat.le_succ _)).1),(O3.out.2.1.kept g4 (.inr (na.out k6 (Nat.le_refl _)).2)).kept g5 (.inr (na.out (k6+1) (Nat.le_succ _)).2),O3.out.2.2⟩
 clear hk6 s3 s4 s5 g4 g5 na O3 H3
 have t0:w5.cell? ⟨k6+1,0,none⟩=some (.int .i64 (⟨1,[]⟩:An).st):=S5.out.2.cell 0 rfl
 have t1:w5.cell? ⟨k6+1,1,none⟩=some (.string ⟨#[]⟩):=S5.out.2.cell 1 rfl
 dsimp only at t0
 have d0:w5.cell? ⟨w.heap.size,0,none⟩=some (.slice uo xs.length uc):=H5.out.dk.cell 0 rfl
 have d1:w5.cell? ⟨w.heap.size,1,none⟩=some (.slice vo ys.length vc):=H5.out.dk.cell 1 rfl
 have a0:w5.cell? ⟨w.heap.size+1,0,none⟩=some (.int .i64 p):=H5.out.cm.cell 0 rfl
 have a1:w5.cell? ⟨w.heap.size+1,1,none⟩=some (.int .i64 x):=H5.out.cm.cell 1 rfl
 simp only[Act.put]
 go_quiet (fail)
 obtain⟨w6,hw6⟩:∃w6,w6=w5.drewN nq:=⟨_,rfl⟩
 rw[←hw6]
 have H6:Hid (Vx w w6.drew (.slice uo xs.length uc) (.slice vo ys.length vc) 196 #[.int .i64 p,.int .i64 x,.int .i64 y] zeD ⟨0,[]⟩∧Vx w w6 (.slice uo xs.length uc) (.slice vo ys.length vc) 196 #[.int .i64 p,.int .i64 x,.int .i64 y] zeD ⟨0,[]⟩):=by
  have e:Vx w w6 (.slice uo xs.length uc) (.slice vo ys.length vc) 196 #[.int .i64 p,.int .i64 x,.int .i64 y] zeD ⟨0,[]⟩:=by rw[hw6];exact⟨H5.out.dk,H5.out.cm,H5.out.rd,H5.out.ra,below_drewN H5.out.bl nq,H5.out.sz⟩
  exact⟨e.drew,e⟩
 have S6:Hid (StB w6 k6 26 #[.slice ao xs.length ac,.slice bo zs.length bc]∧StB w6 (k6+1) 36 (anA ⟨1,[]⟩)):=by rw[hw6];exact S5.out
 have O6:Hid (OwnD w6.drew (w.heap.size+4) (.slice ao xs.length ac) (.slice bo zs.length bc) xs zs):=by rw[hw6];exact O5.out
 clear H5 S5 O5 t0 t1 d0 d1 a0 a1 hw6
 have q0:∀w',Sq w w6 w'→w'.cell? ⟨k6,0,none⟩=some (.slice ao xs.length ac):=fun w' b=>b _ _ (by have:=hk.out;dsimp only;omega) (by have:=hk.out;dsimp only;omega) (S6.out.1.cell 0 rfl)
 have q1:∀w',Sq w w6 w'→w'.cell? ⟨k6,1,none⟩=some (.slice bo zs.length bc):=fun w' b=>b _ _ (by have:=hk.out;dsimp only;omega) (by have:=hk.out;dsimp only;omega) (S6.out.1.cell 1 rfl)
 have q2:∀w',Sq w w6 w'→w'.cell? ⟨k6+1,0,none⟩=some (.int .i64 (⟨1,[]⟩:An).st):=fun w' b=>b _ _ (by have:=hk.out;dsimp only;omega) (by have:=hk.out;dsimp only;omega) (S6.out.2.cell 0 rfl)
 have q3:∀w',Sq w w6 w'→w'.cell? ⟨k6+1,1,none⟩=some (.string ⟨#[]⟩):=fun w' b=>b _ _ (by have:=hk.out;dsimp only;omega) (by have:=hk.out;dsimp only;omega) (S6.out.2.cell 1 rfl)
 dsimp only at q2
 have rd0:w6.drew.cell? ⟨w.heap.size+1+1,0,none⟩=some (.slice none 0 0):=H6.out.1.rd.cell 0 rfl
 have frd0:=H6.out.1.rd.frozen 0
 have rd0':w6.cell? ⟨w.heap.size+1+1,0,none⟩=some (.slice none 0 0):=H6.out.2.rd.cell 0 rfl
 have frd0':=H6.out.2.rd.frozen 0
 have rd1:w6.drew.cell? ⟨w.heap.size+1+1,1,none⟩=some (.slice none 0 0):=H6.out.1.rd.cell 1 rfl
 have frd1:=H6.out.1.rd.frozen 1
 have rd1':w6.cell? ⟨w.heap.size+1+1,1,none⟩=some (.slice none 0 0):=H6.out.2.rd.cell 1 rfl
 have frd1':=H6.out.2.rd.frozen 1
 have ra0:w6.drew.cell? ⟨w.heap.size+1+1+1,0,none⟩=some (.int .i64 0):=H6.out.1.ra.cell 0 rfl
 have fra0:=H6.out.1.ra.frozen 0
 have ra0':w6.cell? ⟨w.heap.size+1+1+1,0,none⟩=some (.int .i64 0):=H6.out.2.ra.cell 0 rfl
 have fra0':=H6.out.2.ra.frozen 0
 have ra1:w6.drew.cell? ⟨w.heap.size+1+1+1,1,none⟩=some (.string ⟨#[]⟩):=H6.out.1.ra.cell 1 rfl
 have fra1:=H6.out.1.ra.frozen 1
 have ra1':w6.cell? ⟨w.heap.size+1+1+1,1,none⟩=some (.string ⟨#[]⟩):=H6.out.2.ra.cell 1 rfl
 have fra1':=H6.out.2.ra.frozen 1
 go_upto_region 3 with fail
 go_region_held3 (fun w'=>Sq w w6 w') ((repeat'(first|with_reducible assumption|with_reducible exact Sq.refl _ _|with_reducible refine Sq.al ?_|with_reducible refine Sq.dr ?_|with_reducible refine Sq.set2 ?_|with_reducible refine Sq.set3 ?_|with_reducible refine Sq.put2 ?_ (by with_reducible assumption)|with_reducible refine Sq.bel ?_ (by with_reducible assumption)))) (fail)
 all_goals
  go_wp2
  have T5:=(H6.out.1.rd.put 0 (.slice ao xs.length ac) rfl).put 1 (.slice bo zs.length bc) (ds:=#[.slice ao xs.length ac,.slice bo zs.length bc]) rfl
  have G5:=(grownSet w6.drew (w.heap.size+1+1) 0 (.slice ao xs.length ac)).trans (grownSet _ (w.heap.size+1+1) 1 (.slice bo zs.length bc))
  have T6:=((H6.out.1.ra.kept G5 (by simp)).put 0 (.int .i64 (⟨1,[]⟩:An).st) rfl).put 1 (S []) (ds:=anA ⟨1,[]⟩) rfl
  have G6:=(grownSet ((w6.drew.setCell ⟨w.heap.size+1+1,0,none⟩ (.slice ao xs.length ac)).setCell ⟨w.heap.size+1+1,1,none⟩ (.slice bo zs.length bc)) (w.heap.size+1+1+1) 0 (.int .i64 (⟨1,[]⟩:An).st)).trans (grownSet _ (w.heap.size+1+1+1) 1 (S []))
  refine bodyPost_ret (results_DA rfl _ _ (w.heap.size+1+1) (w.heap.size+1+1+1) _ _ rfl rfl rfl rfl (T5.kept G6 (by simp)) T6) rfl ?_
  exact⟨_,_,rfl,H6.out.1.fin O6.out.1 O6.out.2.1 (Nat.le_refl _) O6.out.2.2 G5 G6⟩
theorem iswap_yes (u v:Value) (xs ys:List Int) (j:Nat) (x y:Int) (w:World) (h:Reads w u xs) (h':Reads w v ys) (hb:bothOk xs ys=true) (hp:putB ys (j:Int) y=true) (hj:(j:Int)<(ys.length:Int)) (hx:ys.getD j 0=x):
  Calls Tryz.prog 167 #[.agg #[u,v],.agg #[.int .i64 (j:Int),.int .i64 x,.int .i64 y]] w fun e w'=>∃a b,e=.returned (.tuple #[.agg #[a,b],AV ⟨0,[]⟩])∧OwnD w' w.heap.size a b xs (putI ys (j:Int) y)∧Below w.heap.size w w':=by
 obtain⟨n1,n8,nl⟩:=vol_len hb
 obtain⟨w1,hw1⟩:∃w1,w1=(((w.alloc (.cells #[u,v] 26)).alloc (.cells #[.int .i64 (j:Int),.int .i64 x,.int .i64 y] 196)).alloc (.cells #[.slice none 0 0,.slice none 0 0] 26)).alloc (.cells #[.int .i64 0,.string ⟨#[]⟩] 36):=⟨_,rfl⟩
 have HV:Hid (Vx w w1 u v 196 #[.int .i64 (j:Int),.int .i64 x,.int .i64 y] zeD ⟨0,[]⟩):=by rw[hw1];exact Vx.start w u v _ _
 have c1:=iwrittenTo_any u v xs ys (j:Int) y w1 (h.below HV.out.bl (Nat.le_refl _)) (h'.below HV.out.bl (Nat.le_refl _)) (by omega) (by omega) hb
 rw[hp,show wrA true=⟨0,[]⟩from rfl]at c1
 unfold AV anA S at c1
 dsimp only at c1
 obtain⟨zs,hz⟩:∃zs,zs=putI ys (j:Int) y:=⟨_,rfl⟩
 simp only[←hz]at c1⊢
 have HX:Hid (Reads w u xs∧Reads w v ys∧bothOk xs ys=true):=⟨h,h',hb⟩
 have m0:w1.cell? ⟨w.heap.size+1,0,none⟩=some (.int .i64 (j:Int)):=HV.out.cm.cell 0 rfl
 have m1:w1.cell? ⟨w.heap.size+1,1,none⟩=some (.int .i64 x):=HV.out.cm.cell 1 rfl
 have m2:w1.cell? ⟨w.heap.size+1,2,none⟩=some (.int .i64 y):=HV.out.cm.cell 2 rfl
 obtain⟨uo,uc,rfl⟩:=h.form
 obtain⟨vo,vc,rfl⟩:=h'.form
 obtain⟨-, -, -,hcv⟩:=reads_cells h'
 obtain⟨vb,vf,rfl,hc0⟩:=hcv j (by omega)
 have hvb:Hid (vb<w.heap.size):=World.block_lt_of_cell? w _ hc0
 rw[hx]at hc0
 have HC:Hid (w.cell? ⟨vb,vf+j,none⟩=some (.int .i64 x)):=hc0
 have HZ:Hid (zs=putI ys (j:Int) y):=hz
 have HP:Hid (putB ys (j:Int) y=true):=hp
 clear hx hcv hc0 hb h h' hz n1 n8 nl hp
 go_enter Tryz.func167,Tryz.ntmps167
 go_upto_region 1 with fail
 rw[←hw1]
 clear hw1
 go_wp2_with (first|(refine wpList_getS Tryz.isD rfl _ rfl w.heap.size rfl _ rfl HV.out.dk ?_))
 refine c1.mono ?_
 rintro e w2 ⟨a,b,rfl,o2,b2⟩
 obtain⟨w3,hw3⟩:∃w3,w3=(w2.alloc (.cells #[.slice none 0 0,.slice none 0 0] 26)).alloc (.cells #[.int .i64 0,.string ⟨#[]⟩] 36):=⟨_,rfl⟩
 have b3:Below w2.heap.size w2 w3:=by rw[hw3];exact((Below.refl _ _).alloc (Nat.le_refl _) _).alloc (by simp) _
 have hk:Hid (w.heap.size+4≤w2.heap.size):=Nat.le_trans HV.out.sz b2.size
 have H3:Hid (Vx w w3 (.slice uo xs.length uc) (.slice (some ⟨vb,vf,none⟩) ys.length vc) 196 #[.int .i64 (j:Int),.int .i64 x,.int .i64 y] zeD ⟨0,[]⟩):=(HV.out.next b2).next b3
 obtain⟨ao,ac,rfl⟩:=o2.1.reads.form
 obtain⟨bo,bc,rfl⟩:=o2.2.1.reads.form
 have O2:Hid (OwnD w2 (w.heap.size+4) (.slice ao xs.length ac) (.slice bo zs.length bc) xs zs):=o2.mono' HV.out.sz
 have O3:Hid (OwnD w3 (w.heap.size+4) (.slice ao xs.length ac) (.slice bo zs.length bc) xs zs):=OwnD.bel O2.out b3
 have na:Hid (∀k,w2.heap.size≤k→(Value.slice ao xs.length ac).ownBlock≠some k∧(Value.slice bo zs.length bc).ownBlock≠some k):=fun k hk=>⟨fun e=>by have:=(O2.out.1.lt _ e).2;omega,fun e=>by have:=(O2.out.2.1.lt _ e).2;omega⟩
 have s3:Hid (StB w3 w2.heap.size 26 zeD∧StB w3 (w2.heap.size+1) 36 (anA ⟨0,[]⟩)):=by
  rw[hw3]
  have q:=StB.new (w2.alloc (.cells zeD 26)) 36 (anA ⟨0,[]⟩)
  simp only[World.size_alloc]at q
  exact⟨(StB.new w2 _ zeD).alloc _,q⟩
 clear c1 o2 b2 HV m0 m1 m2 O2 b3
 go_upto_region 2 with(first
  |(rw[←hw3];refine wpList_putS Tryz.isD rfl _ _ rfl w2.heap.size #[.slice ao xs.length ac,.slice bo zs.length bc] zeD rfl rfl rfl rfl (dkA_one rfl rfl) s3.out.1 ?_;intro w4 s4 g4;clear hw3)
  |(refine wpList_putS Tryz.isA rfl _ _ rfl (w2.heap.size+1) (anA ⟨0,[]⟩) (anA ⟨0,[]⟩) rfl rfl rfl rfl (anA_one _) (s3.out.2.kept g4 (by simp)) ?_;intro w5 s5 g5))
 obtain⟨k6,hk6⟩:∃k6,k6=w2.heap.size:=⟨_,rfl⟩
 rw[←hk6]at hk s4 g4 s5 g5 na⊢
 have H5:Hid (Vx w w5 (.slice uo xs.length uc) (.slice (some ⟨vb,vf,none⟩) ys.length vc) 196 #[.int .i64 (j:Int),.int .i64 x,.int .i64 y] zeD ⟨0,[]⟩):=(H3.out.grown g4 hk.out).grown g5 (Nat.le_succ_of_le hk.out)
 have S5:Hid (StB w5 k6 26 #[.slice ao xs.length ac,.slice bo zs.length bc]∧StB w5 (k6+1) 36 (anA ⟨0,[]⟩)):=⟨s4.kept g5 (by simp),s5⟩
 have O5:Hid (OwnD w5 (w.heap.size+4) (.slice ao xs.length ac) (.slice bo zs.length bc) xs zs):=⟨(O3.out.1.kept g4 (.inr (na.out k6 (Nat.le_refl _)).1)).kept g5 (.inr (na.out (k6+1) (Nat.le_succ _)).1),(O3.out.2.1.kept g4 (.inr (na.out k6 (Nat.le_refl _)).2)).kept g5 (.inr (na.out (k6+1) (Nat.le_succ _)).2),O3.out.2.2⟩
 clear hk6 s3 s4 s5 g4 g5 na O3 H3
 have t0:w5.cell? ⟨k6+1,0,none⟩=some (.int .i64 (⟨0,[]⟩:An).st):=S5.out.2.cell 0 rfl
 have t1:w5.cell? ⟨k6+1,1,none⟩=some (.string ⟨#[]⟩):=S5.out.2.cell 1 rfl
 dsimp only at t0
 have d0:w5.cell? ⟨w.heap.size,0,none⟩=some (.slice uo xs.length uc):=H5.out.dk.cell 0 rfl
 have d1:w5.cell? ⟨w.heap.size,1,none⟩=some (.slice (some ⟨vb,vf,none⟩) ys.length vc):=H5.out.dk.cell 1 rfl
 have a0:w5.cell? ⟨w.heap.size+1,0,none⟩=some (.int .i64 (j:Int)):=H5.out.cm.cell 0 rfl
 have a1:w5.cell? ⟨w.heap.size+1,1,none⟩=some (.int .i64 x):=H5.out.cm.cell 1 rfl
 simp only[Act.put]
 have zc:w5.cell? ⟨vb,vf+j,none⟩=some (.int .i64 x):=(H5.out.bl.cell (p:=⟨vb,vf+j,none⟩) hvb.out).trans HC.out
 go_quiet (fail)
 obtain⟨w6,hw6⟩:∃w6,w6=w5.drewN nq:=⟨_,rfl⟩
 rw[←hw6]
 have H6:Hid (Vx w w6.drew (.slice uo xs.length uc) (.slice (some ⟨vb,vf,none⟩) ys.length vc) 196 #[.int .i64 (j:Int),.int .i64 x,.int .i64 y] zeD ⟨0,[]⟩∧Vx w w6 (.slice uo xs.length uc) (.slice (some ⟨vb,vf,none⟩) ys.length vc) 196 #[.int .i64 (j:Int),.int .i64 x,.int .i64 y] zeD ⟨0,[]⟩):=by
  have e:Vx w w6 (.slice uo xs.length uc) (.slice (some ⟨vb,vf,none⟩) ys.length vc) 196 #[.int .i64 (j:Int),.int .i64 x,.int .i64 y] zeD ⟨0,[]⟩:=by rw[hw6];exact⟨H5.out.dk,H5.out.cm,H5.out.rd,H5.out.ra,below_drewN H5.out.bl nq,H5.out.sz⟩
  exact⟨e.drew,e⟩
 have S6:Hid (StB w6 k6 26 #[.slice ao xs.length ac,.slice bo zs.length bc]∧StB w6 (k6+1) 36 (anA ⟨0,[]⟩)):=by rw[hw6];exact S5.out
 have O6:Hid (OwnD w6.drew (w.heap.size+4) (.slice ao xs.length ac) (.slice bo zs.length bc) xs zs):=by rw[hw6];exact O5.out
 clear zc H5 S5 O5 t0 t1 d0 d1 a0 a1 hw6
 have q0:∀w',Sq w w6 w'→w'.cell? ⟨k6,0,none⟩=some (.slice ao xs.length ac):=fun w' b=>b _ _ (by have:=hk.out;dsimp only;omega) (by have:=hk.out;dsimp only;omega) (S6.out.1.cell 0 rfl)
 have q1:∀w',Sq w w6 w'→w'.cell? ⟨k6,1,none⟩=some (.slice bo zs.length bc):=fun w' b=>b _ _ (by have:=hk.out;dsimp only;omega) (by have:=hk.out;dsimp only;omega) (S6.out.1.cell 1 rfl)
 have q2:∀w',Sq w w6 w'→w'.cell? ⟨k6+1,0,none⟩=some (.int .i64 (⟨0,[]⟩:An).st):=fun w' b=>b _ _ (by have:=hk.out;dsimp only;omega) (by have:=hk.out;dsimp only;omega) (S6.out.2.cell 0 rfl)
 have q3:∀w',Sq w w6 w'→w'.cell? ⟨k6+1,1,none⟩=some (.string ⟨#[]⟩):=fun w' b=>b _ _ (by have:=hk.out;dsimp only;omega) (by have:=hk.out;dsimp only;omega) (S6.out.2.cell 1 rfl)
 dsimp only at q2
 have rd0:w6.drew.cell? ⟨w.heap.size+1+1,0,none⟩=some (.slice none 0 0):=H6.out.1.rd.cell 0 rfl
 have frd0:=H6.out.1.rd.frozen 0
 have rd0':w6.cell? ⟨w.heap.size+1+1,0,none⟩=some (.slice none 0 0):=H6.out.2.rd.cell 0 rfl
 have frd0':=H6.out.2.rd.frozen 0
 have rd1:w6.drew.cell? ⟨w.heap.size+1+1,1,none⟩=some (.slice none 0 0):=H6.out.1.rd.cell 1 rfl
 have frd1:=H6.out.1.rd.frozen 1
 have rd1':w6.cell? ⟨w.heap.size+1+1,1,none⟩=some (.slice none 0 0):=H6.out.2.rd.cell 1 rfl
 have frd1':=H6.out.2.rd.frozen 1
 have ra0:w6.drew.cell? ⟨w.heap.size+1+1+1,0,none⟩=some (.int .i64 0):=H6.out.1.ra.cell 0 rfl
 have fra0:=H6.out.1.ra.frozen 0
 have ra0':w6.cell? ⟨w.heap.size+1+1+1,0,none⟩=some (.int .i64 0):=H6.out.2.ra.cell 0 rfl
 have fra0':=H6.out.2.ra.frozen 0
 have ra1:w6.drew.cell? ⟨w.heap.size+1+1+1,1,none⟩=some (.string ⟨#[]⟩):=H6.out.1.ra.cell 1 rfl
 have fra1:=H6.out.1.ra.frozen 1
 have ra1':w6.cell? ⟨w.heap.size+1+1+1,1,none⟩=some (.string ⟨#[]⟩):=H6.out.2.ra.cell 1 rfl
 have fra1':=H6.out.2.ra.frozen 1
 go_upto_region 3 with fail
 go_region_held3 (fun w'=>Sq w w6 w') ((repeat'(first|with_reducible assumption|with_reducible exact Sq.refl _ _|with_reducible refine Sq.al ?_|with_reducible refine Sq.dr ?_|with_reducible refine Sq.set2 ?_|with_reducible refine Sq.set3 ?_|with_reducible refine Sq.put2 ?_ (by with_reducible assumption)|with_reducible refine Sq.bel ?_ (by with_reducible assumption)))) (fail)
 all_goals
  go_wp2
  have T5:=(H6.out.1.rd.put 0 (.slice ao xs.length ac) rfl).put 1 (.slice bo zs.length bc) (ds:=#[.slice ao xs.length ac,.slice bo zs.length bc]) rfl
  have G5:=(grownSet w6.drew (w.heap.size+1+1) 0 (.slice ao xs.length ac)).trans (grownSet _ (w.heap.size+1+1) 1 (.slice bo zs.length bc))
  have T6:=((H6.out.1.ra.kept G5 (by simp)).put 0 (.int .i64 (⟨0,[]⟩:An).st) rfl).put 1 (S []) (ds:=anA ⟨0,[]⟩) rfl
  have G6:=(grownSet ((w6.drew.setCell ⟨w.heap.size+1+1,0,none⟩ (.slice ao xs.length ac)).setCell ⟨w.heap.size+1+1,1,none⟩ (.slice bo zs.length bc)) (w.heap.size+1+1+1) 0 (.int .i64 (⟨0,[]⟩:An).st)).trans (grownSet _ (w.heap.size+1+1+1) 1 (S []))
  refine bodyPost_ret (results_DA rfl _ _ (w.heap.size+1+1) (w.heap.size+1+1+1) _ _ rfl rfl rfl rfl (T5.kept G6 (by simp)) T6) rfl ?_
  exact⟨_,_,rfl,H6.out.1.fin O6.out.1 O6.out.2.1 (Nat.le_refl _) O6.out.2.2 G5 G6⟩
theorem iswap_unlike (u v:Value) (xs ys:List Int) (j:Nat) (x y:Int) (w:World) (h:Reads w u xs) (h':Reads w v ys) (hb:bothOk xs ys=true) (hp:putB ys (j:Int) y=true) (hj:(j:Int)<(ys.length:Int)) (hx:ys.getD j 0≠x) (ht:Tab w):
  Calls Tryz.prog 167 #[.agg #[u,v],.agg #[.int .i64 (j:Int),.int .i64 x,.int .i64 y]] w fun e w'=>∃a b,e=.returned (.tuple #[.agg #[a,b],AV ⟨2,decI (ys.getD j 0)⟩])∧OwnD w' w.heap.size a b xs ys∧Below w.heap.size w w':=by
 obtain⟨n1,n8,nl⟩:=vol_len hb
 obtain⟨w1,hw1⟩:∃w1,w1=(((w.alloc (.cells #[u,v] 26)).alloc (.cells #[.int .i64 (j:Int),.int .i64 x,.int .i64 y] 196)).alloc (.cells #[.slice none 0 0,.slice none 0 0] 26)).alloc (.cells #[.int .i64 0,.string ⟨#[]⟩] 36):=⟨_,rfl⟩
 have HV:Hid (Vx w w1 u v 196 #[.int .i64 (j:Int),.int .i64 x,.int .i64 y] zeD ⟨0,[]⟩):=by rw[hw1];exact Vx.start w u v _ _
 have c1:=iwrittenTo_any u v xs ys (j:Int) y w1 (h.below HV.out.bl (Nat.le_refl _)) (h'.below HV.out.bl (Nat.le_refl _)) (by omega) (by omega) hb
 rw[hp,show wrA true=⟨0,[]⟩from rfl]at c1
 unfold AV anA S at c1
 dsimp only at c1
 have hzb:=vol_val hb j
 obtain⟨z,hz1⟩:∃z,z=ys.getD j 0:=⟨_,rfl⟩
 rw[←hz1]at hx hzb⊢
 have HL:Hid (1≤xs.length∧xs.length≤8∧ys.length=xs.length∧0≤z∧z≤9999):=⟨n1,n8,nl,hzb⟩
 have HT:Hid (Tab w):=ht
 have he1:(z==x)=false:=by simpa using hx
 have he2:decide (z=x)=false:=by simpa using hx
 obtain⟨zs,hz⟩:∃zs,zs=putI ys (j:Int) y:=⟨_,rfl⟩
 simp only[←hz]at c1
 have HX:Hid (Reads w u xs∧Reads w v ys∧bothOk xs ys=true):=⟨h,h',hb⟩
 have m0:w1.cell? ⟨w.heap.size+1,0,none⟩=some (.int .i64 (j:Int)):=HV.out.cm.cell 0 rfl
 have m1:w1.cell? ⟨w.heap.size+1,1,none⟩=some (.int .i64 x):=HV.out.cm.cell 1 rfl
 have m2:w1.cell? ⟨w.heap.size+1,2,none⟩=some (.int .i64 y):=HV.out.cm.cell 2 rfl
 obtain⟨uo,uc,rfl⟩:=h.form
 obtain⟨vo,vc,rfl⟩:=h'.form
 obtain⟨-, -, -,hcv⟩:=reads_cells h'
 obtain⟨vb,vf,rfl,hc0⟩:=hcv j (by omega)
 have hvb:Hid (vb<w.heap.size):=World.block_lt_of_cell? w _ hc0
 rw[←hz1]at hc0
 have HC:Hid (w.cell? ⟨vb,vf+j,none⟩=some (.int .i64 z)):=hc0
 have HZ:Hid (zs=putI ys (j:Int) y):=hz
 have HP:Hid (putB ys (j:Int) y=true):=hp
 clear hz1 hzb ht hcv hc0 hb h h' hz n1 n8 nl hp
 go_enter Tryz.func167,Tryz.ntmps167
 go_upto_region 1 with fail
 rw[←hw1]
 clear hw1
 go_wp2_with (first|(refine wpList_getS Tryz.isD rfl _ rfl w.heap.size rfl _ rfl HV.out.dk ?_))
 refine c1.mono ?_
 rintro e w2 ⟨a,b,rfl,o2,b2⟩
 obtain⟨w3,hw3⟩:∃w3,w3=(w2.alloc (.cells #[.slice none 0 0,.slice none 0 0] 26)).alloc (.cells #[.int .i64 0,.string ⟨#[]⟩] 36):=⟨_,rfl⟩
 have b3:Below w2.heap.size w2 w3:=by rw[hw3];exact((Below.refl _ _).alloc (Nat.le_refl _) _).alloc (by simp) _
 have hk:Hid (w.heap.size+4≤w2.heap.size):=Nat.le_trans HV.out.sz b2.size
 have H3:Hid (Vx w w3 (.slice uo xs.length uc) (.slice (some ⟨vb,vf,none⟩) ys.length vc) 196 #[.int .i64 (j:Int),.int .i64 x,.int .i64 y] zeD ⟨0,[]⟩):=(HV.out.next b2).next b3
 obtain⟨ao,ac,rfl⟩:=o2.1.reads.form
 obtain⟨bo,bc,rfl⟩:=o2.2.1.reads.form
 have O2:Hid (OwnD w2 (w.heap.size+4) (.slice ao xs.length ac) (.slice bo zs.length bc) xs zs):=o2.mono' HV.out.sz
 have O3:Hid (OwnD w3 (w.heap.size+4) (.slice ao xs.length ac) (.slice bo zs.length bc) xs zs):=OwnD.bel O2.out b3
 have na:Hid (∀k,w2.heap.size≤k→(Value.slice ao xs.length ac).ownBlock≠some k∧(Value.slice bo zs.length bc).ownBlock≠some k):=fun k hk=>⟨fun e=>by have:=(O2.out.1.lt _ e).2;omega,fun e=>by have:=(O2.out.2.1.lt _ e).2;omega⟩
 have s3:Hid (StB w3 w2.heap.size 26 zeD∧StB w3 (w2.heap.size+1) 36 (anA ⟨0,[]⟩)):=by
  rw[hw3]
  have q:=StB.new (w2.alloc (.cells zeD 26)) 36 (anA ⟨0,[]⟩)
  simp only[World.size_alloc]at q
  exact⟨(StB.new w2 _ zeD).alloc _,q⟩
 clear c1 o2 b2 HV m0 m1 m2 O2 b3
 go_upto_region 2 with(first
  |(rw[←hw3];refine wpList_putS Tryz.isD rfl _ _ rfl w2.heap.size #[.slice ao xs.length ac,.slice bo zs.length bc] zeD rfl rfl rfl rfl (dkA_one rfl rfl) s3.out.1 ?_;intro w4 s4 g4;clear hw3)
  |(refine wpList_putS Tryz.isA rfl _ _ rfl (w2.heap.size+1) (anA ⟨0,[]⟩) (anA ⟨0,[]⟩) rfl rfl rfl rfl (anA_one _) (s3.out.2.kept g4 (by simp)) ?_;intro w5 s5 g5))
 obtain⟨k6,hk6⟩:∃k6,k6=w2.heap.size:=⟨_,rfl⟩
 rw[←hk6]at hk s4 g4 s5 g5 na⊢
 have H5:Hid (Vx w w5 (.slice uo xs.length uc) (.slice (some ⟨vb,vf,none⟩) ys.length vc) 196 #[.int .i64 (j:Int),.int .i64 x,.int .i64 y] zeD ⟨0,[]⟩):=(H3.out.grown g4 hk.out).grown g5 (Nat.le_succ_of_le hk.out)
 have S5:Hid (StB w5 k6 26 #[.slice ao xs.length ac,.slice bo zs.length bc]∧StB w5 (k6+1) 36 (anA ⟨0,[]⟩)):=⟨s4.kept g5 (by simp),s5⟩
 have O5:Hid (OwnD w5 (w.heap.size+4) (.slice ao xs.length ac) (.slice bo zs.length bc) xs zs):=⟨(O3.out.1.kept g4 (.inr (na.out k6 (Nat.le_refl _)).1)).kept g5 (.inr (na.out (k6+1) (Nat.le_succ _)).1),(O3.out.2.1.kept g4 (.inr (na.out k6 (Nat.le_refl _)).2)).kept g5 (.inr (na.out (k6+1) (Nat.le_succ _)).2),O3.out.2.2⟩
 clear hk6 s3 s4 s5 g4 g5 na O3 H3
 have t0:w5.cell? ⟨k6+1,0,none⟩=some (.int .i64 (⟨0,[]⟩:An).st):=S5.out.2.cell 0 rfl
 have t1:w5.cell? ⟨k6+1,1,none⟩=some (.string ⟨#[]⟩):=S5.out.2.cell 1 rfl
 dsimp only at t0
 have d0:w5.cell? ⟨w.heap.size,0,none⟩=some (.slice uo xs.length uc):=H5.out.dk.cell 0 rfl
 have d1:w5.cell? ⟨w.heap.size,1,none⟩=some (.slice (some ⟨vb,vf,none⟩) ys.length vc):=H5.out.dk.cell 1 rfl
 have a0:w5.cell? ⟨w.heap.size+1,0,none⟩=some (.int .i64 (j:Int)):=H5.out.cm.cell 0 rfl
 have a1:w5.cell? ⟨w.heap.size+1,1,none⟩=some (.int .i64 x):=H5.out.cm.cell 1 rfl
 simp only[Act.put]
 have zc:w5.cell? ⟨vb,vf+j,none⟩=some (.int .i64 z):=(H5.out.bl.cell (p:=⟨vb,vf+j,none⟩) hvb.out).trans HC.out
 go_quiet (fail)
 obtain⟨w6,hw6⟩:∃w6,w6=w5.drewN nq:=⟨_,rfl⟩
 rw[←hw6]
 have H6:Hid (Vx w w6.drew (.slice uo xs.length uc) (.slice (some ⟨vb,vf,none⟩) ys.length vc) 196 #[.int .i64 (j:Int),.int .i64 x,.int .i64 y] zeD ⟨0,[]⟩∧Vx w w6 (.slice uo xs.length uc) (.slice (some ⟨vb,vf,none⟩) ys.length vc) 196 #[.int .i64 (j:Int),.int .i64 x,.int .i64 y] zeD ⟨0,[]⟩):=by
  have e:Vx w w6 (.slice uo xs.length uc) (.slice (some ⟨vb,vf,none⟩) ys.length vc) 196 #[.int .i64 (j:Int),.int .i64 x,.int .i64 y] zeD ⟨0,[]⟩:=by rw[hw6];exact⟨H5.out.dk,H5.out.cm,H5.out.rd,H5.out.ra,below_drewN H5.out.bl nq,H5.out.sz⟩
  exact⟨e.drew,e⟩
 have S6:Hid (StB w6 k6 26 #[.slice ao xs.length ac,.slice bo zs.length bc]∧StB w6 (k6+1) 36 (anA ⟨0,[]⟩)):=by rw[hw6];exact S5.out
 have O6:Hid (OwnD w6.drew (w.heap.size+4) (.slice ao xs.length ac) (.slice bo zs.length bc) xs zs):=by rw[hw6];exact O5.out
 clear zc H5 S5 O5 t0 t1 d0 d1 a0 a1 hw6
 have FD:Hid (∀w',Below w6.heap.size w6 w'→Calls Tryz.prog 79 #[.agg #[.slice uo xs.length uc,.slice (some ⟨vb,vf,none⟩) ys.length vc]] w' fun e w''=>∃a b,e=.returned (.agg (dkA a b))∧OwnD w'' w'.heap.size a b xs ys∧Below w'.heap.size w' w''):=fun w' b=>freshDisk_any _ _ xs ys w' ((HX.out.1.below H6.out.2.bl (Nat.le_refl _)).below b (Nat.le_refl _)) ((HX.out.2.1.below H6.out.2.bl (Nat.le_refl _)).below b (Nat.le_refl _)) HL.out.1 (by have:=HL.out;omega) (by have:=HL.out;omega) (by have:=HL.out;omega)
 have CN:Hid (∀u' w',Reads w' u' [z]→Below w6.heap.size w6 w'→Calls Tryz.prog 112 #[u'] w' fun e w''=>e=.returned (S (decI z))∧Below w'.heap.size w' w''):=fun u' w' hr b=>by
  have:=ishowN_any u' [z] w' hr (by simp) (by simp) (by have:=HL.out;intro x hx;simp at hx;omega) ((HT.out.below H6.out.2.bl).below b)
  rw[ints_one]at this
  exact this
 obtain⟨d,hd⟩:∃d,d=decI z:=⟨_,rfl⟩
 rw[←hd]at CN
 have HD:Hid (d=decI z):=hd
 have q0:∀w',Sq w w6 w'→w'.cell? ⟨w.heap.size,0,none⟩=some (.slice uo xs.length uc):=fun w' b=>b _ _ (by simp;try omega) (by simp;try omega) (H6.out.2.dk.cell 0 rfl)
 have q1:∀w',Sq w w6 w'→w'.cell? ⟨w.heap.size,1,none⟩=some (.slice (some ⟨vb,vf,none⟩) ys.length vc):=fun w' b=>b _ _ (by simp;try omega) (by simp;try omega) (H6.out.2.dk.cell 1 rfl)
 have q2:∀w',Sq w w6 w'→w'.cell? ⟨w.heap.size+1,0,none⟩=some (.int .i64 (j:Int)):=fun w' b=>b _ _ (by simp;try omega) (by simp;try omega) (H6.out.2.cm.cell 0 rfl)
 have q3:∀w',Sq w w6 w'→w'.cell? ⟨vb,vf+j,none⟩=some (.int .i64 z):=fun w' b=>b _ _ (by have:=hvb.out;dsimp only;omega) (by have:=hvb.out;dsimp only;omega) ((H6.out.2.bl.cell (p:=⟨vb,vf+j,none⟩) hvb.out).trans HC.out)
 clear hd O6 S6
 unfold S at CN
 go_upto_region 4 with fail
 go_region_held3 (fun w'=>Sq w w6 w') ((repeat'(first|with_reducible assumption|with_reducible exact Sq.refl _ _|with_reducible refine Sq.al ?_|with_reducible refine Sq.dr ?_|with_reducible refine Sq.set2 ?_|with_reducible refine Sq.set3 ?_|with_reducible refine Sq.put2 ?_ (by with_reducible assumption)|with_reducible refine Sq.bel ?_ (by with_reducible assumption))))
  (first
   |(go_at_call 79;refine(FD.out _ (by repeat'(first|with_reducible assumption|with_reducible exact Below.refl _ _|with_reducible refine bel_alloc ?_|with_reducible refine bel_drew ?_|with_reducible refine bel_trans ?_ (by with_reducible assumption)))).mono ?_;rintro e w7 ⟨a',b',rfl,o7,b7⟩;obtain⟨ao',ac',rfl⟩:=o7.1.reads.form;obtain⟨bo',bc',rfl⟩:=o7.2.1.reads.form;have O7:Hid (OwnD w7 _ (.slice ao' xs.length ac') (.slice bo' ys.length bc') xs ys):=o7;clear o7)
   |(go_at_call 112;refine(CN.out _ _ (by repeat'(first|(with_reducible refine reads_oneE _ _ (by simp))|(with_reducible refine Reads.al ?_)|(with_reducible refine Reads.dr ?_)|(with_reducible refine Reads.bel ?_ (by with_reducible assumption)))) (by repeat'(first|with_reducible assumption|with_reducible exact Below.refl _ _|with_reducible refine bel_alloc ?_|with_reducible refine bel_drew ?_|with_reducible refine bel_trans ?_ (by with_reducible assumption)))).mono ?_;rintro e w8 ⟨rfl,b8⟩)
   |((with_reducible show Oper.upon _ _ _ _ _ (Result.andThen (Sem.run _ (storeCells _ (dkA _ _).toList) _) _));have H8:Hid (Vx w w8 (.slice uo xs.length uc) (.slice (some ⟨vb,vf,none⟩) ys.length vc) 196 #[.int .i64 (j:Int),.int .i64 x,.int .i64 y] zeD ⟨0,[]⟩∧OwnD w8 (w.heap.size+4) (.slice ao' xs.length ac') (.slice bo' ys.length bc') xs ys):=⟨H6.out.2.next (by repeat'(first|with_reducible assumption|with_reducible exact Below.refl _ _|with_reducible refine bel_alloc ?_|with_reducible refine bel_drew ?_|with_reducible refine bel_trans ?_ (by with_reducible assumption))),OwnD.mono' (OwnD.bel O7.out (by repeat'(first|with_reducible assumption|with_reducible exact Below.refl _ _|with_reducible refine bel_alloc ?_|with_reducible refine bel_drew ?_|with_reducible refine bel_trans ?_ (by with_reducible assumption)))) (Nat.le_trans H6.out.2.sz (bel_size (by repeat'(first|with_reducible assumption|with_reducible exact Below.refl _ _|with_reducible refine bel_alloc ?_|with_reducible refine bel_drew ?_|with_reducible refine bel_trans ?_ (by with_reducible assumption)))))⟩;refine upon_putS (w.heap.size+1+1) 26 (dkA (.slice ao' xs.length ac') (.slice bo' ys.length bc')) zeD rfl (dkA_one rfl rfl) H8.out.1.rd ?_;intro w9 s9 g9;have ra:=H8.out.1.ra.kept g9 (by simp);have r0:w9.cell? ⟨w.heap.size+1+1+1,0,none⟩=some (.int .i64 0):=ra.cell 0 rfl;have r1:w9.cell? ⟨w.heap.size+1+1+1,1,none⟩=some (.string ⟨#[]⟩):=ra.cell 1 rfl;have f0:=ra.frozen 0;have f1:=ra.frozen 1))
 all_goals
  go_wp2
  have S7:=(ra.put 0 (.int .i64 2) rfl).put 1 (S d) (ds:=anA ⟨2,d⟩) rfl
  have G7:=(grownSet w9 (w.heap.size+1+1+1) 0 (.int .i64 2)).trans (grownSet _ (w.heap.size+1+1+1) 1 (S d))
  refine bodyPost_ret (results_DA rfl _ _ (w.heap.size+1+1) (w.heap.size+1+1+1) _ _ rfl rfl rfl rfl (s9.kept G7 (by simp)) S7) rfl ?_
  rw[←HD.out]
  exact⟨_,_,rfl,H8.out.1.fin H8.out.2.1 H8.out.2.2.1 (Nat.le_refl _) H8.out.2.2.2 g9 G7⟩
end Go.Proofs.YtpdggofaobmnlaaGreatDoor
