/- At every number NewStore of the program answers as NewStore of the model, in memory of its own that a second call leaves alone: the law FnExactNewStore returns true, whatever it is given. -/
import Derived.Test.YtpdggofaobmnlaaRows
import Derived.WalkKit
import Derived.ProofKit
import Derived.OpenShut
import Derived.ShutString
import Derived.ChangeOld
import Derived.Below
import Derived.Test.YtpdggofaobmnlaaStoSta
import Derived.Test.YtpdggofaobmnlaaM11
import Derived.Test.YtpdggofaobmnlaaSStore8
import Derived.Test.YtpdggofaobmnlaaIStoC
namespace Go.Proofs.Ytpdggofaobmnlaa.fnExactNewStore
open Go.ChangeShapes Go.WideShapes Go.ChangeAt Go.RowKit
open Go.ChangeMaps (open_string shut_string)
set_option linter.unusedVariables false

theorem own : ownKnob Try.prog.godebug = none := by kernel_rfl
theorem laidOut : laidOutB Try.prog = true := by kernel_rfl

set_option maxRecDepth 20000 in
set_option maxHeartbeats 2000000 in
theorem walk (a0 : Int) (w : World) (w0 : (Lit.int .i64 a0).wf = true) :
    Calls Try.prog 5 #[.int .i64 a0] w fun e w' => e = .returned (.bool true) ∧ Below w.heap.size w w' := by
  have SD' := fun wx => snewStore_any a0 wx
  have ID' := fun wx => inewStore_any a0 wx
  obtain ⟨D, hD⟩ : ∃ D, D = newS a0 := ⟨_, rfl⟩
  obtain ⟨is, his⟩ : ∃ is, is = cntOk a0 := ⟨_, rfl⟩
  have sK : Hid (D.xs.length ≤ 1048576 ∧ D.ys.length ≤ 1048576 ∧ D.h.ks.length ≤ 1048576) := by rw [hD]; exact new_len a0
  rw [← hD, ← his] at SD' ID'
  clear hD his
  obtain ⟨ks, ns, hh⟩ := D
  dsimp only at SD' ID' sK
  have SD : Hid (∀ wx, Calls Try.prog 25 #[.int .i64 a0] wx fun e w' => ∃ a' b' k', e = .returned (.tuple #[.agg #[a', b', k', .int .i64 hh.kd, .int .i64 hh.ho, .int .i64 hh.tu], .bool is]) ∧ OwnR w' wx.heap.size a' b' k' ks ns hh.ks ∧ Below wx.heap.size wx w') := SD'
  have ID : Hid (∀ wx, Calls Try.prog 26 #[.int .i64 a0] wx fun e w' => ∃ a' b' k', e = .returned (.tuple #[.agg #[a', b', k', .int .i64 hh.kd, .int .i64 hh.ho, .int .i64 hh.tu], .bool is]) ∧ OwnR w' wx.heap.size a' b' k' ks ns hh.ks ∧ Below wx.heap.size wx w') := ID'
  have sk := sK.out.1
  have sn := sK.out.2.1
  have sh := sK.out.2.2
  have gk : ks.length ≤ 1099511627776 := by omega
  have gn : ns.length ≤ 1099511627776 := by omega
  have gh : hh.ks.length ≤ 1099511627776 := by omega
  clear sK SD' ID'
  have HS : Hid (Sta w w []) := Sta.start w
  have heq : (is != is) = false := by simp
  go_enter Try.func5, Try.ntmps5
  go_wp2_with fail
  refine (SD.out _).mono ?_
  rintro e y3 ⟨aW, bW, kW, rfl, oy3, by3⟩
  obtain ⟨aoW, acW, rfl⟩ := oy3.1.1.reads.form
  obtain ⟨boW, bcW, rfl⟩ := oy3.1.2.1.reads.form
  obtain ⟨koW, kcW, rfl⟩ := oy3.2.1.reads.form
  replace HS : Hid (Sta w y3 [Sto (.slice aoW ks.length acW) (.slice boW ns.length bcW) (.slice koW hh.ks.length kcW) ks ns hh.ks]) := HS.out.store oy3 by3
  clear oy3 by3
  obtain ⟨y4, hy4⟩ : ∃ y4, y4 = y3.alloc (.cells #[.slice aoW ks.length acW, .slice boW ns.length bcW, .slice koW hh.ks.length kcW, .int .i64 hh.kd, .int .i64 hh.ho, .int .i64 hh.tu] 30) := ⟨_, rfl⟩
  replace HS : Hid (Sta w y4 [Blk y3.heap.size 30 #[.slice aoW ks.length acW, .slice boW ns.length bcW, .slice koW hh.ks.length kcW, .int .i64 hh.kd, .int .i64 hh.ho, .int .i64 hh.tu], Sto (.slice aoW ks.length acW) (.slice boW ns.length bcW) (.slice koW hh.ks.length kcW) ks ns hh.ks]) := by rw [hy4]; exact HS.out.box _ _
  go_upto_region 2 with fail
  rw [← hy4]
  clear hy4
  go_wp2_with fail
  refine (ID.out _).mono ?_
  rintro e y5 ⟨aG, bG, kG, rfl, oy5, by5⟩
  obtain ⟨aoG, acG, rfl⟩ := oy5.1.1.reads.form
  obtain ⟨boG, bcG, rfl⟩ := oy5.1.2.1.reads.form
  obtain ⟨koG, kcG, rfl⟩ := oy5.2.1.reads.form
  replace HS : Hid (Sta w y5 [Sto (.slice aoG ks.length acG) (.slice boG ns.length bcG) (.slice koG hh.ks.length kcG) ks ns hh.ks, Blk y3.heap.size 30 #[.slice aoW ks.length acW, .slice boW ns.length bcW, .slice koW hh.ks.length kcW, .int .i64 hh.kd, .int .i64 hh.ho, .int .i64 hh.tu], Sto (.slice aoW ks.length acW) (.slice boW ns.length bcW) (.slice koW hh.ks.length kcW) ks ns hh.ks]) := HS.out.store oy5 by5
  clear oy5 by5
  obtain ⟨y6, hy6⟩ : ∃ y6, y6 = y5.alloc (.cells #[.slice aoG ks.length acG, .slice boG ns.length bcG, .slice koG hh.ks.length kcG, .int .i64 hh.kd, .int .i64 hh.ho, .int .i64 hh.tu] 30) := ⟨_, rfl⟩
  replace HS : Hid (Sta w y6 [Blk y5.heap.size 30 #[.slice aoG ks.length acG, .slice boG ns.length bcG, .slice koG hh.ks.length kcG, .int .i64 hh.kd, .int .i64 hh.ho, .int .i64 hh.tu], Sto (.slice aoG ks.length acG) (.slice boG ns.length bcG) (.slice koG hh.ks.length kcG) ks ns hh.ks, Blk y3.heap.size 30 #[.slice aoW ks.length acW, .slice boW ns.length bcW, .slice koW hh.ks.length kcW, .int .i64 hh.kd, .int .i64 hh.ho, .int .i64 hh.tu], Sto (.slice aoW ks.length acW) (.slice boW ns.length bcW) (.slice koW hh.ks.length kcW) ks ns hh.ks]) := by rw [hy6]; exact HS.out.box _ _
  go_upto_region 3 with fail
  rw [← hy6]
  clear hy6
  have p_vG_0 : y6.cell? ⟨y5.heap.size, 0, none⟩ = some (.slice aoG ks.length acG) := Blk.cell (HS.out.get 0 rfl) 0 rfl
  have p_vG_1 : y6.cell? ⟨y5.heap.size, 1, none⟩ = some (.slice boG ns.length bcG) := Blk.cell (HS.out.get 0 rfl) 1 rfl
  have p_vG_2 : y6.cell? ⟨y5.heap.size, 2, none⟩ = some (.slice koG hh.ks.length kcG) := Blk.cell (HS.out.get 0 rfl) 2 rfl
  have p_vG_3 : y6.cell? ⟨y5.heap.size, 3, none⟩ = some (.int .i64 hh.kd) := Blk.cell (HS.out.get 0 rfl) 3 rfl
  have p_vG_4 : y6.cell? ⟨y5.heap.size, 4, none⟩ = some (.int .i64 hh.ho) := Blk.cell (HS.out.get 0 rfl) 4 rfl
  have p_vG_5 : y6.cell? ⟨y5.heap.size, 5, none⟩ = some (.int .i64 hh.tu) := Blk.cell (HS.out.get 0 rfl) 5 rfl
  have p_vW_0 : y6.cell? ⟨y3.heap.size, 0, none⟩ = some (.slice aoW ks.length acW) := Blk.cell (HS.out.get 2 rfl) 0 rfl
  have p_vW_1 : y6.cell? ⟨y3.heap.size, 1, none⟩ = some (.slice boW ns.length bcW) := Blk.cell (HS.out.get 2 rfl) 1 rfl
  have p_vW_2 : y6.cell? ⟨y3.heap.size, 2, none⟩ = some (.slice koW hh.ks.length kcW) := Blk.cell (HS.out.get 2 rfl) 2 rfl
  have p_vW_3 : y6.cell? ⟨y3.heap.size, 3, none⟩ = some (.int .i64 hh.kd) := Blk.cell (HS.out.get 2 rfl) 3 rfl
  have p_vW_4 : y6.cell? ⟨y3.heap.size, 4, none⟩ = some (.int .i64 hh.ho) := Blk.cell (HS.out.get 2 rfl) 4 rfl
  have p_vW_5 : y6.cell? ⟨y3.heap.size, 5, none⟩ = some (.int .i64 hh.tu) := Blk.cell (HS.out.get 2 rfl) 5 rfl
  go_wp2_with fail
  clear p_vG_0 p_vG_1 p_vG_2 p_vG_3 p_vG_4 p_vG_5 p_vW_0 p_vW_1 p_vW_2 p_vW_3 p_vW_4 p_vW_5
  refine (eqStore_any _ _ _ _ _ _ _ _ hh _ (HS.out.rA 1 rfl) (HS.out.rB 1 rfl) (HS.out.rK 1 rfl) (HS.out.rA 3 rfl) (HS.out.rB 3 rfl) (HS.out.rK 3 rfl) gk gn gh).mono ?_
  rintro e y7 ⟨rfl, by7⟩
  replace HS : Hid (Sta w y7 [Blk y5.heap.size 30 #[.slice aoG ks.length acG, .slice boG ns.length bcG, .slice koG hh.ks.length kcG, .int .i64 hh.kd, .int .i64 hh.ho, .int .i64 hh.tu], Sto (.slice aoG ks.length acG) (.slice boG ns.length bcG) (.slice koG hh.ks.length kcG) ks ns hh.ks, Blk y3.heap.size 30 #[.slice aoW ks.length acW, .slice boW ns.length bcW, .slice koW hh.ks.length kcW, .int .i64 hh.kd, .int .i64 hh.ho, .int .i64 hh.tu], Sto (.slice aoW ks.length acW) (.slice boW ns.length bcW) (.slice koW hh.ks.length kcW) ks ns hh.ks]) := HS.out.next by7
  clear by7
  have p_vG_0 : y7.cell? ⟨y5.heap.size, 0, none⟩ = some (.slice aoG ks.length acG) := Blk.cell (HS.out.get 0 rfl) 0 rfl
  have p_vG_1 : y7.cell? ⟨y5.heap.size, 1, none⟩ = some (.slice boG ns.length bcG) := Blk.cell (HS.out.get 0 rfl) 1 rfl
  have p_vG_2 : y7.cell? ⟨y5.heap.size, 2, none⟩ = some (.slice koG hh.ks.length kcG) := Blk.cell (HS.out.get 0 rfl) 2 rfl
  have p_vG_3 : y7.cell? ⟨y5.heap.size, 3, none⟩ = some (.int .i64 hh.kd) := Blk.cell (HS.out.get 0 rfl) 3 rfl
  have p_vG_4 : y7.cell? ⟨y5.heap.size, 4, none⟩ = some (.int .i64 hh.ho) := Blk.cell (HS.out.get 0 rfl) 4 rfl
  have p_vG_5 : y7.cell? ⟨y5.heap.size, 5, none⟩ = some (.int .i64 hh.tu) := Blk.cell (HS.out.get 0 rfl) 5 rfl
  go_wp2_with fail
  clear p_vG_0 p_vG_1 p_vG_2 p_vG_3 p_vG_4 p_vG_5
  refine (markStore_any _ _ _ ks ns hh 1 _ 0 (HS.out.get 1 rfl) sk sn sh (by omega) (by omega) (by omega)).mono ?_
  rintro e y8 ⟨rfl, oy8, my8⟩
  replace HS : Hid (Sta w y8 [Blk y5.heap.size 30 #[.slice aoG ks.length acG, .slice boG ns.length bcG, .slice koG hh.ks.length kcG, .int .i64 hh.kd, .int .i64 hh.ho, .int .i64 hh.tu], Sto (.slice aoG ks.length acG) (.slice boG ns.length bcG) (.slice koG hh.ks.length kcG) (marks 1 ks.length) (marks (1 + ks.length) ns.length) (marks (1 + ks.length + ns.length) hh.ks.length), Blk y3.heap.size 30 #[.slice aoW ks.length acW, .slice boW ns.length bcW, .slice koW hh.ks.length kcW, .int .i64 hh.kd, .int .i64 hh.ho, .int .i64 hh.tu], Sto (.slice aoW ks.length acW) (.slice boW ns.length bcW) (.slice koW hh.ks.length kcW) ks ns hh.ks]) := HS.out.marked3 1 rfl oy8 my8
  clear oy8 my8
  have p_vG_0 : y8.cell? ⟨y5.heap.size, 0, none⟩ = some (.slice aoG ks.length acG) := Blk.cell (HS.out.get 0 rfl) 0 rfl
  have p_vG_1 : y8.cell? ⟨y5.heap.size, 1, none⟩ = some (.slice boG ns.length bcG) := Blk.cell (HS.out.get 0 rfl) 1 rfl
  have p_vG_2 : y8.cell? ⟨y5.heap.size, 2, none⟩ = some (.slice koG hh.ks.length kcG) := Blk.cell (HS.out.get 0 rfl) 2 rfl
  have p_vG_3 : y8.cell? ⟨y5.heap.size, 3, none⟩ = some (.int .i64 hh.kd) := Blk.cell (HS.out.get 0 rfl) 3 rfl
  have p_vG_4 : y8.cell? ⟨y5.heap.size, 4, none⟩ = some (.int .i64 hh.ho) := Blk.cell (HS.out.get 0 rfl) 4 rfl
  have p_vG_5 : y8.cell? ⟨y5.heap.size, 5, none⟩ = some (.int .i64 hh.tu) := Blk.cell (HS.out.get 0 rfl) 5 rfl
  go_wp2_with fail
  clear p_vG_0 p_vG_1 p_vG_2 p_vG_3 p_vG_4 p_vG_5
  refine (heldStore_any _ _ _ hh ks.length ns.length hh.ks.length 1 _ rfl (HS.out.rA 1 rfl) (HS.out.rB 1 rfl) (HS.out.rK 1 rfl) sk sn sh (by omega) (by omega) (by omega)).mono ?_
  rintro e y9 ⟨rfl, by9⟩
  replace HS : Hid (Sta w y9 [Blk y5.heap.size 30 #[.slice aoG ks.length acG, .slice boG ns.length bcG, .slice koG hh.ks.length kcG, .int .i64 hh.kd, .int .i64 hh.ho, .int .i64 hh.tu], Sto (.slice aoG ks.length acG) (.slice boG ns.length bcG) (.slice koG hh.ks.length kcG) (marks 1 ks.length) (marks (1 + ks.length) ns.length) (marks (1 + ks.length + ns.length) hh.ks.length), Blk y3.heap.size 30 #[.slice aoW ks.length acW, .slice boW ns.length bcW, .slice koW hh.ks.length kcW, .int .i64 hh.kd, .int .i64 hh.ho, .int .i64 hh.tu], Sto (.slice aoW ks.length acW) (.slice boW ns.length bcW) (.slice koW hh.ks.length kcW) ks ns hh.ks]) := HS.out.next by9
  clear by9
  go_wp2_with fail
  refine (ID.out _).mono ?_
  rintro e y10 ⟨aH, bH, kH, rfl, oy10, by10⟩
  obtain ⟨aoH, acH, rfl⟩ := oy10.1.1.reads.form
  obtain ⟨boH, bcH, rfl⟩ := oy10.1.2.1.reads.form
  obtain ⟨koH, kcH, rfl⟩ := oy10.2.1.reads.form
  replace HS : Hid (Sta w y10 [Sto (.slice aoH ks.length acH) (.slice boH ns.length bcH) (.slice koH hh.ks.length kcH) ks ns hh.ks, Blk y5.heap.size 30 #[.slice aoG ks.length acG, .slice boG ns.length bcG, .slice koG hh.ks.length kcG, .int .i64 hh.kd, .int .i64 hh.ho, .int .i64 hh.tu], Sto (.slice aoG ks.length acG) (.slice boG ns.length bcG) (.slice koG hh.ks.length kcG) (marks 1 ks.length) (marks (1 + ks.length) ns.length) (marks (1 + ks.length + ns.length) hh.ks.length), Blk y3.heap.size 30 #[.slice aoW ks.length acW, .slice boW ns.length bcW, .slice koW hh.ks.length kcW, .int .i64 hh.kd, .int .i64 hh.ho, .int .i64 hh.tu], Sto (.slice aoW ks.length acW) (.slice boW ns.length bcW) (.slice koW hh.ks.length kcW) ks ns hh.ks]) := HS.out.store oy10 by10
  clear oy10 by10
  obtain ⟨y11, hy11⟩ : ∃ y11, y11 = y10.alloc (.cells #[.slice aoH ks.length acH, .slice boH ns.length bcH, .slice koH hh.ks.length kcH, .int .i64 hh.kd, .int .i64 hh.ho, .int .i64 hh.tu] 30) := ⟨_, rfl⟩
  replace HS : Hid (Sta w y11 [Blk y10.heap.size 30 #[.slice aoH ks.length acH, .slice boH ns.length bcH, .slice koH hh.ks.length kcH, .int .i64 hh.kd, .int .i64 hh.ho, .int .i64 hh.tu], Sto (.slice aoH ks.length acH) (.slice boH ns.length bcH) (.slice koH hh.ks.length kcH) ks ns hh.ks, Blk y5.heap.size 30 #[.slice aoG ks.length acG, .slice boG ns.length bcG, .slice koG hh.ks.length kcG, .int .i64 hh.kd, .int .i64 hh.ho, .int .i64 hh.tu], Sto (.slice aoG ks.length acG) (.slice boG ns.length bcG) (.slice koG hh.ks.length kcG) (marks 1 ks.length) (marks (1 + ks.length) ns.length) (marks (1 + ks.length + ns.length) hh.ks.length), Blk y3.heap.size 30 #[.slice aoW ks.length acW, .slice boW ns.length bcW, .slice koW hh.ks.length kcW, .int .i64 hh.kd, .int .i64 hh.ho, .int .i64 hh.tu], Sto (.slice aoW ks.length acW) (.slice boW ns.length bcW) (.slice koW hh.ks.length kcW) ks ns hh.ks]) := by rw [hy11]; exact HS.out.box _ _
  go_upto_region 14 with fail
  rw [← hy11]
  clear hy11
  have p_vH_0 : y11.cell? ⟨y10.heap.size, 0, none⟩ = some (.slice aoH ks.length acH) := Blk.cell (HS.out.get 0 rfl) 0 rfl
  have p_vH_1 : y11.cell? ⟨y10.heap.size, 1, none⟩ = some (.slice boH ns.length bcH) := Blk.cell (HS.out.get 0 rfl) 1 rfl
  have p_vH_2 : y11.cell? ⟨y10.heap.size, 2, none⟩ = some (.slice koH hh.ks.length kcH) := Blk.cell (HS.out.get 0 rfl) 2 rfl
  have p_vH_3 : y11.cell? ⟨y10.heap.size, 3, none⟩ = some (.int .i64 hh.kd) := Blk.cell (HS.out.get 0 rfl) 3 rfl
  have p_vH_4 : y11.cell? ⟨y10.heap.size, 4, none⟩ = some (.int .i64 hh.ho) := Blk.cell (HS.out.get 0 rfl) 4 rfl
  have p_vH_5 : y11.cell? ⟨y10.heap.size, 5, none⟩ = some (.int .i64 hh.tu) := Blk.cell (HS.out.get 0 rfl) 5 rfl
  have p_vW_0 : y11.cell? ⟨y3.heap.size, 0, none⟩ = some (.slice aoW ks.length acW) := Blk.cell (HS.out.get 4 rfl) 0 rfl
  have p_vW_1 : y11.cell? ⟨y3.heap.size, 1, none⟩ = some (.slice boW ns.length bcW) := Blk.cell (HS.out.get 4 rfl) 1 rfl
  have p_vW_2 : y11.cell? ⟨y3.heap.size, 2, none⟩ = some (.slice koW hh.ks.length kcW) := Blk.cell (HS.out.get 4 rfl) 2 rfl
  have p_vW_3 : y11.cell? ⟨y3.heap.size, 3, none⟩ = some (.int .i64 hh.kd) := Blk.cell (HS.out.get 4 rfl) 3 rfl
  have p_vW_4 : y11.cell? ⟨y3.heap.size, 4, none⟩ = some (.int .i64 hh.ho) := Blk.cell (HS.out.get 4 rfl) 4 rfl
  have p_vW_5 : y11.cell? ⟨y3.heap.size, 5, none⟩ = some (.int .i64 hh.tu) := Blk.cell (HS.out.get 4 rfl) 5 rfl
  go_wp2_with fail
  clear p_vH_0 p_vH_1 p_vH_2 p_vH_3 p_vH_4 p_vH_5 p_vW_0 p_vW_1 p_vW_2 p_vW_3 p_vW_4 p_vW_5
  refine (eqStore_any _ _ _ _ _ _ _ _ hh _ (HS.out.rA 1 rfl) (HS.out.rB 1 rfl) (HS.out.rK 1 rfl) (HS.out.rA 5 rfl) (HS.out.rB 5 rfl) (HS.out.rK 5 rfl) gk gn gh).mono ?_
  rintro e y12 ⟨rfl, by12⟩
  replace HS : Hid (Sta w y12 [Blk y10.heap.size 30 #[.slice aoH ks.length acH, .slice boH ns.length bcH, .slice koH hh.ks.length kcH, .int .i64 hh.kd, .int .i64 hh.ho, .int .i64 hh.tu], Sto (.slice aoH ks.length acH) (.slice boH ns.length bcH) (.slice koH hh.ks.length kcH) ks ns hh.ks, Blk y5.heap.size 30 #[.slice aoG ks.length acG, .slice boG ns.length bcG, .slice koG hh.ks.length kcG, .int .i64 hh.kd, .int .i64 hh.ho, .int .i64 hh.tu], Sto (.slice aoG ks.length acG) (.slice boG ns.length bcG) (.slice koG hh.ks.length kcG) (marks 1 ks.length) (marks (1 + ks.length) ns.length) (marks (1 + ks.length + ns.length) hh.ks.length), Blk y3.heap.size 30 #[.slice aoW ks.length acW, .slice boW ns.length bcW, .slice koW hh.ks.length kcW, .int .i64 hh.kd, .int .i64 hh.ho, .int .i64 hh.tu], Sto (.slice aoW ks.length acW) (.slice boW ns.length bcW) (.slice koW hh.ks.length kcW) ks ns hh.ks]) := HS.out.next by12
  clear by12
  have p_vG_0 : y12.cell? ⟨y5.heap.size, 0, none⟩ = some (.slice aoG ks.length acG) := Blk.cell (HS.out.get 2 rfl) 0 rfl
  have p_vG_1 : y12.cell? ⟨y5.heap.size, 1, none⟩ = some (.slice boG ns.length bcG) := Blk.cell (HS.out.get 2 rfl) 1 rfl
  have p_vG_2 : y12.cell? ⟨y5.heap.size, 2, none⟩ = some (.slice koG hh.ks.length kcG) := Blk.cell (HS.out.get 2 rfl) 2 rfl
  have p_vG_3 : y12.cell? ⟨y5.heap.size, 3, none⟩ = some (.int .i64 hh.kd) := Blk.cell (HS.out.get 2 rfl) 3 rfl
  have p_vG_4 : y12.cell? ⟨y5.heap.size, 4, none⟩ = some (.int .i64 hh.ho) := Blk.cell (HS.out.get 2 rfl) 4 rfl
  have p_vG_5 : y12.cell? ⟨y5.heap.size, 5, none⟩ = some (.int .i64 hh.tu) := Blk.cell (HS.out.get 2 rfl) 5 rfl
  go_wp2_with fail
  clear p_vG_0 p_vG_1 p_vG_2 p_vG_3 p_vG_4 p_vG_5
  refine (heldStore_any _ _ _ hh ks.length ns.length hh.ks.length 1 _ rfl (HS.out.rA 3 rfl) (HS.out.rB 3 rfl) (HS.out.rK 3 rfl) sk sn sh (by omega) (by omega) (by omega)).mono ?_
  rintro e y13 ⟨rfl, by13⟩
  replace HS : Hid (Sta w y13 [Blk y10.heap.size 30 #[.slice aoH ks.length acH, .slice boH ns.length bcH, .slice koH hh.ks.length kcH, .int .i64 hh.kd, .int .i64 hh.ho, .int .i64 hh.tu], Sto (.slice aoH ks.length acH) (.slice boH ns.length bcH) (.slice koH hh.ks.length kcH) ks ns hh.ks, Blk y5.heap.size 30 #[.slice aoG ks.length acG, .slice boG ns.length bcG, .slice koG hh.ks.length kcG, .int .i64 hh.kd, .int .i64 hh.ho, .int .i64 hh.tu], Sto (.slice aoG ks.length acG) (.slice boG ns.length bcG) (.slice koG hh.ks.length kcG) (marks 1 ks.length) (marks (1 + ks.length) ns.length) (marks (1 + ks.length + ns.length) hh.ks.length), Blk y3.heap.size 30 #[.slice aoW ks.length acW, .slice boW ns.length bcW, .slice koW hh.ks.length kcW, .int .i64 hh.kd, .int .i64 hh.ho, .int .i64 hh.tu], Sto (.slice aoW ks.length acW) (.slice boW ns.length bcW) (.slice koW hh.ks.length kcW) ks ns hh.ks]) := HS.out.next by13
  clear by13
  have HB : Hid (Below w.heap.size w _) := HS.out.below
  clear HS
  go_wp2_with fail
  go_ret
  exact ⟨rfl, HB.out⟩

set_option maxRecDepth 100000 in
theorem lifted (os : Os) (started : os.Started) (H : Type) (enc : TypeId × Value → H) :
    ReturnsInHanded {} Try.checked os 5 .any (Rows.fnExactNewStoreSpec.pre6 enc Try.prog Try.f5 Rows.fnExactNewStoreRow.domain false) (Rows.fnExactNewStoreSpec.post enc Try.prog Try.f5 false true false false) := by
  refine returnsInHanded_of_change (C := Try.checked) own started (by kernel_rfl) Try.func5
    (ChangeSpec.witness6 (enc := enc) (C := Try.checked) false ⟨#[], #[.int .i64 0], []⟩ 8 (by kernel_rfl) (by kernel_rfl) (by kernel_rfl) (by kernel_rfl)) ?_
  intro W base args ds gs before hval0 hW hcnd _
  have hval : ∀ (j : Nat) t v, Try.f5.params[j]? = some t → args[j]? = some v → Value.okWide Try.prog W .any base t v := hval0
  have hW' := hW
  obtain ⟨p, q, hA0, hV, rfl, hfz, hnd⟩ := hW
  have hA : DataW.TrodAll enc Try.prog W 0 (fun _ => true) true Try.f5.params.toList args.toList ds p := hA0
  rw [Try.params5] at hA hval
  obtain ⟨v0, vs0, d0, ds0, p0, q0, hargs, rfl, rfl, h0, s0⟩ := trodAll_cons hA
  obtain ⟨rfl, rfl, rfl⟩ := trodAll_nil s0
  obtain rfl : args = #[v0] := by cases args; simp_all
  obtain ⟨rfl, rfl⟩ := trodVars_none hV
  obtain ⟨a0, rfl, rfl, rfl, w0⟩ := open_int Try.underlying2 (hval 0 2 v0 rfl rfl) h0
  clear hA0 hval0
  refine (walk a0 W w0).mono fun e W' ⟨he, bel⟩ => ?_
  subst he
  exact ⟨_, rfl, _, _, _, [], _, [], hW', trodAll_mk1 (shut_bool Try.underlying4 _), (trodAll_cons_mk (shut_int Try.underlying2 w0) trodAll_mk0), rfl, bel.frame _, fun h => by cases h⟩

theorem over : Rows.fnExactNewStoreRow.holds Try.pinned (OpenSpec.ofChange Rows.fnExactNewStoreSpec) :=
  OpenClaim.holds_of_wide 5 Try.f5 rfl rfl rfl rfl rfl rfl rfl ⟨rfl, rfl, rfl, rfl, rfl⟩ rfl rfl rfl rfl rfl (by kernel_rfl) Try.func5 (by kernel_rfl)
    (of_decide_eq_true (by kernel_rfl)) (by unfold Func.isWrapper; first | (rw [if_pos (by decide +kernel)]; kernel_rfl) | (rw [if_neg (by decide +kernel)]; exact ⟨rfl, rfl⟩))
    (fun os started H enc _ => lifted os started H enc)

theorem proved : Rows.FnExactNewStoreSaid := over
end Go.Proofs.Ytpdggofaobmnlaa.fnExactNewStore
namespace Go.Proofs.Ytpdggofaobmnlaa
theorem fnExactNewStore_holds : Rows.FnExactNewStoreSaid := fnExactNewStore.proved
end Go.Proofs.Ytpdggofaobmnlaa
