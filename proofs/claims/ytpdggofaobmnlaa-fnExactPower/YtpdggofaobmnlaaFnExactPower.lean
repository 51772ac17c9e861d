/- At every store and set Power of the program answers as Power of the model, in memory of its own that a second call leaves alone, and leaves what it was given as it was: the law FnExactPower returns true, whatever it is given. -/
import Derived.Test.YtpdggofaobmnlaaRows
import Derived.WalkKit
import Derived.ProofKit
import Derived.OpenShut
import Derived.ShutString
import Derived.ChangeOld
import Derived.Below
import Derived.Test.YtpdggofaobmnlaaM9
import Derived.Test.YtpdggofaobmnlaaStoSta
import Derived.Test.YtpdggofaobmnlaaM12
import Derived.Test.YtpdggofaobmnlaaIStoC
namespace Go.Proofs.Ytpdggofaobmnlaa.fnExactPower
open Go.ChangeShapes Go.WideShapes Go.ChangeAt Go.RowKit
open Go.ChangeMaps (open_string shut_string)
set_option linter.unusedVariables false

theorem own : ownKnob Try.prog.godebug = none := by kernel_rfl
theorem laidOut : laidOutB Try.prog = true := by kernel_rfl

set_option maxRecDepth 20000 in
set_option maxHeartbeats 2000000 in
theorem walk (r0 : Hd) (u0 v0 q0 : Value) (xs0 ys0 : List Int) (a1 : Int) (w : World) (RX0 : Reads w u0 xs0) (RY0 : Reads w v0 ys0) (RQ0 : Reads w q0 r0.ks) (w1 : (Lit.int .i64 a1).wf = true) :
    Calls Try.prog 6 #[SRV u0 v0 q0 r0, .int .i64 a1] w fun e w' => e = .returned (.bool true) ∧ Below w.heap.size w w' := by
  by_cases hbig : (xs0.length + ys0.length + r0.ks.length : Int) ≤ 1048576
  · have gx0 : xs0.length ≤ 1099511627776 := by omega
    have gy0 : ys0.length ≤ 1099511627776 := by omega
    have gk0 : r0.ks.length ≤ 1099511627776 := by omega
    have sx0 : xs0.length ≤ 1048576 := by omega
    have sy0 : ys0.length ≤ 1048576 := by omega
    have sk0 : r0.ks.length ≤ 1048576 := by omega
    have hsz : szI 1048576 (xs0.length + ys0.length + r0.ks.length) = 1048576 - (xs0.length + ys0.length + r0.ks.length : Nat) := by simp only [szI]; rw [if_pos (by omega)]
    obtain ⟨w1, hw1⟩ : ∃ w1, w1 = w.alloc (.cells #[u0, v0, q0, .int .i64 r0.kd, .int .i64 r0.ho, .int .i64 r0.tu] 45) := ⟨_, rfl⟩
    have HS : Hid (Sta w w1 [Blk w.heap.size 45 #[u0, v0, q0, .int .i64 r0.kd, .int .i64 r0.ho, .int .i64 r0.tu]]) := by rw [hw1]; exact (Sta.start w).box _ _
    have c1 := szStore_any u0 v0 q0 xs0 ys0 r0 1048576 w1 (RX0.below HS.out.below (Nat.le_refl _)) (RY0.below HS.out.below (Nat.le_refl _)) (RQ0.below HS.out.below (Nat.le_refl _)) (by omega) (by omega)
    rw [hsz] at c1
    replace RX0 : Hid (Reads w u0 xs0) := RX0
    replace RY0 : Hid (Reads w v0 ys0) := RY0
    replace RQ0 : Hid (Reads w q0 r0.ks) := RQ0
    have TS : Hid (∀ wx, Below w.heap.size w wx → Calls Try.prog 23 #[.agg #[u0, v0, q0, .int .i64 r0.kd, .int .i64 r0.ho, .int .i64 r0.tu]] wx fun e w' => ∃ a b k, e = .returned (.agg #[a, b, k, .int .i64 r0.kd, .int .i64 r0.ho, .int .i64 r0.tu]) ∧ OwnR w' wx.heap.size a b k xs0 ys0 r0.ks ∧ Below wx.heap.size wx w') := fun wx b => toStore_any u0 v0 q0 xs0 ys0 r0 wx (RX0.out.below b (Nat.le_refl _)) (RY0.out.below b (Nat.le_refl _)) (RQ0.out.below b (Nat.le_refl _)) gx0 gy0 gk0
    obtain ⟨D, hD⟩ : ∃ D, D = Sr.power ⟨xs0, ys0, r0⟩ a1 := ⟨_, rfl⟩
    have sK : Hid (D.xs.length ≤ 1048576 ∧ D.ys.length ≤ 1048576 ∧ D.h.ks.length ≤ 1048576) := by rw [hD]; exact power_len ⟨xs0, ys0, r0⟩ a1 sx0 sy0 sk0
    have SD' := fun wx a b k h1 h2 h3 => spower_any a b k xs0 ys0 r0 a1 wx h1 h2 h3 gx0 gy0 gk0
    have ID' := fun wx a b k h1 h2 h3 => ipower_any a b k xs0 ys0 r0 a1 wx h1 h2 h3 gx0 gy0 gk0
    rw [← hD] at SD' ID'
    clear hD
    obtain ⟨ks, ns, hh⟩ := D
    dsimp only at SD' ID' sK
    have SD : Hid (∀ wx a b k, Reads wx a xs0 → Reads wx b ys0 → Reads wx k r0.ks → Calls Try.prog 13 #[.agg #[a, b, k, .int .i64 r0.kd, .int .i64 r0.ho, .int .i64 r0.tu], .int .i64 a1] wx fun e w' => ∃ a' b' k', e = .returned (.agg #[a', b', k', .int .i64 hh.kd, .int .i64 hh.ho, .int .i64 hh.tu]) ∧ OwnR w' wx.heap.size a' b' k' ks ns hh.ks ∧ Below wx.heap.size wx w') := SD'
    have ID : Hid (∀ wx a b k, Reads wx a xs0 → Reads wx b ys0 → Reads wx k r0.ks → Calls Try.prog 10 #[.agg #[a, b, k, .int .i64 r0.kd, .int .i64 r0.ho, .int .i64 r0.tu], .int .i64 a1] wx fun e w' => ∃ a' b' k', e = .returned (.agg #[a', b', k', .int .i64 hh.kd, .int .i64 hh.ho, .int .i64 hh.tu]) ∧ OwnR w' wx.heap.size a' b' k' ks ns hh.ks ∧ Below wx.heap.size wx w') := ID'
    have sk := sK.out.1
    have sn := sK.out.2.1
    have sh := sK.out.2.2
    have gk : ks.length ≤ 1099511627776 := by omega
    have gn : ns.length ≤ 1099511627776 := by omega
    have gh : hh.ks.length ≤ 1099511627776 := by omega
    clear hsz sK SD' ID'
    unfold SRV srA at c1 ⊢
    go_enter Try.func6, Try.ntmps6
    go_wp2_with fail
    rw [← hw1]
    clear hw1
    refine (c1).mono ?_
    rintro e w2 ⟨rfl, b2⟩
    replace HS : Hid (Sta w w2 [Blk w.heap.size 45 #[u0, v0, q0, .int .i64 r0.kd, .int .i64 r0.ho, .int .i64 r0.tu]]) := HS.out.next b2
    clear b2 c1
    have p_S_0 : w2.cell? ⟨w.heap.size, 0, none⟩ = some (u0) := Blk.cell (HS.out.get 0 rfl) 0 rfl
    have p_S_1 : w2.cell? ⟨w.heap.size, 1, none⟩ = some (v0) := Blk.cell (HS.out.get 0 rfl) 1 rfl
    have p_S_2 : w2.cell? ⟨w.heap.size, 2, none⟩ = some (q0) := Blk.cell (HS.out.get 0 rfl) 2 rfl
    have p_S_3 : w2.cell? ⟨w.heap.size, 3, none⟩ = some (.int .i64 r0.kd) := Blk.cell (HS.out.get 0 rfl) 3 rfl
    have p_S_4 : w2.cell? ⟨w.heap.size, 4, none⟩ = some (.int .i64 r0.ho) := Blk.cell (HS.out.get 0 rfl) 4 rfl
    have p_S_5 : w2.cell? ⟨w.heap.size, 5, none⟩ = some (.int .i64 r0.tu) := Blk.cell (HS.out.get 0 rfl) 5 rfl
    go_wp2_with fail
    clear p_S_0 p_S_1 p_S_2 p_S_3 p_S_4 p_S_5
    refine (TS.out _ HS.out.below).mono ?_
    rintro e y3 ⟨aT, bT, kT, rfl, oy3, by3⟩
    obtain ⟨aoT, acT, rfl⟩ := oy3.1.1.reads.form
    obtain ⟨boT, bcT, rfl⟩ := oy3.1.2.1.reads.form
    obtain ⟨koT, kcT, rfl⟩ := oy3.2.1.reads.form
    replace HS : Hid (Sta w y3 [Sto (.slice aoT xs0.length acT) (.slice boT ys0.length bcT) (.slice koT r0.ks.length kcT) xs0 ys0 r0.ks, Blk w.heap.size 45 #[u0, v0, q0, .int .i64 r0.kd, .int .i64 r0.ho, .int .i64 r0.tu]]) := HS.out.store oy3 by3
    clear oy3 by3
    go_wp2_with fail
    refine (SD.out _ _ _ _ (HS.out.rA 0 rfl) (HS.out.rB 0 rfl) (HS.out.rK 0 rfl)).mono ?_
    rintro e y4 ⟨aW, bW, kW, rfl, oy4, by4⟩
    obtain ⟨aoW, acW, rfl⟩ := oy4.1.1.reads.form
    obtain ⟨boW, bcW, rfl⟩ := oy4.1.2.1.reads.form
    obtain ⟨koW, kcW, rfl⟩ := oy4.2.1.reads.form
    replace HS : Hid (Sta w y4 [Sto (.slice aoW ks.length acW) (.slice boW ns.length bcW) (.slice koW hh.ks.length kcW) ks ns hh.ks, Sto (.slice aoT xs0.length acT) (.slice boT ys0.length bcT) (.slice koT r0.ks.length kcT) xs0 ys0 r0.ks, Blk w.heap.size 45 #[u0, v0, q0, .int .i64 r0.kd, .int .i64 r0.ho, .int .i64 r0.tu]]) := HS.out.store oy4 by4
    clear oy4 by4
    obtain ⟨y5, hy5⟩ : ∃ y5, y5 = y4.alloc (.cells #[.slice aoW ks.length acW, .slice boW ns.length bcW, .slice koW hh.ks.length kcW, .int .i64 hh.kd, .int .i64 hh.ho, .int .i64 hh.tu] 30) := ⟨_, rfl⟩
    replace HS : Hid (Sta w y5 [Blk y4.heap.size 30 #[.slice aoW ks.length acW, .slice boW ns.length bcW, .slice koW hh.ks.length kcW, .int .i64 hh.kd, .int .i64 hh.ho, .int .i64 hh.tu], Sto (.slice aoW ks.length acW) (.slice boW ns.length bcW) (.slice koW hh.ks.length kcW) ks ns hh.ks, Sto (.slice aoT xs0.length acT) (.slice boT ys0.length bcT) (.slice koT r0.ks.length kcT) xs0 ys0 r0.ks, Blk w.heap.size 45 #[u0, v0, q0, .int .i64 r0.kd, .int .i64 r0.ho, .int .i64 r0.tu]]) := by rw [hy5]; exact HS.out.box _ _
    go_upto_region 6 with fail
    rw [← hy5]
    clear hy5
    have p_S_0 : y5.cell? ⟨w.heap.size, 0, none⟩ = some (u0) := Blk.cell (HS.out.get 3 rfl) 0 rfl
    have p_S_1 : y5.cell? ⟨w.heap.size, 1, none⟩ = some (v0) := Blk.cell (HS.out.get 3 rfl) 1 rfl
    have p_S_2 : y5.cell? ⟨w.heap.size, 2, none⟩ = some (q0) := Blk.cell (HS.out.get 3 rfl) 2 rfl
    have p_S_3 : y5.cell? ⟨w.heap.size, 3, none⟩ = some (.int .i64 r0.kd) := Blk.cell (HS.out.get 3 rfl) 3 rfl
    have p_S_4 : y5.cell? ⟨w.heap.size, 4, none⟩ = some (.int .i64 r0.ho) := Blk.cell (HS.out.get 3 rfl) 4 rfl
    have p_S_5 : y5.cell? ⟨w.heap.size, 5, none⟩ = some (.int .i64 r0.tu) := Blk.cell (HS.out.get 3 rfl) 5 rfl
    go_wp2_with fail
    clear p_S_0 p_S_1 p_S_2 p_S_3 p_S_4 p_S_5
    refine (TS.out _ HS.out.below).mono ?_
    rintro e y6 ⟨aX, bX, kX, rfl, oy6, by6⟩
    obtain ⟨aoX, acX, rfl⟩ := oy6.1.1.reads.form
    obtain ⟨boX, bcX, rfl⟩ := oy6.1.2.1.reads.form
    obtain ⟨koX, kcX, rfl⟩ := oy6.2.1.reads.form
    replace HS : Hid (Sta w y6 [Sto (.slice aoX xs0.length acX) (.slice boX ys0.length bcX) (.slice koX r0.ks.length kcX) xs0 ys0 r0.ks, Blk y4.heap.size 30 #[.slice aoW ks.length acW, .slice boW ns.length bcW, .slice koW hh.ks.length kcW, .int .i64 hh.kd, .int .i64 hh.ho, .int .i64 hh.tu], Sto (.slice aoW ks.length acW) (.slice boW ns.length bcW) (.slice koW hh.ks.length kcW) ks ns hh.ks, Sto (.slice aoT xs0.length acT) (.slice boT ys0.length bcT) (.slice koT r0.ks.length kcT) xs0 ys0 r0.ks, Blk w.heap.size 45 #[u0, v0, q0, .int .i64 r0.kd, .int .i64 r0.ho, .int .i64 r0.tu]]) := HS.out.store oy6 by6
    clear oy6 by6
    obtain ⟨y7, hy7⟩ : ∃ y7, y7 = y6.alloc (.cells #[.slice aoX xs0.length acX, .slice boX ys0.length bcX, .slice koX r0.ks.length kcX, .int .i64 r0.kd, .int .i64 r0.ho, .int .i64 r0.tu] 30) := ⟨_, rfl⟩
    replace HS : Hid (Sta w y7 [Blk y6.heap.size 30 #[.slice aoX xs0.length acX, .slice boX ys0.length bcX, .slice koX r0.ks.length kcX, .int .i64 r0.kd, .int .i64 r0.ho, .int .i64 r0.tu], Sto (.slice aoX xs0.length acX) (.slice boX ys0.length bcX) (.slice koX r0.ks.length kcX) xs0 ys0 r0.ks, Blk y4.heap.size 30 #[.slice aoW ks.length acW, .slice boW ns.length bcW, .slice koW hh.ks.length kcW, .int .i64 hh.kd, .int .i64 hh.ho, .int .i64 hh.tu], Sto (.slice aoW ks.length acW) (.slice boW ns.length bcW) (.slice koW hh.ks.length kcW) ks ns hh.ks, Sto (.slice aoT xs0.length acT) (.slice boT ys0.length bcT) (.slice koT r0.ks.length kcT) xs0 ys0 r0.ks, Blk w.heap.size 45 #[u0, v0, q0, .int .i64 r0.kd, .int .i64 r0.ho, .int .i64 r0.tu]]) := by rw [hy7]; exact HS.out.box _ _
    go_upto_region 7 with fail
    rw [← hy7]
    clear hy7
    have p_vX_0 : y7.cell? ⟨y6.heap.size, 0, none⟩ = some (.slice aoX xs0.length acX) := Blk.cell (HS.out.get 0 rfl) 0 rfl
    have p_vX_1 : y7.cell? ⟨y6.heap.size, 1, none⟩ = some (.slice boX ys0.length bcX) := Blk.cell (HS.out.get 0 rfl) 1 rfl
    have p_vX_2 : y7.cell? ⟨y6.heap.size, 2, none⟩ = some (.slice koX r0.ks.length kcX) := Blk.cell (HS.out.get 0 rfl) 2 rfl
    have p_vX_3 : y7.cell? ⟨y6.heap.size, 3, none⟩ = some (.int .i64 r0.kd) := Blk.cell (HS.out.get 0 rfl) 3 rfl
    have p_vX_4 : y7.cell? ⟨y6.heap.size, 4, none⟩ = some (.int .i64 r0.ho) := Blk.cell (HS.out.get 0 rfl) 4 rfl
    have p_vX_5 : y7.cell? ⟨y6.heap.size, 5, none⟩ = some (.int .i64 r0.tu) := Blk.cell (HS.out.get 0 rfl) 5 rfl
    go_wp2_with fail
    clear p_vX_0 p_vX_1 p_vX_2 p_vX_3 p_vX_4 p_vX_5
    refine (ID.out _ _ _ _ (HS.out.rA 1 rfl) (HS.out.rB 1 rfl) (HS.out.rK 1 rfl)).mono ?_
    rintro e y8 ⟨aG, bG, kG, rfl, oy8, by8⟩
    obtain ⟨aoG, acG, rfl⟩ := oy8.1.1.reads.form
    obtain ⟨boG, bcG, rfl⟩ := oy8.1.2.1.reads.form
    obtain ⟨koG, kcG, rfl⟩ := oy8.2.1.reads.form
    replace HS : Hid (Sta w y8 [Sto (.slice aoG ks.length acG) (.slice boG ns.length bcG) (.slice koG hh.ks.length kcG) ks ns hh.ks, Blk y6.heap.size 30 #[.slice aoX xs0.length acX, .slice boX ys0.length bcX, .slice koX r0.ks.length kcX, .int .i64 r0.kd, .int .i64 r0.ho, .int .i64 r0.tu], Sto (.slice aoX xs0.length acX) (.slice boX ys0.length bcX) (.slice koX r0.ks.length kcX) xs0 ys0 r0.ks, Blk y4.heap.size 30 #[.slice aoW ks.length acW, .slice boW ns.length bcW, .slice koW hh.ks.length kcW, .int .i64 hh.kd, .int .i64 hh.ho, .int .i64 hh.tu], Sto (.slice aoW ks.length acW) (.slice boW ns.length bcW) (.slice koW hh.ks.length kcW) ks ns hh.ks, Sto (.slice aoT xs0.length acT) (.slice boT ys0.length bcT) (.slice koT r0.ks.length kcT) xs0 ys0 r0.ks, Blk w.heap.size 45 #[u0, v0, q0, .int .i64 r0.kd, .int .i64 r0.ho, .int .i64 r0.tu]]) := HS.out.store oy8 by8
    clear oy8 by8
    obtain ⟨y9, hy9⟩ : ∃ y9, y9 = y8.alloc (.cells #[.slice aoG ks.length acG, .slice boG ns.length bcG, .slice koG hh.ks.length kcG, .int .i64 hh.kd, .int .i64 hh.ho, .int .i64 hh.tu] 30) := ⟨_, rfl⟩
    replace HS : Hid (Sta w y9 [Blk y8.heap.size 30 #[.slice aoG ks.length acG, .slice boG ns.length bcG, .slice koG hh.ks.length kcG, .int .i64 hh.kd, .int .i64 hh.ho, .int .i64 hh.tu], Sto (.slice aoG ks.length acG) (.slice boG ns.length bcG) (.slice koG hh.ks.length kcG) ks ns hh.ks, Blk y6.heap.size 30 #[.slice aoX xs0.length acX, .slice boX ys0.length bcX, .slice koX r0.ks.length kcX, .int .i64 r0.kd, .int .i64 r0.ho, .int .i64 r0.tu], Sto (.slice aoX xs0.length acX) (.slice boX ys0.length bcX) (.slice koX r0.ks.length kcX) xs0 ys0 r0.ks, Blk y4.heap.size 30 #[.slice aoW ks.length acW, .slice boW ns.length bcW, .slice koW hh.ks.length kcW, .int .i64 hh.kd, .int .i64 hh.ho, .int .i64 hh.tu], Sto (.slice aoW ks.length acW) (.slice boW ns.length bcW) (.slice koW hh.ks.length kcW) ks ns hh.ks, Sto (.slice aoT xs0.length acT) (.slice boT ys0.length bcT) (.slice koT r0.ks.length kcT) xs0 ys0 r0.ks, Blk w.heap.size 45 #[u0, v0, q0, .int .i64 r0.kd, .int .i64 r0.ho, .int .i64 r0.tu]]) := by rw [hy9]; exact HS.out.box _ _
    go_upto_region 8 with fail
    rw [← hy9]
    clear hy9
    have p_vG_0 : y9.cell? ⟨y8.heap.size, 0, none⟩ = some (.slice aoG ks.length acG) := Blk.cell (HS.out.get 0 rfl) 0 rfl
    have p_vG_1 : y9.cell? ⟨y8.heap.size, 1, none⟩ = some (.slice boG ns.length bcG) := Blk.cell (HS.out.get 0 rfl) 1 rfl
    have p_vG_2 : y9.cell? ⟨y8.heap.size, 2, none⟩ = some (.slice koG hh.ks.length kcG) := Blk.cell (HS.out.get 0 rfl) 2 rfl
    have p_vG_3 : y9.cell? ⟨y8.heap.size, 3, none⟩ = some (.int .i64 hh.kd) := Blk.cell (HS.out.get 0 rfl) 3 rfl
    have p_vG_4 : y9.cell? ⟨y8.heap.size, 4, none⟩ = some (.int .i64 hh.ho) := Blk.cell (HS.out.get 0 rfl) 4 rfl
    have p_vG_5 : y9.cell? ⟨y8.heap.size, 5, none⟩ = some (.int .i64 hh.tu) := Blk.cell (HS.out.get 0 rfl) 5 rfl
    have p_vW_0 : y9.cell? ⟨y4.heap.size, 0, none⟩ = some (.slice aoW ks.length acW) := Blk.cell (HS.out.get 4 rfl) 0 rfl
    have p_vW_1 : y9.cell? ⟨y4.heap.size, 1, none⟩ = some (.slice boW ns.length bcW) := Blk.cell (HS.out.get 4 rfl) 1 rfl
    have p_vW_2 : y9.cell? ⟨y4.heap.size, 2, none⟩ = some (.slice koW hh.ks.length kcW) := Blk.cell (HS.out.get 4 rfl) 2 rfl
    have p_vW_3 : y9.cell? ⟨y4.heap.size, 3, none⟩ = some (.int .i64 hh.kd) := Blk.cell (HS.out.get 4 rfl) 3 rfl
    have p_vW_4 : y9.cell? ⟨y4.heap.size, 4, none⟩ = some (.int .i64 hh.ho) := Blk.cell (HS.out.get 4 rfl) 4 rfl
    have p_vW_5 : y9.cell? ⟨y4.heap.size, 5, none⟩ = some (.int .i64 hh.tu) := Blk.cell (HS.out.get 4 rfl) 5 rfl
    go_wp2_with fail
    clear p_vG_0 p_vG_1 p_vG_2 p_vG_3 p_vG_4 p_vG_5 p_vW_0 p_vW_1 p_vW_2 p_vW_3 p_vW_4 p_vW_5
    refine (eqStore_any _ _ _ _ _ _ _ _ hh _ (HS.out.rA 1 rfl) (HS.out.rB 1 rfl) (HS.out.rK 1 rfl) (HS.out.rA 5 rfl) (HS.out.rB 5 rfl) (HS.out.rK 5 rfl) gk gn gh).mono ?_
    rintro e y10 ⟨rfl, by10⟩
    replace HS : Hid (Sta w y10 [Blk y8.heap.size 30 #[.slice aoG ks.length acG, .slice boG ns.length bcG, .slice koG hh.ks.length kcG, .int .i64 hh.kd, .int .i64 hh.ho, .int .i64 hh.tu], Sto (.slice aoG ks.length acG) (.slice boG ns.length bcG) (.slice koG hh.ks.length kcG) ks ns hh.ks, Blk y6.heap.size 30 #[.slice aoX xs0.length acX, .slice boX ys0.length bcX, .slice koX r0.ks.length kcX, .int .i64 r0.kd, .int .i64 r0.ho, .int .i64 r0.tu], Sto (.slice aoX xs0.length acX) (.slice boX ys0.length bcX) (.slice koX r0.ks.length kcX) xs0 ys0 r0.ks, Blk y4.heap.size 30 #[.slice aoW ks.length acW, .slice boW ns.length bcW, .slice koW hh.ks.length kcW, .int .i64 hh.kd, .int .i64 hh.ho, .int .i64 hh.tu], Sto (.slice aoW ks.length acW) (.slice boW ns.length bcW) (.slice koW hh.ks.length kcW) ks ns hh.ks, Sto (.slice aoT xs0.length acT) (.slice boT ys0.length bcT) (.slice koT r0.ks.length kcT) xs0 ys0 r0.ks, Blk w.heap.size 45 #[u0, v0, q0, .int .i64 r0.kd, .int .i64 r0.ho, .int .i64 r0.tu]]) := HS.out.next by10
    clear by10
    go_upto_region 10 with fail
    have m_vX_0 : ∀ w', Sx y10 w' → w'.cell? ⟨y6.heap.size, 0, none⟩ = some (.slice aoX xs0.length acX) := fun w' b => later_cell (w := y10) (Blk.cell (HS.out.get 2 rfl) 0 rfl) b
    have m_vX_1 : ∀ w', Sx y10 w' → w'.cell? ⟨y6.heap.size, 1, none⟩ = some (.slice boX ys0.length bcX) := fun w' b => later_cell (w := y10) (Blk.cell (HS.out.get 2 rfl) 1 rfl) b
    have m_vX_2 : ∀ w', Sx y10 w' → w'.cell? ⟨y6.heap.size, 2, none⟩ = some (.slice koX r0.ks.length kcX) := fun w' b => later_cell (w := y10) (Blk.cell (HS.out.get 2 rfl) 2 rfl) b
    have m_vX_3 : ∀ w', Sx y10 w' → w'.cell? ⟨y6.heap.size, 3, none⟩ = some (.int .i64 r0.kd) := fun w' b => later_cell (w := y10) (Blk.cell (HS.out.get 2 rfl) 3 rfl) b
    have m_vX_4 : ∀ w', Sx y10 w' → w'.cell? ⟨y6.heap.size, 4, none⟩ = some (.int .i64 r0.ho) := fun w' b => later_cell (w := y10) (Blk.cell (HS.out.get 2 rfl) 4 rfl) b
    have m_vX_5 : ∀ w', Sx y10 w' → w'.cell? ⟨y6.heap.size, 5, none⟩ = some (.int .i64 r0.tu) := fun w' b => later_cell (w := y10) (Blk.cell (HS.out.get 2 rfl) 5 rfl) b
    have m_S_0 : ∀ w', Sx y10 w' → w'.cell? ⟨w.heap.size, 0, none⟩ = some (u0) := fun w' b => later_cell (w := y10) (Blk.cell (HS.out.get 7 rfl) 0 rfl) b
    have m_S_1 : ∀ w', Sx y10 w' → w'.cell? ⟨w.heap.size, 1, none⟩ = some (v0) := fun w' b => later_cell (w := y10) (Blk.cell (HS.out.get 7 rfl) 1 rfl) b
    have m_S_2 : ∀ w', Sx y10 w' → w'.cell? ⟨w.heap.size, 2, none⟩ = some (q0) := fun w' b => later_cell (w := y10) (Blk.cell (HS.out.get 7 rfl) 2 rfl) b
    have m_S_3 : ∀ w', Sx y10 w' → w'.cell? ⟨w.heap.size, 3, none⟩ = some (.int .i64 r0.kd) := fun w' b => later_cell (w := y10) (Blk.cell (HS.out.get 7 rfl) 3 rfl) b
    have m_S_4 : ∀ w', Sx y10 w' → w'.cell? ⟨w.heap.size, 4, none⟩ = some (.int .i64 r0.ho) := fun w' b => later_cell (w := y10) (Blk.cell (HS.out.get 7 rfl) 4 rfl) b
    have m_S_5 : ∀ w', Sx y10 w' → w'.cell? ⟨w.heap.size, 5, none⟩ = some (.int .i64 r0.tu) := fun w' b => later_cell (w := y10) (Blk.cell (HS.out.get 7 rfl) 5 rfl) b
    go_region_held3 (fun w' => Sx y10 w') ((change Below y10.heap.size y10 _; exact (by repeat' (first | with_reducible assumption | with_reducible exact Below.refl _ _ | with_reducible refine bel_alloc ?_ | with_reducible refine bel_drew ?_ | with_reducible refine bel_trans ?_ (by with_reducible assumption)))))
      (first
        | (go_at_call 23; refine (TS.out _ (bel_trans HS.out.below (by repeat' (first | with_reducible assumption | with_reducible exact Below.refl _ _ | with_reducible refine bel_alloc ?_ | with_reducible refine bel_drew ?_ | with_reducible refine bel_trans ?_ (by with_reducible assumption))))).mono ?_; rintro e w3 ⟨a, b, k, rfl, o3', b3⟩; obtain ⟨ao, ac, rfl⟩ := o3'.1.1.reads.form; obtain ⟨bo, bc, rfl⟩ := o3'.1.2.1.reads.form; obtain ⟨ko, kc, rfl⟩ := o3'.2.1.reads.form; have O3 : Hid (OwnR w3 _ (.slice ao xs0.length ac) (.slice bo ys0.length bc) (.slice ko r0.ks.length kc) xs0 ys0 r0.ks) := o3'; clear o3')
        | (go_at_call 24; refine (eqStore_any _ _ _ _ _ _ _ _ r0 _ ((HS.out.rA 3 rfl).below (by repeat' (first | with_reducible assumption | with_reducible exact Below.refl _ _ | with_reducible refine bel_alloc ?_ | with_reducible refine bel_drew ?_ | with_reducible refine bel_trans ?_ (by with_reducible assumption))) (Nat.le_refl _)) ((HS.out.rB 3 rfl).below (by repeat' (first | with_reducible assumption | with_reducible exact Below.refl _ _ | with_reducible refine bel_alloc ?_ | with_reducible refine bel_drew ?_ | with_reducible refine bel_trans ?_ (by with_reducible assumption))) (Nat.le_refl _)) ((HS.out.rK 3 rfl).below (by repeat' (first | with_reducible assumption | with_reducible exact Below.refl _ _ | with_reducible refine bel_alloc ?_ | with_reducible refine bel_drew ?_ | with_reducible refine bel_trans ?_ (by with_reducible assumption))) (Nat.le_refl _)) (O3.out.1.1.reads.below (by repeat' (first | with_reducible assumption | with_reducible exact Below.refl _ _ | with_reducible refine bel_alloc ?_ | with_reducible refine bel_drew ?_ | with_reducible refine bel_trans ?_ (by with_reducible assumption))) (Nat.le_refl _)) (O3.out.1.2.1.reads.below (by repeat' (first | with_reducible assumption | with_reducible exact Below.refl _ _ | with_reducible refine bel_alloc ?_ | with_reducible refine bel_drew ?_ | with_reducible refine bel_trans ?_ (by with_reducible assumption))) (Nat.le_refl _)) (O3.out.2.1.reads.below (by repeat' (first | with_reducible assumption | with_reducible exact Below.refl _ _ | with_reducible refine bel_alloc ?_ | with_reducible refine bel_drew ?_ | with_reducible refine bel_trans ?_ (by with_reducible assumption))) (Nat.le_refl _)) gx0 gy0 gk0).mono ?_; rintro e w4 ⟨rfl, b4⟩))
    have by11 : Below y10.heap.size y10 w4 := (by repeat' (first | with_reducible assumption | with_reducible exact Below.refl _ _ | with_reducible refine bel_alloc ?_ | with_reducible refine bel_drew ?_ | with_reducible refine bel_trans ?_ (by with_reducible assumption)))
    clear O3 b3 b4 m_vX_0 m_vX_1 m_vX_2 m_vX_3 m_vX_4 m_vX_5 m_S_0 m_S_1 m_S_2 m_S_3 m_S_4 m_S_5
    replace HS : Hid (Sta w w4 [Blk y8.heap.size 30 #[.slice aoG ks.length acG, .slice boG ns.length bcG, .slice koG hh.ks.length kcG, .int .i64 hh.kd, .int .i64 hh.ho, .int .i64 hh.tu], Sto (.slice aoG ks.length acG) (.slice boG ns.length bcG) (.slice koG hh.ks.length kcG) ks ns hh.ks, Blk y6.heap.size 30 #[.slice aoX xs0.length acX, .slice boX ys0.length bcX, .slice koX r0.ks.length kcX, .int .i64 r0.kd, .int .i64 r0.ho, .int .i64 r0.tu], Sto (.slice aoX xs0.length acX) (.slice boX ys0.length bcX) (.slice koX r0.ks.length kcX) xs0 ys0 r0.ks, Blk y4.heap.size 30 #[.slice aoW ks.length acW, .slice boW ns.length bcW, .slice koW hh.ks.length kcW, .int .i64 hh.kd, .int .i64 hh.ho, .int .i64 hh.tu], Sto (.slice aoW ks.length acW) (.slice boW ns.length bcW) (.slice koW hh.ks.length kcW) ks ns hh.ks, Sto (.slice aoT xs0.length acT) (.slice boT ys0.length bcT) (.slice koT r0.ks.length kcT) xs0 ys0 r0.ks, Blk w.heap.size 45 #[u0, v0, q0, .int .i64 r0.kd, .int .i64 r0.ho, .int .i64 r0.tu]]) := HS.out.next by11
    clear by11
    obtain ⟨y11, hy11⟩ : ∃ y11, y11 = w4 := ⟨_, rfl⟩
    rw [← hy11] at HS ⊢
    clear hy11
    have p_vX_0 : y11.cell? ⟨y6.heap.size, 0, none⟩ = some (.slice aoX xs0.length acX) := Blk.cell (HS.out.get 2 rfl) 0 rfl
    have p_vX_1 : y11.cell? ⟨y6.heap.size, 1, none⟩ = some (.slice boX ys0.length bcX) := Blk.cell (HS.out.get 2 rfl) 1 rfl
    have p_vX_2 : y11.cell? ⟨y6.heap.size, 2, none⟩ = some (.slice koX r0.ks.length kcX) := Blk.cell (HS.out.get 2 rfl) 2 rfl
    have p_vX_3 : y11.cell? ⟨y6.heap.size, 3, none⟩ = some (.int .i64 r0.kd) := Blk.cell (HS.out.get 2 rfl) 3 rfl
    have p_vX_4 : y11.cell? ⟨y6.heap.size, 4, none⟩ = some (.int .i64 r0.ho) := Blk.cell (HS.out.get 2 rfl) 4 rfl
    have p_vX_5 : y11.cell? ⟨y6.heap.size, 5, none⟩ = some (.int .i64 r0.tu) := Blk.cell (HS.out.get 2 rfl) 5 rfl
    go_wp2_with fail
    clear p_vX_0 p_vX_1 p_vX_2 p_vX_3 p_vX_4 p_vX_5
    refine (markStore_any _ _ _ xs0 ys0 r0 1 _ 0 (HS.out.get 3 rfl) sx0 sy0 sk0 (by omega) (by omega) (by omega)).mono ?_
    rintro e y12 ⟨rfl, oy12, my12⟩
    replace HS : Hid (Sta w y12 [Blk y8.heap.size 30 #[.slice aoG ks.length acG, .slice boG ns.length bcG, .slice koG hh.ks.length kcG, .int .i64 hh.kd, .int .i64 hh.ho, .int .i64 hh.tu], Sto (.slice aoG ks.length acG) (.slice boG ns.length bcG) (.slice koG hh.ks.length kcG) ks ns hh.ks, Blk y6.heap.size 30 #[.slice aoX xs0.length acX, .slice boX ys0.length bcX, .slice koX r0.ks.length kcX, .int .i64 r0.kd, .int .i64 r0.ho, .int .i64 r0.tu], Sto (.slice aoX xs0.length acX) (.slice boX ys0.length bcX) (.slice koX r0.ks.length kcX) (marks 1 xs0.length) (marks (1 + xs0.length) ys0.length) (marks (1 + xs0.length + ys0.length) r0.ks.length), Blk y4.heap.size 30 #[.slice aoW ks.length acW, .slice boW ns.length bcW, .slice koW hh.ks.length kcW, .int .i64 hh.kd, .int .i64 hh.ho, .int .i64 hh.tu], Sto (.slice aoW ks.length acW) (.slice boW ns.length bcW) (.slice koW hh.ks.length kcW) ks ns hh.ks, Sto (.slice aoT xs0.length acT) (.slice boT ys0.length bcT) (.slice koT r0.ks.length kcT) xs0 ys0 r0.ks, Blk w.heap.size 45 #[u0, v0, q0, .int .i64 r0.kd, .int .i64 r0.ho, .int .i64 r0.tu]]) := HS.out.marked3 3 rfl oy12 my12
    clear oy12 my12
    have p_vG_0 : y12.cell? ⟨y8.heap.size, 0, none⟩ = some (.slice aoG ks.length acG) := Blk.cell (HS.out.get 0 rfl) 0 rfl
    have p_vG_1 : y12.cell? ⟨y8.heap.size, 1, none⟩ = some (.slice boG ns.length bcG) := Blk.cell (HS.out.get 0 rfl) 1 rfl
    have p_vG_2 : y12.cell? ⟨y8.heap.size, 2, none⟩ = some (.slice koG hh.ks.length kcG) := Blk.cell (HS.out.get 0 rfl) 2 rfl
    have p_vG_3 : y12.cell? ⟨y8.heap.size, 3, none⟩ = some (.int .i64 hh.kd) := Blk.cell (HS.out.get 0 rfl) 3 rfl
    have p_vG_4 : y12.cell? ⟨y8.heap.size, 4, none⟩ = some (.int .i64 hh.ho) := Blk.cell (HS.out.get 0 rfl) 4 rfl
    have p_vG_5 : y12.cell? ⟨y8.heap.size, 5, none⟩ = some (.int .i64 hh.tu) := Blk.cell (HS.out.get 0 rfl) 5 rfl
    have p_vW_0 : y12.cell? ⟨y4.heap.size, 0, none⟩ = some (.slice aoW ks.length acW) := Blk.cell (HS.out.get 4 rfl) 0 rfl
    have p_vW_1 : y12.cell? ⟨y4.heap.size, 1, none⟩ = some (.slice boW ns.length bcW) := Blk.cell (HS.out.get 4 rfl) 1 rfl
    have p_vW_2 : y12.cell? ⟨y4.heap.size, 2, none⟩ = some (.slice koW hh.ks.length kcW) := Blk.cell (HS.out.get 4 rfl) 2 rfl
    have p_vW_3 : y12.cell? ⟨y4.heap.size, 3, none⟩ = some (.int .i64 hh.kd) := Blk.cell (HS.out.get 4 rfl) 3 rfl
    have p_vW_4 : y12.cell? ⟨y4.heap.size, 4, none⟩ = some (.int .i64 hh.ho) := Blk.cell (HS.out.get 4 rfl) 4 rfl
    have p_vW_5 : y12.cell? ⟨y4.heap.size, 5, none⟩ = some (.int .i64 hh.tu) := Blk.cell (HS.out.get 4 rfl) 5 rfl
    go_wp2_with fail
    clear p_vG_0 p_vG_1 p_vG_2 p_vG_3 p_vG_4 p_vG_5 p_vW_0 p_vW_1 p_vW_2 p_vW_3 p_vW_4 p_vW_5
    refine (eqStore_any _ _ _ _ _ _ _ _ hh _ (HS.out.rA 1 rfl) (HS.out.rB 1 rfl) (HS.out.rK 1 rfl) (HS.out.rA 5 rfl) (HS.out.rB 5 rfl) (HS.out.rK 5 rfl) gk gn gh).mono ?_
    rintro e y13 ⟨rfl, by13⟩
    replace HS : Hid (Sta w y13 [Blk y8.heap.size 30 #[.slice aoG ks.length acG, .slice boG ns.length bcG, .slice koG hh.ks.length kcG, .int .i64 hh.kd, .int .i64 hh.ho, .int .i64 hh.tu], Sto (.slice aoG ks.length acG) (.slice boG ns.length bcG) (.slice koG hh.ks.length kcG) ks ns hh.ks, Blk y6.heap.size 30 #[.slice aoX xs0.length acX, .slice boX ys0.length bcX, .slice koX r0.ks.length kcX, .int .i64 r0.kd, .int .i64 r0.ho, .int .i64 r0.tu], Sto (.slice aoX xs0.length acX) (.slice boX ys0.length bcX) (.slice koX r0.ks.length kcX) (marks 1 xs0.length) (marks (1 + xs0.length) ys0.length) (marks (1 + xs0.length + ys0.length) r0.ks.length), Blk y4.heap.size 30 #[.slice aoW ks.length acW, .slice boW ns.length bcW, .slice koW hh.ks.length kcW, .int .i64 hh.kd, .int .i64 hh.ho, .int .i64 hh.tu], Sto (.slice aoW ks.length acW) (.slice boW ns.length bcW) (.slice koW hh.ks.length kcW) ks ns hh.ks, Sto (.slice aoT xs0.length acT) (.slice boT ys0.length bcT) (.slice koT r0.ks.length kcT) xs0 ys0 r0.ks, Blk w.heap.size 45 #[u0, v0, q0, .int .i64 r0.kd, .int .i64 r0.ho, .int .i64 r0.tu]]) := HS.out.next by13
    clear by13
    have p_vG_0 : y13.cell? ⟨y8.heap.size, 0, none⟩ = some (.slice aoG ks.length acG) := Blk.cell (HS.out.get 0 rfl) 0 rfl
    have p_vG_1 : y13.cell? ⟨y8.heap.size, 1, none⟩ = some (.slice boG ns.length bcG) := Blk.cell (HS.out.get 0 rfl) 1 rfl
    have p_vG_2 : y13.cell? ⟨y8.heap.size, 2, none⟩ = some (.slice koG hh.ks.length kcG) := Blk.cell (HS.out.get 0 rfl) 2 rfl
    have p_vG_3 : y13.cell? ⟨y8.heap.size, 3, none⟩ = some (.int .i64 hh.kd) := Blk.cell (HS.out.get 0 rfl) 3 rfl
    have p_vG_4 : y13.cell? ⟨y8.heap.size, 4, none⟩ = some (.int .i64 hh.ho) := Blk.cell (HS.out.get 0 rfl) 4 rfl
    have p_vG_5 : y13.cell? ⟨y8.heap.size, 5, none⟩ = some (.int .i64 hh.tu) := Blk.cell (HS.out.get 0 rfl) 5 rfl
    go_wp2_with fail
    clear p_vG_0 p_vG_1 p_vG_2 p_vG_3 p_vG_4 p_vG_5
    refine (markStore_any _ _ _ ks ns hh 1 _ 0 (HS.out.get 1 rfl) sk sn sh (by omega) (by omega) (by omega)).mono ?_
    rintro e y14 ⟨rfl, oy14, my14⟩
    replace HS : Hid (Sta w y14 [Blk y8.heap.size 30 #[.slice aoG ks.length acG, .slice boG ns.length bcG, .slice koG hh.ks.length kcG, .int .i64 hh.kd, .int .i64 hh.ho, .int .i64 hh.tu], Sto (.slice aoG ks.length acG) (.slice boG ns.length bcG) (.slice koG hh.ks.length kcG) (marks 1 ks.length) (marks (1 + ks.length) ns.length) (marks (1 + ks.length + ns.length) hh.ks.length), Blk y6.heap.size 30 #[.slice aoX xs0.length acX, .slice boX ys0.length bcX, .slice koX r0.ks.length kcX, .int .i64 r0.kd, .int .i64 r0.ho, .int .i64 r0.tu], Sto (.slice aoX xs0.length acX) (.slice boX ys0.length bcX) (.slice koX r0.ks.length kcX) (marks 1 xs0.length) (marks (1 + xs0.length) ys0.length) (marks (1 + xs0.length + ys0.length) r0.ks.length), Blk y4.heap.size 30 #[.slice aoW ks.length acW, .slice boW ns.length bcW, .slice koW hh.ks.length kcW, .int .i64 hh.kd, .int .i64 hh.ho, .int .i64 hh.tu], Sto (.slice aoW ks.length acW) (.slice boW ns.length bcW) (.slice koW hh.ks.length kcW) ks ns hh.ks, Sto (.slice aoT xs0.length acT) (.slice boT ys0.length bcT) (.slice koT r0.ks.length kcT) xs0 ys0 r0.ks, Blk w.heap.size 45 #[u0, v0, q0, .int .i64 r0.kd, .int .i64 r0.ho, .int .i64 r0.tu]]) := HS.out.marked3 1 rfl oy14 my14
    clear oy14 my14
    have p_vG_0 : y14.cell? ⟨y8.heap.size, 0, none⟩ = some (.slice aoG ks.length acG) := Blk.cell (HS.out.get 0 rfl) 0 rfl
    have p_vG_1 : y14.cell? ⟨y8.heap.size, 1, none⟩ = some (.slice boG ns.length bcG) := Blk.cell (HS.out.get 0 rfl) 1 rfl
    have p_vG_2 : y14.cell? ⟨y8.heap.size, 2, none⟩ = some (.slice koG hh.ks.length kcG) := Blk.cell (HS.out.get 0 rfl) 2 rfl
    have p_vG_3 : y14.cell? ⟨y8.heap.size, 3, none⟩ = some (.int .i64 hh.kd) := Blk.cell (HS.out.get 0 rfl) 3 rfl
    have p_vG_4 : y14.cell? ⟨y8.heap.size, 4, none⟩ = some (.int .i64 hh.ho) := Blk.cell (HS.out.get 0 rfl) 4 rfl
    have p_vG_5 : y14.cell? ⟨y8.heap.size, 5, none⟩ = some (.int .i64 hh.tu) := Blk.cell (HS.out.get 0 rfl) 5 rfl
    go_wp2_with fail
    clear p_vG_0 p_vG_1 p_vG_2 p_vG_3 p_vG_4 p_vG_5
    refine (heldStore_any _ _ _ hh ks.length ns.length hh.ks.length 1 _ rfl (HS.out.rA 1 rfl) (HS.out.rB 1 rfl) (HS.out.rK 1 rfl) sk sn sh (by omega) (by omega) (by omega)).mono ?_
    rintro e y15 ⟨rfl, by15⟩
    replace HS : Hid (Sta w y15 [Blk y8.heap.size 30 #[.slice aoG ks.length acG, .slice boG ns.length bcG, .slice koG hh.ks.length kcG, .int .i64 hh.kd, .int .i64 hh.ho, .int .i64 hh.tu], Sto (.slice aoG ks.length acG) (.slice boG ns.length bcG) (.slice koG hh.ks.length kcG) (marks 1 ks.length) (marks (1 + ks.length) ns.length) (marks (1 + ks.length + ns.length) hh.ks.length), Blk y6.heap.size 30 #[.slice aoX xs0.length acX, .slice boX ys0.length bcX, .slice koX r0.ks.length kcX, .int .i64 r0.kd, .int .i64 r0.ho, .int .i64 r0.tu], Sto (.slice aoX xs0.length acX) (.slice boX ys0.length bcX) (.slice koX r0.ks.length kcX) (marks 1 xs0.length) (marks (1 + xs0.length) ys0.length) (marks (1 + xs0.length + ys0.length) r0.ks.length), Blk y4.heap.size 30 #[.slice aoW ks.length acW, .slice boW ns.length bcW, .slice koW hh.ks.length kcW, .int .i64 hh.kd, .int .i64 hh.ho, .int .i64 hh.tu], Sto (.slice aoW ks.length acW) (.slice boW ns.length bcW) (.slice koW hh.ks.length kcW) ks ns hh.ks, Sto (.slice aoT xs0.length acT) (.slice boT ys0.length bcT) (.slice koT r0.ks.length kcT) xs0 ys0 r0.ks, Blk w.heap.size 45 #[u0, v0, q0, .int .i64 r0.kd, .int .i64 r0.ho, .int .i64 r0.tu]]) := HS.out.next by15
    clear by15
    have p_S_0 : y15.cell? ⟨w.heap.size, 0, none⟩ = some (u0) := Blk.cell (HS.out.get 7 rfl) 0 rfl
    have p_S_1 : y15.cell? ⟨w.heap.size, 1, none⟩ = some (v0) := Blk.cell (HS.out.get 7 rfl) 1 rfl
    have p_S_2 : y15.cell? ⟨w.heap.size, 2, none⟩ = some (q0) := Blk.cell (HS.out.get 7 rfl) 2 rfl
    have p_S_3 : y15.cell? ⟨w.heap.size, 3, none⟩ = some (.int .i64 r0.kd) := Blk.cell (HS.out.get 7 rfl) 3 rfl
    have p_S_4 : y15.cell? ⟨w.heap.size, 4, none⟩ = some (.int .i64 r0.ho) := Blk.cell (HS.out.get 7 rfl) 4 rfl
    have p_S_5 : y15.cell? ⟨w.heap.size, 5, none⟩ = some (.int .i64 r0.tu) := Blk.cell (HS.out.get 7 rfl) 5 rfl
    go_wp2_with fail
    clear p_S_0 p_S_1 p_S_2 p_S_3 p_S_4 p_S_5
    refine (TS.out _ HS.out.below).mono ?_
    rintro e y16 ⟨aU, bU, kU, rfl, oy16, by16⟩
    obtain ⟨aoU, acU, rfl⟩ := oy16.1.1.reads.form
    obtain ⟨boU, bcU, rfl⟩ := oy16.1.2.1.reads.form
    obtain ⟨koU, kcU, rfl⟩ := oy16.2.1.reads.form
    replace HS : Hid (Sta w y16 [Sto (.slice aoU xs0.length acU) (.slice boU ys0.length bcU) (.slice koU r0.ks.length kcU) xs0 ys0 r0.ks, Blk y8.heap.size 30 #[.slice aoG ks.length acG, .slice boG ns.length bcG, .slice koG hh.ks.length kcG, .int .i64 hh.kd, .int .i64 hh.ho, .int .i64 hh.tu], Sto (.slice aoG ks.length acG) (.slice boG ns.length bcG) (.slice koG hh.ks.length kcG) (marks 1 ks.length) (marks (1 + ks.length) ns.length) (marks (1 + ks.length + ns.length) hh.ks.length), Blk y6.heap.size 30 #[.slice aoX xs0.length acX, .slice boX ys0.length bcX, .slice koX r0.ks.length kcX, .int .i64 r0.kd, .int .i64 r0.ho, .int .i64 r0.tu], Sto (.slice aoX xs0.length acX) (.slice boX ys0.length bcX) (.slice koX r0.ks.length kcX) (marks 1 xs0.length) (marks (1 + xs0.length) ys0.length) (marks (1 + xs0.length + ys0.length) r0.ks.length), Blk y4.heap.size 30 #[.slice aoW ks.length acW, .slice boW ns.length bcW, .slice koW hh.ks.length kcW, .int .i64 hh.kd, .int .i64 hh.ho, .int .i64 hh.tu], Sto (.slice aoW ks.length acW) (.slice boW ns.length bcW) (.slice koW hh.ks.length kcW) ks ns hh.ks, Sto (.slice aoT xs0.length acT) (.slice boT ys0.length bcT) (.slice koT r0.ks.length kcT) xs0 ys0 r0.ks, Blk w.heap.size 45 #[u0, v0, q0, .int .i64 r0.kd, .int .i64 r0.ho, .int .i64 r0.tu]]) := HS.out.store oy16 by16
    clear oy16 by16
    go_wp2_with fail
    refine (ID.out _ _ _ _ (HS.out.rA 0 rfl) (HS.out.rB 0 rfl) (HS.out.rK 0 rfl)).mono ?_
    rintro e y17 ⟨aH, bH, kH, rfl, oy17, by17⟩
    obtain ⟨aoH, acH, rfl⟩ := oy17.1.1.reads.form
    obtain ⟨boH, bcH, rfl⟩ := oy17.1.2.1.reads.form
    obtain ⟨koH, kcH, rfl⟩ := oy17.2.1.reads.form
    replace HS : Hid (Sta w y17 [Sto (.slice aoH ks.length acH) (.slice boH ns.length bcH) (.slice koH hh.ks.length kcH) ks ns hh.ks, Sto (.slice aoU xs0.length acU) (.slice boU ys0.length bcU) (.slice koU r0.ks.length kcU) xs0 ys0 r0.ks, Blk y8.heap.size 30 #[.slice aoG ks.length acG, .slice boG ns.length bcG, .slice koG hh.ks.length kcG, .int .i64 hh.kd, .int .i64 hh.ho, .int .i64 hh.tu], Sto (.slice aoG ks.length acG) (.slice boG ns.length bcG) (.slice koG hh.ks.length kcG) (marks 1 ks.length) (marks (1 + ks.length) ns.length) (marks (1 + ks.length + ns.length) hh.ks.length), Blk y6.heap.size 30 #[.slice aoX xs0.length acX, .slice boX ys0.length bcX, .slice koX r0.ks.length kcX, .int .i64 r0.kd, .int .i64 r0.ho, .int .i64 r0.tu], Sto (.slice aoX xs0.length acX) (.slice boX ys0.length bcX) (.slice koX r0.ks.length kcX) (marks 1 xs0.length) (marks (1 + xs0.length) ys0.length) (marks (1 + xs0.length + ys0.length) r0.ks.length), Blk y4.heap.size 30 #[.slice aoW ks.length acW, .slice boW ns.length bcW, .slice koW hh.ks.length kcW, .int .i64 hh.kd, .int .i64 hh.ho, .int .i64 hh.tu], Sto (.slice aoW ks.length acW) (.slice boW ns.length bcW) (.slice koW hh.ks.length kcW) ks ns hh.ks, Sto (.slice aoT xs0.length acT) (.slice boT ys0.length bcT) (.slice koT r0.ks.length kcT) xs0 ys0 r0.ks, Blk w.heap.size 45 #[u0, v0, q0, .int .i64 r0.kd, .int .i64 r0.ho, .int .i64 r0.tu]]) := HS.out.store oy17 by17
    clear oy17 by17
    obtain ⟨y18, hy18⟩ : ∃ y18, y18 = y17.alloc (.cells #[.slice aoH ks.length acH, .slice boH ns.length bcH, .slice koH hh.ks.length kcH, .int .i64 hh.kd, .int .i64 hh.ho, .int .i64 hh.tu] 30) := ⟨_, rfl⟩
    replace HS : Hid (Sta w y18 [Blk y17.heap.size 30 #[.slice aoH ks.length acH, .slice boH ns.length bcH, .slice koH hh.ks.length kcH, .int .i64 hh.kd, .int .i64 hh.ho, .int .i64 hh.tu], Sto (.slice aoH ks.length acH) (.slice boH ns.length bcH) (.slice koH hh.ks.length kcH) ks ns hh.ks, Sto (.slice aoU xs0.length acU) (.slice boU ys0.length bcU) (.slice koU r0.ks.length kcU) xs0 ys0 r0.ks, Blk y8.heap.size 30 #[.slice aoG ks.length acG, .slice boG ns.length bcG, .slice koG hh.ks.length kcG, .int .i64 hh.kd, .int .i64 hh.ho, .int .i64 hh.tu], Sto (.slice aoG ks.length acG) (.slice boG ns.length bcG) (.slice koG hh.ks.length kcG) (marks 1 ks.length) (marks (1 + ks.length) ns.length) (marks (1 + ks.length + ns.length) hh.ks.length), Blk y6.heap.size 30 #[.slice aoX xs0.length acX, .slice boX ys0.length bcX, .slice koX r0.ks.length kcX, .int .i64 r0.kd, .int .i64 r0.ho, .int .i64 r0.tu], Sto (.slice aoX xs0.length acX) (.slice boX ys0.length bcX) (.slice koX r0.ks.length kcX) (marks 1 xs0.length) (marks (1 + xs0.length) ys0.length) (marks (1 + xs0.length + ys0.length) r0.ks.length), Blk y4.heap.size 30 #[.slice aoW ks.length acW, .slice boW ns.length bcW, .slice koW hh.ks.length kcW, .int .i64 hh.kd, .int .i64 hh.ho, .int .i64 hh.tu], Sto (.slice aoW ks.length acW) (.slice boW ns.length bcW) (.slice koW hh.ks.length kcW) ks ns hh.ks, Sto (.slice aoT xs0.length acT) (.slice boT ys0.length bcT) (.slice koT r0.ks.length kcT) xs0 ys0 r0.ks, Blk w.heap.size 45 #[u0, v0, q0, .int .i64 r0.kd, .int .i64 r0.ho, .int .i64 r0.tu]]) := by rw [hy18]; exact HS.out.box _ _
    go_upto_region 25 with fail
    rw [← hy18]
    clear hy18
    have p_vH_0 : y18.cell? ⟨y17.heap.size, 0, none⟩ = some (.slice aoH ks.length acH) := Blk.cell (HS.out.get 0 rfl) 0 rfl
    have p_vH_1 : y18.cell? ⟨y17.heap.size, 1, none⟩ = some (.slice boH ns.length bcH) := Blk.cell (HS.out.get 0 rfl) 1 rfl
    have p_vH_2 : y18.cell? ⟨y17.heap.size, 2, none⟩ = some (.slice koH hh.ks.length kcH) := Blk.cell (HS.out.get 0 rfl) 2 rfl
    have p_vH_3 : y18.cell? ⟨y17.heap.size, 3, none⟩ = some (.int .i64 hh.kd) := Blk.cell (HS.out.get 0 rfl) 3 rfl
    have p_vH_4 : y18.cell? ⟨y17.heap.size, 4, none⟩ = some (.int .i64 hh.ho) := Blk.cell (HS.out.get 0 rfl) 4 rfl
    have p_vH_5 : y18.cell? ⟨y17.heap.size, 5, none⟩ = some (.int .i64 hh.tu) := Blk.cell (HS.out.get 0 rfl) 5 rfl
    have p_vW_0 : y18.cell? ⟨y4.heap.size, 0, none⟩ = some (.slice aoW ks.length acW) := Blk.cell (HS.out.get 7 rfl) 0 rfl
    have p_vW_1 : y18.cell? ⟨y4.heap.size, 1, none⟩ = some (.slice boW ns.length bcW) := Blk.cell (HS.out.get 7 rfl) 1 rfl
    have p_vW_2 : y18.cell? ⟨y4.heap.size, 2, none⟩ = some (.slice koW hh.ks.length kcW) := Blk.cell (HS.out.get 7 rfl) 2 rfl
    have p_vW_3 : y18.cell? ⟨y4.heap.size, 3, none⟩ = some (.int .i64 hh.kd) := Blk.cell (HS.out.get 7 rfl) 3 rfl
    have p_vW_4 : y18.cell? ⟨y4.heap.size, 4, none⟩ = some (.int .i64 hh.ho) := Blk.cell (HS.out.get 7 rfl) 4 rfl
    have p_vW_5 : y18.cell? ⟨y4.heap.size, 5, none⟩ = some (.int .i64 hh.tu) := Blk.cell (HS.out.get 7 rfl) 5 rfl
    go_wp2_with fail
    clear p_vH_0 p_vH_1 p_vH_2 p_vH_3 p_vH_4 p_vH_5 p_vW_0 p_vW_1 p_vW_2 p_vW_3 p_vW_4 p_vW_5
    refine (eqStore_any _ _ _ _ _ _ _ _ hh _ (HS.out.rA 1 rfl) (HS.out.rB 1 rfl) (HS.out.rK 1 rfl) (HS.out.rA 8 rfl) (HS.out.rB 8 rfl) (HS.out.rK 8 rfl) gk gn gh).mono ?_
    rintro e y19 ⟨rfl, by19⟩
    replace HS : Hid (Sta w y19 [Blk y17.heap.size 30 #[.slice aoH ks.length acH, .slice boH ns.length bcH, .slice koH hh.ks.length kcH, .int .i64 hh.kd, .int .i64 hh.ho, .int .i64 hh.tu], Sto (.slice aoH ks.length acH) (.slice boH ns.length bcH) (.slice koH hh.ks.length kcH) ks ns hh.ks, Sto (.slice aoU xs0.length acU) (.slice boU ys0.length bcU) (.slice koU r0.ks.length kcU) xs0 ys0 r0.ks, Blk y8.heap.size 30 #[.slice aoG ks.length acG, .slice boG ns.length bcG, .slice koG hh.ks.length kcG, .int .i64 hh.kd, .int .i64 hh.ho, .int .i64 hh.tu], Sto (.slice aoG ks.length acG) (.slice boG ns.length bcG) (.slice koG hh.ks.length kcG) (marks 1 ks.length) (marks (1 + ks.length) ns.length) (marks (1 + ks.length + ns.length) hh.ks.length), Blk y6.heap.size 30 #[.slice aoX xs0.length acX, .slice boX ys0.length bcX, .slice koX r0.ks.length kcX, .int .i64 r0.kd, .int .i64 r0.ho, .int .i64 r0.tu], Sto (.slice aoX xs0.length acX) (.slice boX ys0.length bcX) (.slice koX r0.ks.length kcX) (marks 1 xs0.length) (marks (1 + xs0.length) ys0.length) (marks (1 + xs0.length + ys0.length) r0.ks.length), Blk y4.heap.size 30 #[.slice aoW ks.length acW, .slice boW ns.length bcW, .slice koW hh.ks.length kcW, .int .i64 hh.kd, .int .i64 hh.ho, .int .i64 hh.tu], Sto (.slice aoW ks.length acW) (.slice boW ns.length bcW) (.slice koW hh.ks.length kcW) ks ns hh.ks, Sto (.slice aoT xs0.length acT) (.slice boT ys0.length bcT) (.slice koT r0.ks.length kcT) xs0 ys0 r0.ks, Blk w.heap.size 45 #[u0, v0, q0, .int .i64 r0.kd, .int .i64 r0.ho, .int .i64 r0.tu]]) := HS.out.next by19
    clear by19
    have p_vG_0 : y19.cell? ⟨y8.heap.size, 0, none⟩ = some (.slice aoG ks.length acG) := Blk.cell (HS.out.get 3 rfl) 0 rfl
    have p_vG_1 : y19.cell? ⟨y8.heap.size, 1, none⟩ = some (.slice boG ns.length bcG) := Blk.cell (HS.out.get 3 rfl) 1 rfl
    have p_vG_2 : y19.cell? ⟨y8.heap.size, 2, none⟩ = some (.slice koG hh.ks.length kcG) := Blk.cell (HS.out.get 3 rfl) 2 rfl
    have p_vG_3 : y19.cell? ⟨y8.heap.size, 3, none⟩ = some (.int .i64 hh.kd) := Blk.cell (HS.out.get 3 rfl) 3 rfl
    have p_vG_4 : y19.cell? ⟨y8.heap.size, 4, none⟩ = some (.int .i64 hh.ho) := Blk.cell (HS.out.get 3 rfl) 4 rfl
    have p_vG_5 : y19.cell? ⟨y8.heap.size, 5, none⟩ = some (.int .i64 hh.tu) := Blk.cell (HS.out.get 3 rfl) 5 rfl
    go_wp2_with fail
    clear p_vG_0 p_vG_1 p_vG_2 p_vG_3 p_vG_4 p_vG_5
    refine (heldStore_any _ _ _ hh ks.length ns.length hh.ks.length 1 _ rfl (HS.out.rA 4 rfl) (HS.out.rB 4 rfl) (HS.out.rK 4 rfl) sk sn sh (by omega) (by omega) (by omega)).mono ?_
    rintro e y20 ⟨rfl, by20⟩
    replace HS : Hid (Sta w y20 [Blk y17.heap.size 30 #[.slice aoH ks.length acH, .slice boH ns.length bcH, .slice koH hh.ks.length kcH, .int .i64 hh.kd, .int .i64 hh.ho, .int .i64 hh.tu], Sto (.slice aoH ks.length acH) (.slice boH ns.length bcH) (.slice koH hh.ks.length kcH) ks ns hh.ks, Sto (.slice aoU xs0.length acU) (.slice boU ys0.length bcU) (.slice koU r0.ks.length kcU) xs0 ys0 r0.ks, Blk y8.heap.size 30 #[.slice aoG ks.length acG, .slice boG ns.length bcG, .slice koG hh.ks.length kcG, .int .i64 hh.kd, .int .i64 hh.ho, .int .i64 hh.tu], Sto (.slice aoG ks.length acG) (.slice boG ns.length bcG) (.slice koG hh.ks.length kcG) (marks 1 ks.length) (marks (1 + ks.length) ns.length) (marks (1 + ks.length + ns.length) hh.ks.length), Blk y6.heap.size 30 #[.slice aoX xs0.length acX, .slice boX ys0.length bcX, .slice koX r0.ks.length kcX, .int .i64 r0.kd, .int .i64 r0.ho, .int .i64 r0.tu], Sto (.slice aoX xs0.length acX) (.slice boX ys0.length bcX) (.slice koX r0.ks.length kcX) (marks 1 xs0.length) (marks (1 + xs0.length) ys0.length) (marks (1 + xs0.length + ys0.length) r0.ks.length), Blk y4.heap.size 30 #[.slice aoW ks.length acW, .slice boW ns.length bcW, .slice koW hh.ks.length kcW, .int .i64 hh.kd, .int .i64 hh.ho, .int .i64 hh.tu], Sto (.slice aoW ks.length acW) (.slice boW ns.length bcW) (.slice koW hh.ks.length kcW) ks ns hh.ks, Sto (.slice aoT xs0.length acT) (.slice boT ys0.length bcT) (.slice koT r0.ks.length kcT) xs0 ys0 r0.ks, Blk w.heap.size 45 #[u0, v0, q0, .int .i64 r0.kd, .int .i64 r0.ho, .int .i64 r0.tu]]) := HS.out.next by20
    clear by20
    have HB : Hid (Below w.heap.size w _) := HS.out.below
    clear HS
    go_wp2_with fail
    go_ret
    exact ⟨rfl, HB.out⟩
  · have hsz : szI 1048576 (xs0.length + ys0.length + r0.ks.length) = -1 := by simp only [szI]; rw [if_neg (by omega)]
    have b1 : Below w.heap.size w (w.alloc (.cells #[u0, v0, q0, .int .i64 r0.kd, .int .i64 r0.ho, .int .i64 r0.tu] 45)) := (Below.refl _ _).alloc (Nat.le_refl _) _
    have c1 := szStore_any u0 v0 q0 xs0 ys0 r0 1048576 _ (RX0.below b1 (Nat.le_refl _)) (RY0.below b1 (Nat.le_refl _)) (RQ0.below b1 (Nat.le_refl _)) (by omega) (by omega)
    rw [hsz] at c1
    clear hsz RX0 RY0 RQ0 hbig
    unfold SRV srA at c1 ⊢
    go_enter Try.func6, Try.ntmps6
    go_wp2_with fail
    refine c1.mono ?_
    rintro e w2 ⟨rfl, b2⟩
    replace b2 := b1.trans (b2.mono b1.size)
    clear b1 c1
    go_wp2_with fail
    go_ret
    exact ⟨rfl, b2⟩

set_option maxRecDepth 100000 in
theorem lifted (os : Os) (started : os.Started) (H : Type) (enc : TypeId × Value → H) :
    ReturnsInHanded {} Try.checked os 6 .any (Rows.fnExactPowerSpec.pre6 enc Try.prog Try.f6 Rows.fnExactPowerRow.domain false) (Rows.fnExactPowerSpec.post enc Try.prog Try.f6 false true false false) := by
  refine returnsInHanded_of_change (C := Try.checked) own started (by kernel_rfl) Try.func6
    (ChangeSpec.witness6 (enc := enc) (C := Try.checked) false ⟨#[], #[.agg #[.slice none 0 0, .slice none 0 0, .slice none 0 0, .int .i64 0, .int .i64 0, .int .i64 0], .int .i64 0], []⟩ 8 (by kernel_rfl) (by kernel_rfl) (by kernel_rfl) (by kernel_rfl)) ?_
  intro W base args ds gs before hval0 hW hcnd _
  have hval : ∀ (j : Nat) t v, Try.f6.params[j]? = some t → args[j]? = some v → Value.okWide Try.prog W .any base t v := hval0
  have hW' := hW
  obtain ⟨p, q, hA0, hV, rfl, hfz, hnd⟩ := hW
  have hA : DataW.TrodAll enc Try.prog W 0 (fun _ => true) true Try.f6.params.toList args.toList ds p := hA0
  rw [Try.params6] at hA hval
  obtain ⟨v0, vs0, d0, ds0, p0, q0, hargs, rfl, rfl, h0, s0⟩ := trodAll_cons hA
  obtain ⟨v1, vs1, d1, ds1, p1, q1, rfl, rfl, rfl, h1, s1⟩ := trodAll_cons s0
  obtain ⟨rfl, rfl, rfl⟩ := trodAll_nil s1
  obtain rfl : args = #[v0, v1] := by cases args; simp_all
  obtain ⟨rfl, rfl⟩ := trodVars_none hV
  have k0 := h0
  have lt0 : ∀ x ∈ p0, x.block < W.heap.size := by obtain ⟨m, hm⟩ := k0; exact DataW.trod_lt m _ _ _ hm
  obtain ⟨r0, u0, y0, z0, xs0, ys0, rfl, RX0, RY0, RQ0⟩ := open_store (hval 0 45 v0 rfl rfl) h0
  obtain ⟨a1, rfl, rfl, rfl, w1⟩ := open_int Try.underlying2 (hval 1 2 v1 rfl rfl) h1
  clear hA0 hval0
  refine (walk r0 u0 y0 z0 xs0 ys0 a1 W RX0 RY0 RQ0 w1).mono fun e W' ⟨he, bel⟩ => ?_
  subst he
  exact ⟨_, rfl, _, _, _, [], _, [], hW', trodAll_mk1 (shut_bool Try.underlying4 _), (trodAll_cons_mk (Below.trod laidOut (by kernel_rfl) (of_decide_eq_true (by kernel_rfl)) k0 bel lt0) (trodAll_cons_mk (shut_int Try.underlying2 w1) trodAll_mk0)), rfl, bel.frame _, fun h => by cases h⟩

theorem over : Rows.fnExactPowerRow.holds Try.pinned (OpenSpec.ofChange Rows.fnExactPowerSpec) :=
  OpenClaim.holds_of_wide 6 Try.f6 rfl rfl rfl rfl rfl rfl rfl ⟨rfl, rfl, rfl, rfl, rfl⟩ rfl rfl rfl rfl rfl (by kernel_rfl) Try.func6 (by kernel_rfl)
    (of_decide_eq_true (by kernel_rfl)) (by unfold Func.isWrapper; first | (rw [if_pos (by decide +kernel)]; kernel_rfl) | (rw [if_neg (by decide +kernel)]; exact ⟨rfl, rfl⟩))
    (fun os started H enc _ => lifted os started H enc)

theorem proved : Rows.FnExactPowerSaid := over
end Go.Proofs.Ytpdggofaobmnlaa.fnExactPower
namespace Go.Proofs.Ytpdggofaobmnlaa
theorem fnExactPower_holds : Rows.FnExactPowerSaid := fnExactPower.proved
end Go.Proofs.Ytpdggofaobmnlaa
