/- At every store StoreOk of the program answers as StoreOk of the model, and leaves what it was given as it was: the law FnExactStoreOk returns true, whatever it is given. -/
import Derived.Test.YtpdggofaobmnlaaRows
import Derived.WalkKit
import Derived.ProofKit
import Derived.OpenShut
import Derived.ShutString
import Derived.ChangeOld
import Derived.Below
import Derived.Test.YtpdggofaobmnlaaM7
import Derived.Test.YtpdggofaobmnlaaStoSta
import Derived.Test.YtpdggofaobmnlaaIStoA
namespace Go.Proofs.Ytpdggofaobmnlaa.fnExactStoreOk
open Go.ChangeShapes Go.WideShapes Go.ChangeAt Go.RowKit
open Go.ChangeMaps (open_string shut_string)
set_option linter.unusedVariables false

theorem own : ownKnob Try.prog.godebug = none := by kernel_rfl
theorem laidOut : laidOutB Try.prog = true := by kernel_rfl

set_option maxRecDepth 20000 in
set_option maxHeartbeats 2000000 in
theorem walk (r0 : Hd) (u0 v0 q0 : Value) (xs0 ys0 : List Int) (w : World) (RX0 : Reads w u0 xs0) (RY0 : Reads w v0 ys0) (RQ0 : Reads w q0 r0.ks) :
    Calls Try.prog 4 #[SRV u0 v0 q0 r0] w fun e w' => e = .returned (.bool true) ∧ Below w.heap.size w w' := by
  by_cases hbig : (xs0.length + ys0.length + r0.ks.length : Int) ≤ 1048576
  · have gx0 : xs0.length ≤ 1099511627776 := by omega
    have gy0 : ys0.length ≤ 1099511627776 := by omega
    have gk0 : r0.ks.length ≤ 1099511627776 := by omega
    have sx0 : xs0.length ≤ 1048576 := by omega
    have sy0 : ys0.length ≤ 1048576 := by omega
    have sk0 : r0.ks.length ≤ 1048576 := by omega
    have hsz : szI 1048576 (xs0.length + ys0.length + r0.ks.length) = 1048576 - (xs0.length + ys0.length + r0.ks.length : Nat) := by simp only [szI]; rw [if_pos (by omega)]
    obtain ⟨w1, hw1⟩ : ∃ w1, w1 = w.alloc (.cells #[u0, v0, q0, .int .i64 r0.kd, .int .i64 r0.ho, .int .i64 r0.tu] 45) := ⟨_, rfl⟩
    have HS : Hid (Sta w w1 [Blk w.heap.size 45 #[u0, v0, q0, .int .i64 r0.kd, .int .i64 r0.ho, .int .i64 r0.tu]]) := by rw [hw1]; exact (Sta.start w).box _ _
    have c1 := szStore_any u0 v0 q0 xs0 ys0 r0 1048576 w1 (RX0.below HS.out.below (Nat.le_refl _)) (RY0.below HS.out.below (Nat.le_refl _)) (RQ0.below HS.out.below (Nat.le_refl _)) (by omega) (by omega)
    rw [hsz] at c1
    replace RX0 : Hid (Reads w u0 xs0) := RX0
    replace RY0 : Hid (Reads w v0 ys0) := RY0
    replace RQ0 : Hid (Reads w q0 r0.ks) := RQ0
    have TS : Hid (∀ wx, Below w.heap.size w wx → Calls Try.prog 23 #[.agg #[u0, v0, q0, .int .i64 r0.kd, .int .i64 r0.ho, .int .i64 r0.tu]] wx fun e w' => ∃ a b k, e = .returned (.agg #[a, b, k, .int .i64 r0.kd, .int .i64 r0.ho, .int .i64 r0.tu]) ∧ OwnR w' wx.heap.size a b k xs0 ys0 r0.ks ∧ Below wx.heap.size wx w') := fun wx b => toStore_any u0 v0 q0 xs0 ys0 r0 wx (RX0.out.below b (Nat.le_refl _)) (RY0.out.below b (Nat.le_refl _)) (RQ0.out.below b (Nat.le_refl _)) gx0 gy0 gk0
    have CS : Hid (∀ wx a b k, Reads wx a xs0 → Reads wx b ys0 → Reads wx k r0.ks → _) := fun wx a b k h1 h2 h3 => sstoreok_any a b k xs0 ys0 r0 wx h1 h2 h3 gx0 gy0 gk0
    have CI : Hid (∀ wx a b k, Reads wx a xs0 → Reads wx b ys0 → Reads wx k r0.ks → _) := fun wx a b k h1 h2 h3 => istoreok_any a b k xs0 ys0 r0 wx h1 h2 h3 gx0 gy0 gk0
    obtain ⟨ok, hok⟩ : ∃ ok, ok = Sr.ok ⟨xs0, ys0, r0⟩ := ⟨_, rfl⟩
    rw [← hok] at CS CI
    clear hok hsz
    unfold SRV srA at CS CI c1 ⊢
    go_enter Try.func4, Try.ntmps4
    go_wp2_with fail
    rw [← hw1]
    clear hw1
    refine c1.mono ?_
    rintro e w2 ⟨rfl, b2⟩
    replace HS : Hid (Sta w w2 [Blk w.heap.size 45 #[u0, v0, q0, .int .i64 r0.kd, .int .i64 r0.ho, .int .i64 r0.tu]]) := HS.out.next b2
    clear b2 c1
    have p_S_0 : w2.cell? ⟨w.heap.size, 0, none⟩ = some (u0) := Blk.cell (HS.out.get 0 rfl) 0 rfl
    have p_S_1 : w2.cell? ⟨w.heap.size, 1, none⟩ = some (v0) := Blk.cell (HS.out.get 0 rfl) 1 rfl
    have p_S_2 : w2.cell? ⟨w.heap.size, 2, none⟩ = some (q0) := Blk.cell (HS.out.get 0 rfl) 2 rfl
    have p_S_3 : w2.cell? ⟨w.heap.size, 3, none⟩ = some (.int .i64 r0.kd) := Blk.cell (HS.out.get 0 rfl) 3 rfl
    have p_S_4 : w2.cell? ⟨w.heap.size, 4, none⟩ = some (.int .i64 r0.ho) := Blk.cell (HS.out.get 0 rfl) 4 rfl
    have p_S_5 : w2.cell? ⟨w.heap.size, 5, none⟩ = some (.int .i64 r0.tu) := Blk.cell (HS.out.get 0 rfl) 5 rfl
    go_wp2_with fail
    clear p_S_0 p_S_1 p_S_2 p_S_3 p_S_4 p_S_5
    refine (TS.out _ HS.out.below).mono ?_
    rintro e y3 ⟨aT, bT, kT, rfl, oy3, by3⟩
    obtain ⟨aoT, acT, rfl⟩ := oy3.1.1.reads.form
    obtain ⟨boT, bcT, rfl⟩ := oy3.1.2.1.reads.form
    obtain ⟨koT, kcT, rfl⟩ := oy3.2.1.reads.form
    replace HS : Hid (Sta w y3 [Sto (.slice aoT xs0.length acT) (.slice boT ys0.length bcT) (.slice koT r0.ks.length kcT) xs0 ys0 r0.ks, Blk w.heap.size 45 #[u0, v0, q0, .int .i64 r0.kd, .int .i64 r0.ho, .int .i64 r0.tu]]) := HS.out.store oy3 by3
    clear oy3 by3
    go_wp2_with fail
    refine (CS.out _ _ _ _ (HS.out.rA 0 rfl) (HS.out.rB 0 rfl) (HS.out.rK 0 rfl)).mono ?_
    rintro e y4 ⟨rfl, by4⟩
    replace HS : Hid (Sta w y4 [Sto (.slice aoT xs0.length acT) (.slice boT ys0.length bcT) (.slice koT r0.ks.length kcT) xs0 ys0 r0.ks, Blk w.heap.size 45 #[u0, v0, q0, .int .i64 r0.kd, .int .i64 r0.ho, .int .i64 r0.tu]]) := HS.out.next by4
    clear by4
    have p_S_0 : y4.cell? ⟨w.heap.size, 0, none⟩ = some (u0) := Blk.cell (HS.out.get 1 rfl) 0 rfl
    have p_S_1 : y4.cell? ⟨w.heap.size, 1, none⟩ = some (v0) := Blk.cell (HS.out.get 1 rfl) 1 rfl
    have p_S_2 : y4.cell? ⟨w.heap.size, 2, none⟩ = some (q0) := Blk.cell (HS.out.get 1 rfl) 2 rfl
    have p_S_3 : y4.cell? ⟨w.heap.size, 3, none⟩ = some (.int .i64 r0.kd) := Blk.cell (HS.out.get 1 rfl) 3 rfl
    have p_S_4 : y4.cell? ⟨w.heap.size, 4, none⟩ = some (.int .i64 r0.ho) := Blk.cell (HS.out.get 1 rfl) 4 rfl
    have p_S_5 : y4.cell? ⟨w.heap.size, 5, none⟩ = some (.int .i64 r0.tu) := Blk.cell (HS.out.get 1 rfl) 5 rfl
    go_wp2_with fail
    clear p_S_0 p_S_1 p_S_2 p_S_3 p_S_4 p_S_5
    refine (TS.out _ HS.out.below).mono ?_
    rintro e y5 ⟨aX, bX, kX, rfl, oy5, by5⟩
    obtain ⟨aoX, acX, rfl⟩ := oy5.1.1.reads.form
    obtain ⟨boX, bcX, rfl⟩ := oy5.1.2.1.reads.form
    obtain ⟨koX, kcX, rfl⟩ := oy5.2.1.reads.form
    replace HS : Hid (Sta w y5 [Sto (.slice aoX xs0.length acX) (.slice boX ys0.length bcX) (.slice koX r0.ks.length kcX) xs0 ys0 r0.ks, Sto (.slice aoT xs0.length acT) (.slice boT ys0.length bcT) (.slice koT r0.ks.length kcT) xs0 ys0 r0.ks, Blk w.heap.size 45 #[u0, v0, q0, .int .i64 r0.kd, .int .i64 r0.ho, .int .i64 r0.tu]]) := HS.out.store oy5 by5
    clear oy5 by5
    obtain ⟨y6, hy6⟩ : ∃ y6, y6 = y5.alloc (.cells #[.slice aoX xs0.length acX, .slice boX ys0.length bcX, .slice koX r0.ks.length kcX, .int .i64 r0.kd, .int .i64 r0.ho, .int .i64 r0.tu] 30) := ⟨_, rfl⟩
    replace HS : Hid (Sta w y6 [Blk y5.heap.size 30 #[.slice aoX xs0.length acX, .slice boX ys0.length bcX, .slice koX r0.ks.length kcX, .int .i64 r0.kd, .int .i64 r0.ho, .int .i64 r0.tu], Sto (.slice aoX xs0.length acX) (.slice boX ys0.length bcX) (.slice koX r0.ks.length kcX) xs0 ys0 r0.ks, Sto (.slice aoT xs0.length acT) (.slice boT ys0.length bcT) (.slice koT r0.ks.length kcT) xs0 ys0 r0.ks, Blk w.heap.size 45 #[u0, v0, q0, .int .i64 r0.kd, .int .i64 r0.ho, .int .i64 r0.tu]]) := by rw [hy6]; exact HS.out.box _ _
    go_upto_region 7 with fail
    rw [← hy6]
    clear hy6
    have p_vX_0 : y6.cell? ⟨y5.heap.size, 0, none⟩ = some (.slice aoX xs0.length acX) := Blk.cell (HS.out.get 0 rfl) 0 rfl
    have p_vX_1 : y6.cell? ⟨y5.heap.size, 1, none⟩ = some (.slice boX ys0.length bcX) := Blk.cell (HS.out.get 0 rfl) 1 rfl
    have p_vX_2 : y6.cell? ⟨y5.heap.size, 2, none⟩ = some (.slice koX r0.ks.length kcX) := Blk.cell (HS.out.get 0 rfl) 2 rfl
    have p_vX_3 : y6.cell? ⟨y5.heap.size, 3, none⟩ = some (.int .i64 r0.kd) := Blk.cell (HS.out.get 0 rfl) 3 rfl
    have p_vX_4 : y6.cell? ⟨y5.heap.size, 4, none⟩ = some (.int .i64 r0.ho) := Blk.cell (HS.out.get 0 rfl) 4 rfl
    have p_vX_5 : y6.cell? ⟨y5.heap.size, 5, none⟩ = some (.int .i64 r0.tu) := Blk.cell (HS.out.get 0 rfl) 5 rfl
    go_wp2_with fail
    clear p_vX_0 p_vX_1 p_vX_2 p_vX_3 p_vX_4 p_vX_5
    refine (CI.out _ _ _ _ (HS.out.rA 1 rfl) (HS.out.rB 1 rfl) (HS.out.rK 1 rfl)).mono ?_
    rintro e y7 ⟨rfl, by7⟩
    replace HS : Hid (Sta w y7 [Blk y5.heap.size 30 #[.slice aoX xs0.length acX, .slice boX ys0.length bcX, .slice koX r0.ks.length kcX, .int .i64 r0.kd, .int .i64 r0.ho, .int .i64 r0.tu], Sto (.slice aoX xs0.length acX) (.slice boX ys0.length bcX) (.slice koX r0.ks.length kcX) xs0 ys0 r0.ks, Sto (.slice aoT xs0.length acT) (.slice boT ys0.length bcT) (.slice koT r0.ks.length kcT) xs0 ys0 r0.ks, Blk w.heap.size 45 #[u0, v0, q0, .int .i64 r0.kd, .int .i64 r0.ho, .int .i64 r0.tu]]) := HS.out.next by7
    clear by7
    cases ok
    all_goals
      go_upto_region 10 with fail
      have m_vX_0 : ∀ w', Sx y7 w' → w'.cell? ⟨y5.heap.size, 0, none⟩ = some (.slice aoX xs0.length acX) := fun w' b => later_cell (w := y7) (Blk.cell (HS.out.get 0 rfl) 0 rfl) b
      have m_vX_1 : ∀ w', Sx y7 w' → w'.cell? ⟨y5.heap.size, 1, none⟩ = some (.slice boX ys0.length bcX) := fun w' b => later_cell (w := y7) (Blk.cell (HS.out.get 0 rfl) 1 rfl) b
      have m_vX_2 : ∀ w', Sx y7 w' → w'.cell? ⟨y5.heap.size, 2, none⟩ = some (.slice koX r0.ks.length kcX) := fun w' b => later_cell (w := y7) (Blk.cell (HS.out.get 0 rfl) 2 rfl) b
      have m_vX_3 : ∀ w', Sx y7 w' → w'.cell? ⟨y5.heap.size, 3, none⟩ = some (.int .i64 r0.kd) := fun w' b => later_cell (w := y7) (Blk.cell (HS.out.get 0 rfl) 3 rfl) b
      have m_vX_4 : ∀ w', Sx y7 w' → w'.cell? ⟨y5.heap.size, 4, none⟩ = some (.int .i64 r0.ho) := fun w' b => later_cell (w := y7) (Blk.cell (HS.out.get 0 rfl) 4 rfl) b
      have m_vX_5 : ∀ w', Sx y7 w' → w'.cell? ⟨y5.heap.size, 5, none⟩ = some (.int .i64 r0.tu) := fun w' b => later_cell (w := y7) (Blk.cell (HS.out.get 0 rfl) 5 rfl) b
      have m_S_0 : ∀ w', Sx y7 w' → w'.cell? ⟨w.heap.size, 0, none⟩ = some (u0) := fun w' b => later_cell (w := y7) (Blk.cell (HS.out.get 3 rfl) 0 rfl) b
      have m_S_1 : ∀ w', Sx y7 w' → w'.cell? ⟨w.heap.size, 1, none⟩ = some (v0) := fun w' b => later_cell (w := y7) (Blk.cell (HS.out.get 3 rfl) 1 rfl) b
      have m_S_2 : ∀ w', Sx y7 w' → w'.cell? ⟨w.heap.size, 2, none⟩ = some (q0) := fun w' b => later_cell (w := y7) (Blk.cell (HS.out.get 3 rfl) 2 rfl) b
      have m_S_3 : ∀ w', Sx y7 w' → w'.cell? ⟨w.heap.size, 3, none⟩ = some (.int .i64 r0.kd) := fun w' b => later_cell (w := y7) (Blk.cell (HS.out.get 3 rfl) 3 rfl) b
      have m_S_4 : ∀ w', Sx y7 w' → w'.cell? ⟨w.heap.size, 4, none⟩ = some (.int .i64 r0.ho) := fun w' b => later_cell (w := y7) (Blk.cell (HS.out.get 3 rfl) 4 rfl) b
      have m_S_5 : ∀ w', Sx y7 w' → w'.cell? ⟨w.heap.size, 5, none⟩ = some (.int .i64 r0.tu) := fun w' b => later_cell (w := y7) (Blk.cell (HS.out.get 3 rfl) 5 rfl) b
      go_region_held3 (fun w' => Sx y7 w') ((change Below y7.heap.size y7 _; exact (by repeat' (first | with_reducible assumption | with_reducible exact Below.refl _ _ | with_reducible refine bel_alloc ?_ | with_reducible refine bel_drew ?_ | with_reducible refine bel_trans ?_ (by with_reducible assumption)))))
        (first
          | (go_at_call 23; refine (TS.out _ (bel_trans HS.out.below (by repeat' (first | with_reducible assumption | with_reducible exact Below.refl _ _ | with_reducible refine bel_alloc ?_ | with_reducible refine bel_drew ?_ | with_reducible refine bel_trans ?_ (by with_reducible assumption))))).mono ?_; rintro e w3 ⟨a, b, k, rfl, o3', b3⟩; obtain ⟨ao, ac, rfl⟩ := o3'.1.1.reads.form; obtain ⟨bo, bc, rfl⟩ := o3'.1.2.1.reads.form; obtain ⟨ko, kc, rfl⟩ := o3'.2.1.reads.form; have O3 : Hid (OwnR w3 _ (.slice ao xs0.length ac) (.slice bo ys0.length bc) (.slice ko r0.ks.length kc) xs0 ys0 r0.ks) := o3'; clear o3')
          | (go_at_call 24; refine (eqStore_any _ _ _ _ _ _ _ _ r0 _ ((HS.out.rA 1 rfl).below (by repeat' (first | with_reducible assumption | with_reducible exact Below.refl _ _ | with_reducible refine bel_alloc ?_ | with_reducible refine bel_drew ?_ | with_reducible refine bel_trans ?_ (by with_reducible assumption))) (Nat.le_refl _)) ((HS.out.rB 1 rfl).below (by repeat' (first | with_reducible assumption | with_reducible exact Below.refl _ _ | with_reducible refine bel_alloc ?_ | with_reducible refine bel_drew ?_ | with_reducible refine bel_trans ?_ (by with_reducible assumption))) (Nat.le_refl _)) ((HS.out.rK 1 rfl).below (by repeat' (first | with_reducible assumption | with_reducible exact Below.refl _ _ | with_reducible refine bel_alloc ?_ | with_reducible refine bel_drew ?_ | with_reducible refine bel_trans ?_ (by with_reducible assumption))) (Nat.le_refl _)) (O3.out.1.1.reads.below (by repeat' (first | with_reducible assumption | with_reducible exact Below.refl _ _ | with_reducible refine bel_alloc ?_ | with_reducible refine bel_drew ?_ | with_reducible refine bel_trans ?_ (by with_reducible assumption))) (Nat.le_refl _)) (O3.out.1.2.1.reads.below (by repeat' (first | with_reducible assumption | with_reducible exact Below.refl _ _ | with_reducible refine bel_alloc ?_ | with_reducible refine bel_drew ?_ | with_reducible refine bel_trans ?_ (by with_reducible assumption))) (Nat.le_refl _)) (O3.out.2.1.reads.below (by repeat' (first | with_reducible assumption | with_reducible exact Below.refl _ _ | with_reducible refine bel_alloc ?_ | with_reducible refine bel_drew ?_ | with_reducible refine bel_trans ?_ (by with_reducible assumption))) (Nat.le_refl _)) gx0 gy0 gk0).mono ?_; rintro e w4 ⟨rfl, b4⟩))
      have by8 : Below y7.heap.size y7 w4 := (by repeat' (first | with_reducible assumption | with_reducible exact Below.refl _ _ | with_reducible refine bel_alloc ?_ | with_reducible refine bel_drew ?_ | with_reducible refine bel_trans ?_ (by with_reducible assumption)))
      clear O3 b3 b4 m_vX_0 m_vX_1 m_vX_2 m_vX_3 m_vX_4 m_vX_5 m_S_0 m_S_1 m_S_2 m_S_3 m_S_4 m_S_5
      replace HS : Hid (Sta w w4 [Blk y5.heap.size 30 #[.slice aoX xs0.length acX, .slice boX ys0.length bcX, .slice koX r0.ks.length kcX, .int .i64 r0.kd, .int .i64 r0.ho, .int .i64 r0.tu], Sto (.slice aoX xs0.length acX) (.slice boX ys0.length bcX) (.slice koX r0.ks.length kcX) xs0 ys0 r0.ks, Sto (.slice aoT xs0.length acT) (.slice boT ys0.length bcT) (.slice koT r0.ks.length kcT) xs0 ys0 r0.ks, Blk w.heap.size 45 #[u0, v0, q0, .int .i64 r0.kd, .int .i64 r0.ho, .int .i64 r0.tu]]) := HS.out.next by8
      clear by8
      obtain ⟨y8, hy8⟩ : ∃ y8, y8 = w4 := ⟨_, rfl⟩
      rw [← hy8] at HS ⊢
      clear hy8
      have HB : Hid (Below w.heap.size w _) := HS.out.below
      clear HS
      go_wp2_with fail
      go_ret
      exact ⟨rfl, HB.out⟩
  · have hsz : szI 1048576 (xs0.length + ys0.length + r0.ks.length) = -1 := by simp only [szI]; rw [if_neg (by omega)]
    have b1 : Below w.heap.size w (w.alloc (.cells #[u0, v0, q0, .int .i64 r0.kd, .int .i64 r0.ho, .int .i64 r0.tu] 45)) := (Below.refl _ _).alloc (Nat.le_refl _) _
    have c1 := szStore_any u0 v0 q0 xs0 ys0 r0 1048576 _ (RX0.below b1 (Nat.le_refl _)) (RY0.below b1 (Nat.le_refl _)) (RQ0.below b1 (Nat.le_refl _)) (by omega) (by omega)
    rw [hsz] at c1
    clear hsz RX0 RY0 RQ0 hbig
    unfold SRV srA at c1 ⊢
    go_enter Try.func4, Try.ntmps4
    go_wp2_with fail
    refine c1.mono ?_
    rintro e w2 ⟨rfl, b2⟩
    replace b2 := b1.trans (b2.mono b1.size)
    clear b1 c1
    go_wp2_with fail
    go_ret
    exact ⟨rfl, b2⟩

set_option maxRecDepth 100000 in
theorem lifted (os : Os) (started : os.Started) (H : Type) (enc : TypeId × Value → H) :
    ReturnsInHanded {} Try.checked os 4 .any (Rows.fnExactStoreOkSpec.pre6 enc Try.prog Try.f4 Rows.fnExactStoreOkRow.domain false) (Rows.fnExactStoreOkSpec.post enc Try.prog Try.f4 false true false false) := by
  refine returnsInHanded_of_change (C := Try.checked) own started (by kernel_rfl) Try.func4
    (ChangeSpec.witness6 (enc := enc) (C := Try.checked) false ⟨#[], #[.agg #[.slice none 0 0, .slice none 0 0, .slice none 0 0, .int .i64 0, .int .i64 0, .int .i64 0]], []⟩ 8 (by kernel_rfl) (by kernel_rfl) (by kernel_rfl) (by kernel_rfl)) ?_
  intro W base args ds gs before hval0 hW hcnd _
  have hval : ∀ (j : Nat) t v, Try.f4.params[j]? = some t → args[j]? = some v → Value.okWide Try.prog W .any base t v := hval0
  have hW' := hW
  obtain ⟨p, q, hA0, hV, rfl, hfz, hnd⟩ := hW
  have hA : DataW.TrodAll enc Try.prog W 0 (fun _ => true) true Try.f4.params.toList args.toList ds p := hA0
  rw [Try.params4] at hA hval
  obtain ⟨v0, vs0, d0, ds0, p0, q0, hargs, rfl, rfl, h0, s0⟩ := trodAll_cons hA
  obtain ⟨rfl, rfl, rfl⟩ := trodAll_nil s0
  obtain rfl : args = #[v0] := by cases args; simp_all
  obtain ⟨rfl, rfl⟩ := trodVars_none hV
  have k0 := h0
  have lt0 : ∀ x ∈ p0, x.block < W.heap.size := by obtain ⟨m, hm⟩ := k0; exact DataW.trod_lt m _ _ _ hm
  obtain ⟨r0, u0, y0, z0, xs0, ys0, rfl, RX0, RY0, RQ0⟩ := open_store (hval 0 45 v0 rfl rfl) h0
  clear hA0 hval0
  refine (walk r0 u0 y0 z0 xs0 ys0 W RX0 RY0 RQ0).mono fun e W' ⟨he, bel⟩ => ?_
  subst he
  exact ⟨_, rfl, _, _, _, [], _, [], hW', trodAll_mk1 (shut_bool Try.underlying4 _), (trodAll_cons_mk (Below.trod laidOut (by kernel_rfl) (of_decide_eq_true (by kernel_rfl)) k0 bel lt0) trodAll_mk0), rfl, bel.frame _, fun h => by cases h⟩

theorem over : Rows.fnExactStoreOkRow.holds Try.pinned (OpenSpec.ofChange Rows.fnExactStoreOkSpec) :=
  OpenClaim.holds_of_wide 4 Try.f4 rfl rfl rfl rfl rfl rfl rfl ⟨rfl, rfl, rfl, rfl, rfl⟩ rfl rfl rfl rfl rfl (by kernel_rfl) Try.func4 (by kernel_rfl)
    (of_decide_eq_true (by kernel_rfl)) (by unfold Func.isWrapper; first | (rw [if_pos (by decide +kernel)]; kernel_rfl) | (rw [if_neg (by decide +kernel)]; exact ⟨rfl, rfl⟩))
    (fun os started H enc _ => lifted os started H enc)

theorem proved : Rows.FnExactStoreOkSaid := over
end Go.Proofs.Ytpdggofaobmnlaa.fnExactStoreOk
namespace Go.Proofs.Ytpdggofaobmnlaa
theorem fnExactStoreOk_holds : Rows.FnExactStoreOkSaid := fnExactStoreOk.proved
end Go.Proofs.Ytpdggofaobmnlaa
