/- At every two stores Alike of the program answers as Alike of the model, and leaves what it was given as it was: the law FnExactAlike returns true, whatever it is given. -/
import Derived.Test.YtpdggofaobmnlaaRows
import Derived.WalkKit
import Derived.ProofKit
import Derived.OpenShut
import Derived.ShutString
import Derived.ChangeOld
import Derived.Below
import Derived.Test.YtpdggofaobmnlaaM9
import Derived.Test.YtpdggofaobmnlaaStoSta
import Derived.Test.YtpdggofaobmnlaaSStore7
import Derived.Test.YtpdggofaobmnlaaIStoB
namespace Go.Proofs.Ytpdggofaobmnlaa.fnExactAlike
open Go.ChangeShapes Go.WideShapes Go.ChangeAt Go.RowKit
open Go.ChangeMaps (open_string shut_string)
set_option linter.unusedVariables false

theorem own : ownKnob Try.prog.godebug = none := by kernel_rfl
theorem laidOut : laidOutB Try.prog = true := by kernel_rfl

set_option maxRecDepth 20000 in
set_option maxHeartbeats 2000000 in
theorem walk (r0 : Hd) (u0 v0 q0 : Value) (xs0 ys0 : List Int) (r1 : Hd) (u1 v1 q1 : Value) (xs1 ys1 : List Int) (w : World) (RX0 : Reads w u0 xs0) (RY0 : Reads w v0 ys0) (RQ0 : Reads w q0 r0.ks) (RX1 : Reads w u1 xs1) (RY1 : Reads w v1 ys1) (RQ1 : Reads w q1 r1.ks) :
    Calls Try.prog 7 #[SRV u0 v0 q0 r0, SRV u1 v1 q1 r1] w fun e w' => e = .returned (.bool true) ∧ Below w.heap.size w w' := by
  by_cases hbig : (xs0.length + ys0.length + r0.ks.length : Int) ≤ 1048576
  · have hsz : szI 1048576 (xs0.length + ys0.length + r0.ks.length) = 1048576 - (xs0.length + ys0.length + r0.ks.length : Nat) := by simp only [szI]; rw [if_pos (by omega)]
    obtain ⟨w1, hw1⟩ : ∃ w1, w1 = (w.alloc (.cells #[u0, v0, q0, .int .i64 r0.kd, .int .i64 r0.ho, .int .i64 r0.tu] 45)).alloc (.cells #[u1, v1, q1, .int .i64 r1.kd, .int .i64 r1.ho, .int .i64 r1.tu] 45) := ⟨_, rfl⟩
    have hs1 := ((Sta.start w).box 45 #[u0, v0, q0, .int .i64 r0.kd, .int .i64 r0.ho, .int .i64 r0.tu]).box 45 #[u1, v1, q1, .int .i64 r1.kd, .int .i64 r1.ho, .int .i64 r1.tu]
    rw [World.size_alloc, ← hw1] at hs1
    have HS : Hid (Sta w w1 [Blk (w.heap.size + 1) 45 #[u1, v1, q1, .int .i64 r1.kd, .int .i64 r1.ho, .int .i64 r1.tu], Blk w.heap.size 45 #[u0, v0, q0, .int .i64 r0.kd, .int .i64 r0.ho, .int .i64 r0.tu]]) := hs1
    have c1 := szStore_any u0 v0 q0 xs0 ys0 r0 1048576 w1 (RX0.below HS.out.below (Nat.le_refl _)) (RY0.below HS.out.below (Nat.le_refl _)) (RQ0.below HS.out.below (Nat.le_refl _)) (by omega) (by omega)
    rw [hsz] at c1
    unfold SRV srA at c1 ⊢
    have c2 : Hid (∀ wx, Below w.heap.size w wx → Calls Try.prog 22 #[.agg #[u1, v1, q1, .int .i64 r1.kd, .int .i64 r1.ho, .int .i64 r1.tu], .int .i64 (1048576 - (xs0.length + ys0.length + r0.ks.length : Nat))] wx fun e w' => e = .returned (.int .i64 (szI (1048576 - (xs0.length + ys0.length + r0.ks.length : Nat)) (xs1.length + ys1.length + r1.ks.length))) ∧ Below wx.heap.size wx w') := fun wx b => szStore_any u1 v1 q1 xs1 ys1 r1 (1048576 - (xs0.length + ys0.length + r0.ks.length : Nat)) wx (RX1.below b (Nat.le_refl _)) (RY1.below b (Nat.le_refl _)) (RQ1.below b (Nat.le_refl _)) (by omega) (by omega)
    have hm0 : (0 : Int) ≤ 1048576 - (xs0.length + ys0.length + r0.ks.length : Nat) := by omega
    obtain ⟨lf, hlf⟩ : ∃ lf : Int, lf = 1048576 - (xs0.length + ys0.length + r0.ks.length : Nat) := ⟨_, rfl⟩
    rw [← hlf] at c1 c2 hm0 hsz
    by_cases hb2 : (xs1.length + ys1.length + r1.ks.length : Int) ≤ lf
    · have hs2 : szI lf (xs1.length + ys1.length + r1.ks.length) = lf - (xs1.length + ys1.length + r1.ks.length : Nat) := by simp only [szI]; rw [if_pos (by omega)]
      rw [hs2] at c2
      have hm2 : (0 : Int) ≤ lf - (xs1.length + ys1.length + r1.ks.length : Nat) := by omega
      obtain ⟨lg, hlg⟩ : ∃ lg : Int, lg = lf - (xs1.length + ys1.length + r1.ks.length : Nat) := ⟨_, rfl⟩
      rw [← hlg] at c2 hm2
      have gx0 : xs0.length ≤ 1099511627776 := by omega
      have gy0 : ys0.length ≤ 1099511627776 := by omega
      have gk0 : r0.ks.length ≤ 1099511627776 := by omega
      have sx0 : xs0.length ≤ 1048576 := by omega
      have sy0 : ys0.length ≤ 1048576 := by omega
      have sk0 : r0.ks.length ≤ 1048576 := by omega
      have gx1 : xs1.length ≤ 1099511627776 := by omega
      have gy1 : ys1.length ≤ 1099511627776 := by omega
      have gk1 : r1.ks.length ≤ 1099511627776 := by omega
      have sx1 : xs1.length ≤ 1048576 := by omega
      have sy1 : ys1.length ≤ 1048576 := by omega
      have sk1 : r1.ks.length ≤ 1048576 := by omega
      replace RX0 : Hid (Reads w u0 xs0) := RX0
      replace RY0 : Hid (Reads w v0 ys0) := RY0
      replace RQ0 : Hid (Reads w q0 r0.ks) := RQ0
      replace RX1 : Hid (Reads w u1 xs1) := RX1
      replace RY1 : Hid (Reads w v1 ys1) := RY1
      replace RQ1 : Hid (Reads w q1 r1.ks) := RQ1
      have TS : Hid (∀ wx, Below w.heap.size w wx → Calls Try.prog 23 #[.agg #[u0, v0, q0, .int .i64 r0.kd, .int .i64 r0.ho, .int .i64 r0.tu]] wx fun e w' => ∃ a b k, e = .returned (.agg #[a, b, k, .int .i64 r0.kd, .int .i64 r0.ho, .int .i64 r0.tu]) ∧ OwnR w' wx.heap.size a b k xs0 ys0 r0.ks ∧ Below wx.heap.size wx w') := fun wx b => toStore_any u0 v0 q0 xs0 ys0 r0 wx (RX0.out.below b (Nat.le_refl _)) (RY0.out.below b (Nat.le_refl _)) (RQ0.out.below b (Nat.le_refl _)) gx0 gy0 gk0
      have TR : Hid (∀ wx, Below w.heap.size w wx → Calls Try.prog 23 #[.agg #[u1, v1, q1, .int .i64 r1.kd, .int .i64 r1.ho, .int .i64 r1.tu]] wx fun e w' => ∃ a b k, e = .returned (.agg #[a, b, k, .int .i64 r1.kd, .int .i64 r1.ho, .int .i64 r1.tu]) ∧ OwnR w' wx.heap.size a b k xs1 ys1 r1.ks ∧ Below wx.heap.size wx w') := fun wx b => toStore_any u1 v1 q1 xs1 ys1 r1 wx (RX1.out.below b (Nat.le_refl _)) (RY1.out.below b (Nat.le_refl _)) (RQ1.out.below b (Nat.le_refl _)) gx1 gy1 gk1
      have SD' := fun wx a b k a' b' k' h1 h2 h3 h4 h5 h6 => salike_any a b k a' b' k' xs0 ys0 xs1 ys1 r0 r1 wx h1 h2 h3 h4 h5 h6 gx0 gy0 gk0 gx1 gy1 gk1
      have ID' := fun wx a b k a' b' k' h1 h2 h3 h4 h5 h6 => ialike_any a b k a' b' k' xs0 ys0 xs1 ys1 r0 r1 wx h1 h2 h3 h4 h5 h6 gx0 gy0 gk0 gx1 gy1 gk1
      obtain ⟨ok, hok⟩ : ∃ ok, ok = Sr.alike ⟨xs0, ys0, r0⟩ ⟨xs1, ys1, r1⟩ := ⟨_, rfl⟩
      rw [← hok] at SD' ID'
      have SD : Hid (∀ wx a b k a' b' k', Reads wx a xs0 → Reads wx b ys0 → Reads wx k r0.ks → Reads wx a' xs1 → Reads wx b' ys1 → Reads wx k' r1.ks → Calls Try.prog 15 #[.agg #[a, b, k, .int .i64 r0.kd, .int .i64 r0.ho, .int .i64 r0.tu], .agg #[a', b', k', .int .i64 r1.kd, .int .i64 r1.ho, .int .i64 r1.tu]] wx fun e w' => e = .returned (.bool ok) ∧ Below wx.heap.size wx w') := SD'
      have ID : Hid (∀ wx a b k a' b' k', Reads wx a xs0 → Reads wx b ys0 → Reads wx k r0.ks → Reads wx a' xs1 → Reads wx b' ys1 → Reads wx k' r1.ks → Calls Try.prog 14 #[.agg #[a, b, k, .int .i64 r0.kd, .int .i64 r0.ho, .int .i64 r0.tu], .agg #[a', b', k', .int .i64 r1.kd, .int .i64 r1.ho, .int .i64 r1.tu]] wx fun e w' => e = .returned (.bool ok) ∧ Below wx.heap.size wx w') := ID'
      clear hok SD' ID' hsz hs2 hlf hlg hbig hb2
      go_enter Try.func7, Try.ntmps7
      go_wp2_with fail
      rw [← hw1]
      clear hw1
      refine (c1).mono ?_
      rintro e w2 ⟨rfl, b2⟩
      replace HS : Hid (Sta w w2 [Blk (w.heap.size + 1) 45 #[u1, v1, q1, .int .i64 r1.kd, .int .i64 r1.ho, .int .i64 r1.tu], Blk w.heap.size 45 #[u0, v0, q0, .int .i64 r0.kd, .int .i64 r0.ho, .int .i64 r0.tu]]) := HS.out.next b2
      clear b2 c1 hs1
      have p0 : w2.cell? ⟨w.heap.size + 1, 0, none⟩ = some u1 := Blk.cell (HS.out.get 0 rfl) 0 rfl
      have p1 : w2.cell? ⟨w.heap.size + 1, 1, none⟩ = some v1 := Blk.cell (HS.out.get 0 rfl) 1 rfl
      have p2 : w2.cell? ⟨w.heap.size + 1, 2, none⟩ = some q1 := Blk.cell (HS.out.get 0 rfl) 2 rfl
      have p3 : w2.cell? ⟨w.heap.size + 1, 3, none⟩ = some (.int .i64 r1.kd) := Blk.cell (HS.out.get 0 rfl) 3 rfl
      have p4 : w2.cell? ⟨w.heap.size + 1, 4, none⟩ = some (.int .i64 r1.ho) := Blk.cell (HS.out.get 0 rfl) 4 rfl
      have p5 : w2.cell? ⟨w.heap.size + 1, 5, none⟩ = some (.int .i64 r1.tu) := Blk.cell (HS.out.get 0 rfl) 5 rfl
      go_wp2_with fail
      refine (c2.out _ HS.out.below).mono ?_
      rintro e w3 ⟨rfl, b3⟩
      replace HS : Hid (Sta w w3 [Blk (w.heap.size + 1) 45 #[u1, v1, q1, .int .i64 r1.kd, .int .i64 r1.ho, .int .i64 r1.tu], Blk w.heap.size 45 #[u0, v0, q0, .int .i64 r0.kd, .int .i64 r0.ho, .int .i64 r0.tu]]) := HS.out.next b3
      clear b3 c2 p0 p1 p2 p3 p4 p5
      go_upto_region 8 with fail
      have m_S_0 : ∀ w', Sx w3 w' → w'.cell? ⟨w.heap.size, 0, none⟩ = some (u0) := fun w' b => later_cell (w := w3) (Blk.cell (HS.out.get 1 rfl) 0 rfl) b
      have m_S_1 : ∀ w', Sx w3 w' → w'.cell? ⟨w.heap.size, 1, none⟩ = some (v0) := fun w' b => later_cell (w := w3) (Blk.cell (HS.out.get 1 rfl) 1 rfl) b
      have m_S_2 : ∀ w', Sx w3 w' → w'.cell? ⟨w.heap.size, 2, none⟩ = some (q0) := fun w' b => later_cell (w := w3) (Blk.cell (HS.out.get 1 rfl) 2 rfl) b
      have m_S_3 : ∀ w', Sx w3 w' → w'.cell? ⟨w.heap.size, 3, none⟩ = some (.int .i64 r0.kd) := fun w' b => later_cell (w := w3) (Blk.cell (HS.out.get 1 rfl) 3 rfl) b
      have m_S_4 : ∀ w', Sx w3 w' → w'.cell? ⟨w.heap.size, 4, none⟩ = some (.int .i64 r0.ho) := fun w' b => later_cell (w := w3) (Blk.cell (HS.out.get 1 rfl) 4 rfl) b
      have m_S_5 : ∀ w', Sx w3 w' → w'.cell? ⟨w.heap.size, 5, none⟩ = some (.int .i64 r0.tu) := fun w' b => later_cell (w := w3) (Blk.cell (HS.out.get 1 rfl) 5 rfl) b
      have m_R_0 : ∀ w', Sx w3 w' → w'.cell? ⟨w.heap.size + 1, 0, none⟩ = some (u1) := fun w' b => later_cell (w := w3) (Blk.cell (HS.out.get 0 rfl) 0 rfl) b
      have m_R_1 : ∀ w', Sx w3 w' → w'.cell? ⟨w.heap.size + 1, 1, none⟩ = some (v1) := fun w' b => later_cell (w := w3) (Blk.cell (HS.out.get 0 rfl) 1 rfl) b
      have m_R_2 : ∀ w', Sx w3 w' → w'.cell? ⟨w.heap.size + 1, 2, none⟩ = some (q1) := fun w' b => later_cell (w := w3) (Blk.cell (HS.out.get 0 rfl) 2 rfl) b
      have m_R_3 : ∀ w', Sx w3 w' → w'.cell? ⟨w.heap.size + 1, 3, none⟩ = some (.int .i64 r1.kd) := fun w' b => later_cell (w := w3) (Blk.cell (HS.out.get 0 rfl) 3 rfl) b
      have m_R_4 : ∀ w', Sx w3 w' → w'.cell? ⟨w.heap.size + 1, 4, none⟩ = some (.int .i64 r1.ho) := fun w' b => later_cell (w := w3) (Blk.cell (HS.out.get 0 rfl) 4 rfl) b
      have m_R_5 : ∀ w', Sx w3 w' → w'.cell? ⟨w.heap.size + 1, 5, none⟩ = some (.int .i64 r1.tu) := fun w' b => later_cell (w := w3) (Blk.cell (HS.out.get 0 rfl) 5 rfl) b
      go_region_held3 (fun w' => Sx w3 w') ((change Below w3.heap.size w3 _; exact (by repeat' (first | with_reducible assumption | with_reducible exact Below.refl _ _ | with_reducible refine bel_alloc ?_ | with_reducible refine bel_drew ?_ | with_reducible refine bel_trans ?_ (by with_reducible assumption)))))
        (first
          | (go_at_call_of 23 (Value.agg #[u0, v0, q0, Value.int IntKind.i64 r0.kd, Value.int IntKind.i64 r0.ho, Value.int IntKind.i64 r0.tu]); refine (TS.out _ (bel_trans HS.out.below (by repeat' (first | with_reducible assumption | with_reducible exact Below.refl _ _ | with_reducible refine bel_alloc ?_ | with_reducible refine bel_drew ?_ | with_reducible refine bel_trans ?_ (by with_reducible assumption))))).mono ?_; rintro e we ⟨aE, bE, kE, rfl, oE', cE⟩; obtain ⟨aoE, acE, rfl⟩ := oE'.1.1.reads.form; obtain ⟨boE, bcE, rfl⟩ := oE'.1.2.1.reads.form; obtain ⟨koE, kcE, rfl⟩ := oE'.2.1.reads.form; have OE : Hid (OwnR we _ (.slice aoE xs0.length acE) (.slice boE ys0.length bcE) (.slice koE r0.ks.length kcE) xs0 ys0 r0.ks) := oE'; clear oE')
          | (go_at_call_of 23 (Value.agg #[u1, v1, q1, Value.int IntKind.i64 r1.kd, Value.int IntKind.i64 r1.ho, Value.int IntKind.i64 r1.tu]); refine (TR.out _ (bel_trans HS.out.below (by repeat' (first | with_reducible assumption | with_reducible exact Below.refl _ _ | with_reducible refine bel_alloc ?_ | with_reducible refine bel_drew ?_ | with_reducible refine bel_trans ?_ (by with_reducible assumption))))).mono ?_; rintro e wf ⟨aF, bF, kF, rfl, oF', cF⟩; obtain ⟨aoF, acF, rfl⟩ := oF'.1.1.reads.form; obtain ⟨boF, bcF, rfl⟩ := oF'.1.2.1.reads.form; obtain ⟨koF, kcF, rfl⟩ := oF'.2.1.reads.form; have OF : Hid (OwnR wf _ (.slice aoF xs1.length acF) (.slice boF ys1.length bcF) (.slice koF r1.ks.length kcF) xs1 ys1 r1.ks) := oF'; clear oF')
          | (go_at_call 15; refine (SD.out _ _ _ _ _ _ _ (OE.out.1.1.reads.below (by repeat' (first | with_reducible assumption | with_reducible exact Below.refl _ _ | with_reducible refine bel_alloc ?_ | with_reducible refine bel_drew ?_ | with_reducible refine bel_trans ?_ (by with_reducible assumption))) (Nat.le_refl _)) (OE.out.1.2.1.reads.below (by repeat' (first | with_reducible assumption | with_reducible exact Below.refl _ _ | with_reducible refine bel_alloc ?_ | with_reducible refine bel_drew ?_ | with_reducible refine bel_trans ?_ (by with_reducible assumption))) (Nat.le_refl _)) (OE.out.2.1.reads.below (by repeat' (first | with_reducible assumption | with_reducible exact Below.refl _ _ | with_reducible refine bel_alloc ?_ | with_reducible refine bel_drew ?_ | with_reducible refine bel_trans ?_ (by with_reducible assumption))) (Nat.le_refl _)) (OF.out.1.1.reads.below (by repeat' (first | with_reducible assumption | with_reducible exact Below.refl _ _ | with_reducible refine bel_alloc ?_ | with_reducible refine bel_drew ?_ | with_reducible refine bel_trans ?_ (by with_reducible assumption))) (Nat.le_refl _)) (OF.out.1.2.1.reads.below (by repeat' (first | with_reducible assumption | with_reducible exact Below.refl _ _ | with_reducible refine bel_alloc ?_ | with_reducible refine bel_drew ?_ | with_reducible refine bel_trans ?_ (by with_reducible assumption))) (Nat.le_refl _)) (OF.out.2.1.reads.below (by repeat' (first | with_reducible assumption | with_reducible exact Below.refl _ _ | with_reducible refine bel_alloc ?_ | with_reducible refine bel_drew ?_ | with_reducible refine bel_trans ?_ (by with_reducible assumption))) (Nat.le_refl _))).mono ?_; rintro e wz ⟨rfl, bz⟩))
      all_goals
        have by3 : Below w3.heap.size w3 wz := (by repeat' (first | with_reducible assumption | with_reducible exact Below.refl _ _ | with_reducible refine bel_alloc ?_ | with_reducible refine bel_drew ?_ | with_reducible refine bel_trans ?_ (by with_reducible assumption)))
        clear OE OF cE cF bz m_S_0 m_S_1 m_S_2 m_S_3 m_S_4 m_S_5 m_R_0 m_R_1 m_R_2 m_R_3 m_R_4 m_R_5
        replace HS : Hid (Sta w wz [Blk (w.heap.size + 1) 45 #[u1, v1, q1, .int .i64 r1.kd, .int .i64 r1.ho, .int .i64 r1.tu], Blk w.heap.size 45 #[u0, v0, q0, .int .i64 r0.kd, .int .i64 r0.ho, .int .i64 r0.tu]]) := HS.out.next by3
        clear by3
        obtain ⟨y3, hy3⟩ : ∃ y3, y3 = wz := ⟨_, rfl⟩
        rw [← hy3] at HS ⊢
        clear hy3
        have p_S_0 : y3.cell? ⟨w.heap.size, 0, none⟩ = some (u0) := Blk.cell (HS.out.get 1 rfl) 0 rfl
        have p_S_1 : y3.cell? ⟨w.heap.size, 1, none⟩ = some (v0) := Blk.cell (HS.out.get 1 rfl) 1 rfl
        have p_S_2 : y3.cell? ⟨w.heap.size, 2, none⟩ = some (q0) := Blk.cell (HS.out.get 1 rfl) 2 rfl
        have p_S_3 : y3.cell? ⟨w.heap.size, 3, none⟩ = some (.int .i64 r0.kd) := Blk.cell (HS.out.get 1 rfl) 3 rfl
        have p_S_4 : y3.cell? ⟨w.heap.size, 4, none⟩ = some (.int .i64 r0.ho) := Blk.cell (HS.out.get 1 rfl) 4 rfl
        have p_S_5 : y3.cell? ⟨w.heap.size, 5, none⟩ = some (.int .i64 r0.tu) := Blk.cell (HS.out.get 1 rfl) 5 rfl
        go_wp2_with fail
        clear p_S_0 p_S_1 p_S_2 p_S_3 p_S_4 p_S_5
        refine (TS.out _ HS.out.below).mono ?_
        rintro e y4 ⟨aX, bX, kX, rfl, oy4, by4⟩
        obtain ⟨aoX, acX, rfl⟩ := oy4.1.1.reads.form
        obtain ⟨boX, bcX, rfl⟩ := oy4.1.2.1.reads.form
        obtain ⟨koX, kcX, rfl⟩ := oy4.2.1.reads.form
        replace HS : Hid (Sta w y4 [Sto (.slice aoX xs0.length acX) (.slice boX ys0.length bcX) (.slice koX r0.ks.length kcX) xs0 ys0 r0.ks, Blk (w.heap.size + 1) 45 #[u1, v1, q1, .int .i64 r1.kd, .int .i64 r1.ho, .int .i64 r1.tu], Blk w.heap.size 45 #[u0, v0, q0, .int .i64 r0.kd, .int .i64 r0.ho, .int .i64 r0.tu]]) := HS.out.store oy4 by4
        clear oy4 by4
        obtain ⟨y5, hy5⟩ : ∃ y5, y5 = y4.alloc (.cells #[.slice aoX xs0.length acX, .slice boX ys0.length bcX, .slice koX r0.ks.length kcX, .int .i64 r0.kd, .int .i64 r0.ho, .int .i64 r0.tu] 30) := ⟨_, rfl⟩
        replace HS : Hid (Sta w y5 [Blk y4.heap.size 30 #[.slice aoX xs0.length acX, .slice boX ys0.length bcX, .slice koX r0.ks.length kcX, .int .i64 r0.kd, .int .i64 r0.ho, .int .i64 r0.tu], Sto (.slice aoX xs0.length acX) (.slice boX ys0.length bcX) (.slice koX r0.ks.length kcX) xs0 ys0 r0.ks, Blk (w.heap.size + 1) 45 #[u1, v1, q1, .int .i64 r1.kd, .int .i64 r1.ho, .int .i64 r1.tu], Blk w.heap.size 45 #[u0, v0, q0, .int .i64 r0.kd, .int .i64 r0.ho, .int .i64 r0.tu]]) := by rw [hy5]; exact HS.out.box _ _
        go_upto_region 10 with fail
        rw [← hy5]
        clear hy5
        have p_R_0 : y5.cell? ⟨w.heap.size + 1, 0, none⟩ = some (u1) := Blk.cell (HS.out.get 2 rfl) 0 rfl
        have p_R_1 : y5.cell? ⟨w.heap.size + 1, 1, none⟩ = some (v1) := Blk.cell (HS.out.get 2 rfl) 1 rfl
        have p_R_2 : y5.cell? ⟨w.heap.size + 1, 2, none⟩ = some (q1) := Blk.cell (HS.out.get 2 rfl) 2 rfl
        have p_R_3 : y5.cell? ⟨w.heap.size + 1, 3, none⟩ = some (.int .i64 r1.kd) := Blk.cell (HS.out.get 2 rfl) 3 rfl
        have p_R_4 : y5.cell? ⟨w.heap.size + 1, 4, none⟩ = some (.int .i64 r1.ho) := Blk.cell (HS.out.get 2 rfl) 4 rfl
        have p_R_5 : y5.cell? ⟨w.heap.size + 1, 5, none⟩ = some (.int .i64 r1.tu) := Blk.cell (HS.out.get 2 rfl) 5 rfl
        go_wp2_with fail
        clear p_R_0 p_R_1 p_R_2 p_R_3 p_R_4 p_R_5
        refine (TR.out _ HS.out.below).mono ?_
        rintro e y6 ⟨aY, bY, kY, rfl, oy6, by6⟩
        obtain ⟨aoY, acY, rfl⟩ := oy6.1.1.reads.form
        obtain ⟨boY, bcY, rfl⟩ := oy6.1.2.1.reads.form
        obtain ⟨koY, kcY, rfl⟩ := oy6.2.1.reads.form
        replace HS : Hid (Sta w y6 [Sto (.slice aoY xs1.length acY) (.slice boY ys1.length bcY) (.slice koY r1.ks.length kcY) xs1 ys1 r1.ks, Blk y4.heap.size 30 #[.slice aoX xs0.length acX, .slice boX ys0.length bcX, .slice koX r0.ks.length kcX, .int .i64 r0.kd, .int .i64 r0.ho, .int .i64 r0.tu], Sto (.slice aoX xs0.length acX) (.slice boX ys0.length bcX) (.slice koX r0.ks.length kcX) xs0 ys0 r0.ks, Blk (w.heap.size + 1) 45 #[u1, v1, q1, .int .i64 r1.kd, .int .i64 r1.ho, .int .i64 r1.tu], Blk w.heap.size 45 #[u0, v0, q0, .int .i64 r0.kd, .int .i64 r0.ho, .int .i64 r0.tu]]) := HS.out.store oy6 by6
        clear oy6 by6
        obtain ⟨y7, hy7⟩ : ∃ y7, y7 = y6.alloc (.cells #[.slice aoY xs1.length acY, .slice boY ys1.length bcY, .slice koY r1.ks.length kcY, .int .i64 r1.kd, .int .i64 r1.ho, .int .i64 r1.tu] 30) := ⟨_, rfl⟩
        replace HS : Hid (Sta w y7 [Blk y6.heap.size 30 #[.slice aoY xs1.length acY, .slice boY ys1.length bcY, .slice koY r1.ks.length kcY, .int .i64 r1.kd, .int .i64 r1.ho, .int .i64 r1.tu], Sto (.slice aoY xs1.length acY) (.slice boY ys1.length bcY) (.slice koY r1.ks.length kcY) xs1 ys1 r1.ks, Blk y4.heap.size 30 #[.slice aoX xs0.length acX, .slice boX ys0.length bcX, .slice koX r0.ks.length kcX, .int .i64 r0.kd, .int .i64 r0.ho, .int .i64 r0.tu], Sto (.slice aoX xs0.length acX) (.slice boX ys0.length bcX) (.slice koX r0.ks.length kcX) xs0 ys0 r0.ks, Blk (w.heap.size + 1) 45 #[u1, v1, q1, .int .i64 r1.kd, .int .i64 r1.ho, .int .i64 r1.tu], Blk w.heap.size 45 #[u0, v0, q0, .int .i64 r0.kd, .int .i64 r0.ho, .int .i64 r0.tu]]) := by rw [hy7]; exact HS.out.box _ _
        go_upto_region 11 with fail
        rw [← hy7]
        clear hy7
        have p_vX_0 : y7.cell? ⟨y4.heap.size, 0, none⟩ = some (.slice aoX xs0.length acX) := Blk.cell (HS.out.get 2 rfl) 0 rfl
        have p_vX_1 : y7.cell? ⟨y4.heap.size, 1, none⟩ = some (.slice boX ys0.length bcX) := Blk.cell (HS.out.get 2 rfl) 1 rfl
        have p_vX_2 : y7.cell? ⟨y4.heap.size, 2, none⟩ = some (.slice koX r0.ks.length kcX) := Blk.cell (HS.out.get 2 rfl) 2 rfl
        have p_vX_3 : y7.cell? ⟨y4.heap.size, 3, none⟩ = some (.int .i64 r0.kd) := Blk.cell (HS.out.get 2 rfl) 3 rfl
        have p_vX_4 : y7.cell? ⟨y4.heap.size, 4, none⟩ = some (.int .i64 r0.ho) := Blk.cell (HS.out.get 2 rfl) 4 rfl
        have p_vX_5 : y7.cell? ⟨y4.heap.size, 5, none⟩ = some (.int .i64 r0.tu) := Blk.cell (HS.out.get 2 rfl) 5 rfl
        have p_vY_0 : y7.cell? ⟨y6.heap.size, 0, none⟩ = some (.slice aoY xs1.length acY) := Blk.cell (HS.out.get 0 rfl) 0 rfl
        have p_vY_1 : y7.cell? ⟨y6.heap.size, 1, none⟩ = some (.slice boY ys1.length bcY) := Blk.cell (HS.out.get 0 rfl) 1 rfl
        have p_vY_2 : y7.cell? ⟨y6.heap.size, 2, none⟩ = some (.slice koY r1.ks.length kcY) := Blk.cell (HS.out.get 0 rfl) 2 rfl
        have p_vY_3 : y7.cell? ⟨y6.heap.size, 3, none⟩ = some (.int .i64 r1.kd) := Blk.cell (HS.out.get 0 rfl) 3 rfl
        have p_vY_4 : y7.cell? ⟨y6.heap.size, 4, none⟩ = some (.int .i64 r1.ho) := Blk.cell (HS.out.get 0 rfl) 4 rfl
        have p_vY_5 : y7.cell? ⟨y6.heap.size, 5, none⟩ = some (.int .i64 r1.tu) := Blk.cell (HS.out.get 0 rfl) 5 rfl
        go_wp2_with fail
        clear p_vX_0 p_vX_1 p_vX_2 p_vX_3 p_vX_4 p_vX_5 p_vY_0 p_vY_1 p_vY_2 p_vY_3 p_vY_4 p_vY_5
        refine (ID.out _ _ _ _ _ _ _ (HS.out.rA 3 rfl) (HS.out.rB 3 rfl) (HS.out.rK 3 rfl) (HS.out.rA 1 rfl) (HS.out.rB 1 rfl) (HS.out.rK 1 rfl)).mono ?_
        rintro e y8 ⟨rfl, by8⟩
        replace HS : Hid (Sta w y8 [Blk y6.heap.size 30 #[.slice aoY xs1.length acY, .slice boY ys1.length bcY, .slice koY r1.ks.length kcY, .int .i64 r1.kd, .int .i64 r1.ho, .int .i64 r1.tu], Sto (.slice aoY xs1.length acY) (.slice boY ys1.length bcY) (.slice koY r1.ks.length kcY) xs1 ys1 r1.ks, Blk y4.heap.size 30 #[.slice aoX xs0.length acX, .slice boX ys0.length bcX, .slice koX r0.ks.length kcX, .int .i64 r0.kd, .int .i64 r0.ho, .int .i64 r0.tu], Sto (.slice aoX xs0.length acX) (.slice boX ys0.length bcX) (.slice koX r0.ks.length kcX) xs0 ys0 r0.ks, Blk (w.heap.size + 1) 45 #[u1, v1, q1, .int .i64 r1.kd, .int .i64 r1.ho, .int .i64 r1.tu], Blk w.heap.size 45 #[u0, v0, q0, .int .i64 r0.kd, .int .i64 r0.ho, .int .i64 r0.tu]]) := HS.out.next by8
        clear by8
        cases ok
        all_goals
          go_upto_region 14 with fail
          have m_vX_0 : ∀ w', Sx y8 w' → w'.cell? ⟨y4.heap.size, 0, none⟩ = some (.slice aoX xs0.length acX) := fun w' b => later_cell (w := y8) (Blk.cell (HS.out.get 2 rfl) 0 rfl) b
          have m_vX_1 : ∀ w', Sx y8 w' → w'.cell? ⟨y4.heap.size, 1, none⟩ = some (.slice boX ys0.length bcX) := fun w' b => later_cell (w := y8) (Blk.cell (HS.out.get 2 rfl) 1 rfl) b
          have m_vX_2 : ∀ w', Sx y8 w' → w'.cell? ⟨y4.heap.size, 2, none⟩ = some (.slice koX r0.ks.length kcX) := fun w' b => later_cell (w := y8) (Blk.cell (HS.out.get 2 rfl) 2 rfl) b
          have m_vX_3 : ∀ w', Sx y8 w' → w'.cell? ⟨y4.heap.size, 3, none⟩ = some (.int .i64 r0.kd) := fun w' b => later_cell (w := y8) (Blk.cell (HS.out.get 2 rfl) 3 rfl) b
          have m_vX_4 : ∀ w', Sx y8 w' → w'.cell? ⟨y4.heap.size, 4, none⟩ = some (.int .i64 r0.ho) := fun w' b => later_cell (w := y8) (Blk.cell (HS.out.get 2 rfl) 4 rfl) b
          have m_vX_5 : ∀ w', Sx y8 w' → w'.cell? ⟨y4.heap.size, 5, none⟩ = some (.int .i64 r0.tu) := fun w' b => later_cell (w := y8) (Blk.cell (HS.out.get 2 rfl) 5 rfl) b
          have m_S_0 : ∀ w', Sx y8 w' → w'.cell? ⟨w.heap.size, 0, none⟩ = some (u0) := fun w' b => later_cell (w := y8) (Blk.cell (HS.out.get 5 rfl) 0 rfl) b
          have m_S_1 : ∀ w', Sx y8 w' → w'.cell? ⟨w.heap.size, 1, none⟩ = some (v0) := fun w' b => later_cell (w := y8) (Blk.cell (HS.out.get 5 rfl) 1 rfl) b
          have m_S_2 : ∀ w', Sx y8 w' → w'.cell? ⟨w.heap.size, 2, none⟩ = some (q0) := fun w' b => later_cell (w := y8) (Blk.cell (HS.out.get 5 rfl) 2 rfl) b
          have m_S_3 : ∀ w', Sx y8 w' → w'.cell? ⟨w.heap.size, 3, none⟩ = some (.int .i64 r0.kd) := fun w' b => later_cell (w := y8) (Blk.cell (HS.out.get 5 rfl) 3 rfl) b
          have m_S_4 : ∀ w', Sx y8 w' → w'.cell? ⟨w.heap.size, 4, none⟩ = some (.int .i64 r0.ho) := fun w' b => later_cell (w := y8) (Blk.cell (HS.out.get 5 rfl) 4 rfl) b
          have m_S_5 : ∀ w', Sx y8 w' → w'.cell? ⟨w.heap.size, 5, none⟩ = some (.int .i64 r0.tu) := fun w' b => later_cell (w := y8) (Blk.cell (HS.out.get 5 rfl) 5 rfl) b
          go_region_held3 (fun w' => Sx y8 w') ((change Below y8.heap.size y8 _; exact (by repeat' (first | with_reducible assumption | with_reducible exact Below.refl _ _ | with_reducible refine bel_alloc ?_ | with_reducible refine bel_drew ?_ | with_reducible refine bel_trans ?_ (by with_reducible assumption)))))
            (first
              | (go_at_call 23; refine (TS.out _ (bel_trans HS.out.below (by repeat' (first | with_reducible assumption | with_reducible exact Below.refl _ _ | with_reducible refine bel_alloc ?_ | with_reducible refine bel_drew ?_ | with_reducible refine bel_trans ?_ (by with_reducible assumption))))).mono ?_; rintro e w3 ⟨a, b, k, rfl, o3', b3⟩; obtain ⟨ao, ac, rfl⟩ := o3'.1.1.reads.form; obtain ⟨bo, bc, rfl⟩ := o3'.1.2.1.reads.form; obtain ⟨ko, kc, rfl⟩ := o3'.2.1.reads.form; have O3 : Hid (OwnR w3 _ (.slice ao xs0.length ac) (.slice bo ys0.length bc) (.slice ko r0.ks.length kc) xs0 ys0 r0.ks) := o3'; clear o3')
              | (go_at_call 24; refine (eqStore_any _ _ _ _ _ _ _ _ r0 _ ((HS.out.rA 3 rfl).below (by repeat' (first | with_reducible assumption | with_reducible exact Below.refl _ _ | with_reducible refine bel_alloc ?_ | with_reducible refine bel_drew ?_ | with_reducible refine bel_trans ?_ (by with_reducible assumption))) (Nat.le_refl _)) ((HS.out.rB 3 rfl).below (by repeat' (first | with_reducible assumption | with_reducible exact Below.refl _ _ | with_reducible refine bel_alloc ?_ | with_reducible refine bel_drew ?_ | with_reducible refine bel_trans ?_ (by with_reducible assumption))) (Nat.le_refl _)) ((HS.out.rK 3 rfl).below (by repeat' (first | with_reducible assumption | with_reducible exact Below.refl _ _ | with_reducible refine bel_alloc ?_ | with_reducible refine bel_drew ?_ | with_reducible refine bel_trans ?_ (by with_reducible assumption))) (Nat.le_refl _)) (O3.out.1.1.reads.below (by repeat' (first | with_reducible assumption | with_reducible exact Below.refl _ _ | with_reducible refine bel_alloc ?_ | with_reducible refine bel_drew ?_ | with_reducible refine bel_trans ?_ (by with_reducible assumption))) (Nat.le_refl _)) (O3.out.1.2.1.reads.below (by repeat' (first | with_reducible assumption | with_reducible exact Below.refl _ _ | with_reducible refine bel_alloc ?_ | with_reducible refine bel_drew ?_ | with_reducible refine bel_trans ?_ (by with_reducible assumption))) (Nat.le_refl _)) (O3.out.2.1.reads.below (by repeat' (first | with_reducible assumption | with_reducible exact Below.refl _ _ | with_reducible refine bel_alloc ?_ | with_reducible refine bel_drew ?_ | with_reducible refine bel_trans ?_ (by with_reducible assumption))) (Nat.le_refl _)) gx0 gy0 gk0).mono ?_; rintro e w4 ⟨rfl, b4⟩))
          have by9 : Below y8.heap.size y8 w4 := (by repeat' (first | with_reducible assumption | with_reducible exact Below.refl _ _ | with_reducible refine bel_alloc ?_ | with_reducible refine bel_drew ?_ | with_reducible refine bel_trans ?_ (by with_reducible assumption)))
          clear O3 b3 b4 m_vX_0 m_vX_1 m_vX_2 m_vX_3 m_vX_4 m_vX_5 m_S_0 m_S_1 m_S_2 m_S_3 m_S_4 m_S_5
          replace HS : Hid (Sta w w4 [Blk y6.heap.size 30 #[.slice aoY xs1.length acY, .slice boY ys1.length bcY, .slice koY r1.ks.length kcY, .int .i64 r1.kd, .int .i64 r1.ho, .int .i64 r1.tu], Sto (.slice aoY xs1.length acY) (.slice boY ys1.length bcY) (.slice koY r1.ks.length kcY) xs1 ys1 r1.ks, Blk y4.heap.size 30 #[.slice aoX xs0.length acX, .slice boX ys0.length bcX, .slice koX r0.ks.length kcX, .int .i64 r0.kd, .int .i64 r0.ho, .int .i64 r0.tu], Sto (.slice aoX xs0.length acX) (.slice boX ys0.length bcX) (.slice koX r0.ks.length kcX) xs0 ys0 r0.ks, Blk (w.heap.size + 1) 45 #[u1, v1, q1, .int .i64 r1.kd, .int .i64 r1.ho, .int .i64 r1.tu], Blk w.heap.size 45 #[u0, v0, q0, .int .i64 r0.kd, .int .i64 r0.ho, .int .i64 r0.tu]]) := HS.out.next by9
          clear by9
          obtain ⟨y9, hy9⟩ : ∃ y9, y9 = w4 := ⟨_, rfl⟩
          rw [← hy9] at HS ⊢
          clear hy9
          go_upto_region 16 with fail
          have m_vY_0 : ∀ w', Sx y9 w' → w'.cell? ⟨y6.heap.size, 0, none⟩ = some (.slice aoY xs1.length acY) := fun w' b => later_cell (w := y9) (Blk.cell (HS.out.get 0 rfl) 0 rfl) b
          have m_vY_1 : ∀ w', Sx y9 w' → w'.cell? ⟨y6.heap.size, 1, none⟩ = some (.slice boY ys1.length bcY) := fun w' b => later_cell (w := y9) (Blk.cell (HS.out.get 0 rfl) 1 rfl) b
          have m_vY_2 : ∀ w', Sx y9 w' → w'.cell? ⟨y6.heap.size, 2, none⟩ = some (.slice koY r1.ks.length kcY) := fun w' b => later_cell (w := y9) (Blk.cell (HS.out.get 0 rfl) 2 rfl) b
          have m_vY_3 : ∀ w', Sx y9 w' → w'.cell? ⟨y6.heap.size, 3, none⟩ = some (.int .i64 r1.kd) := fun w' b => later_cell (w := y9) (Blk.cell (HS.out.get 0 rfl) 3 rfl) b
          have m_vY_4 : ∀ w', Sx y9 w' → w'.cell? ⟨y6.heap.size, 4, none⟩ = some (.int .i64 r1.ho) := fun w' b => later_cell (w := y9) (Blk.cell (HS.out.get 0 rfl) 4 rfl) b
          have m_vY_5 : ∀ w', Sx y9 w' → w'.cell? ⟨y6.heap.size, 5, none⟩ = some (.int .i64 r1.tu) := fun w' b => later_cell (w := y9) (Blk.cell (HS.out.get 0 rfl) 5 rfl) b
          have m_R_0 : ∀ w', Sx y9 w' → w'.cell? ⟨w.heap.size + 1, 0, none⟩ = some (u1) := fun w' b => later_cell (w := y9) (Blk.cell (HS.out.get 4 rfl) 0 rfl) b
          have m_R_1 : ∀ w', Sx y9 w' → w'.cell? ⟨w.heap.size + 1, 1, none⟩ = some (v1) := fun w' b => later_cell (w := y9) (Blk.cell (HS.out.get 4 rfl) 1 rfl) b
          have m_R_2 : ∀ w', Sx y9 w' → w'.cell? ⟨w.heap.size + 1, 2, none⟩ = some (q1) := fun w' b => later_cell (w := y9) (Blk.cell (HS.out.get 4 rfl) 2 rfl) b
          have m_R_3 : ∀ w', Sx y9 w' → w'.cell? ⟨w.heap.size + 1, 3, none⟩ = some (.int .i64 r1.kd) := fun w' b => later_cell (w := y9) (Blk.cell (HS.out.get 4 rfl) 3 rfl) b
          have m_R_4 : ∀ w', Sx y9 w' → w'.cell? ⟨w.heap.size + 1, 4, none⟩ = some (.int .i64 r1.ho) := fun w' b => later_cell (w := y9) (Blk.cell (HS.out.get 4 rfl) 4 rfl) b
          have m_R_5 : ∀ w', Sx y9 w' → w'.cell? ⟨w.heap.size + 1, 5, none⟩ = some (.int .i64 r1.tu) := fun w' b => later_cell (w := y9) (Blk.cell (HS.out.get 4 rfl) 5 rfl) b
          go_region_held3 (fun w' => Sx y9 w') ((change Below y9.heap.size y9 _; exact (by repeat' (first | with_reducible assumption | with_reducible exact Below.refl _ _ | with_reducible refine bel_alloc ?_ | with_reducible refine bel_drew ?_ | with_reducible refine bel_trans ?_ (by with_reducible assumption)))))
            (first
              | (go_at_call 23; refine (TR.out _ (bel_trans HS.out.below (by repeat' (first | with_reducible assumption | with_reducible exact Below.refl _ _ | with_reducible refine bel_alloc ?_ | with_reducible refine bel_drew ?_ | with_reducible refine bel_trans ?_ (by with_reducible assumption))))).mono ?_; rintro e w3 ⟨a, b, k, rfl, o3', b3⟩; obtain ⟨ao, ac, rfl⟩ := o3'.1.1.reads.form; obtain ⟨bo, bc, rfl⟩ := o3'.1.2.1.reads.form; obtain ⟨ko, kc, rfl⟩ := o3'.2.1.reads.form; have O3 : Hid (OwnR w3 _ (.slice ao xs1.length ac) (.slice bo ys1.length bc) (.slice ko r1.ks.length kc) xs1 ys1 r1.ks) := o3'; clear o3')
              | (go_at_call 24; refine (eqStore_any _ _ _ _ _ _ _ _ r1 _ ((HS.out.rA 1 rfl).below (by repeat' (first | with_reducible assumption | with_reducible exact Below.refl _ _ | with_reducible refine bel_alloc ?_ | with_reducible refine bel_drew ?_ | with_reducible refine bel_trans ?_ (by with_reducible assumption))) (Nat.le_refl _)) ((HS.out.rB 1 rfl).below (by repeat' (first | with_reducible assumption | with_reducible exact Below.refl _ _ | with_reducible refine bel_alloc ?_ | with_reducible refine bel_drew ?_ | with_reducible refine bel_trans ?_ (by with_reducible assumption))) (Nat.le_refl _)) ((HS.out.rK 1 rfl).below (by repeat' (first | with_reducible assumption | with_reducible exact Below.refl _ _ | with_reducible refine bel_alloc ?_ | with_reducible refine bel_drew ?_ | with_reducible refine bel_trans ?_ (by with_reducible assumption))) (Nat.le_refl _)) (O3.out.1.1.reads.below (by repeat' (first | with_reducible assumption | with_reducible exact Below.refl _ _ | with_reducible refine bel_alloc ?_ | with_reducible refine bel_drew ?_ | with_reducible refine bel_trans ?_ (by with_reducible assumption))) (Nat.le_refl _)) (O3.out.1.2.1.reads.below (by repeat' (first | with_reducible assumption | with_reducible exact Below.refl _ _ | with_reducible refine bel_alloc ?_ | with_reducible refine bel_drew ?_ | with_reducible refine bel_trans ?_ (by with_reducible assumption))) (Nat.le_refl _)) (O3.out.2.1.reads.below (by repeat' (first | with_reducible assumption | with_reducible exact Below.refl _ _ | with_reducible refine bel_alloc ?_ | with_reducible refine bel_drew ?_ | with_reducible refine bel_trans ?_ (by with_reducible assumption))) (Nat.le_refl _)) gx1 gy1 gk1).mono ?_; rintro e w4 ⟨rfl, b4⟩))
          have by10 : Below y9.heap.size y9 w4 := (by repeat' (first | with_reducible assumption | with_reducible exact Below.refl _ _ | with_reducible refine bel_alloc ?_ | with_reducible refine bel_drew ?_ | with_reducible refine bel_trans ?_ (by with_reducible assumption)))
          clear O3 b3 b4 m_vY_0 m_vY_1 m_vY_2 m_vY_3 m_vY_4 m_vY_5 m_R_0 m_R_1 m_R_2 m_R_3 m_R_4 m_R_5
          replace HS : Hid (Sta w w4 [Blk y6.heap.size 30 #[.slice aoY xs1.length acY, .slice boY ys1.length bcY, .slice koY r1.ks.length kcY, .int .i64 r1.kd, .int .i64 r1.ho, .int .i64 r1.tu], Sto (.slice aoY xs1.length acY) (.slice boY ys1.length bcY) (.slice koY r1.ks.length kcY) xs1 ys1 r1.ks, Blk y4.heap.size 30 #[.slice aoX xs0.length acX, .slice boX ys0.length bcX, .slice koX r0.ks.length kcX, .int .i64 r0.kd, .int .i64 r0.ho, .int .i64 r0.tu], Sto (.slice aoX xs0.length acX) (.slice boX ys0.length bcX) (.slice koX r0.ks.length kcX) xs0 ys0 r0.ks, Blk (w.heap.size + 1) 45 #[u1, v1, q1, .int .i64 r1.kd, .int .i64 r1.ho, .int .i64 r1.tu], Blk w.heap.size 45 #[u0, v0, q0, .int .i64 r0.kd, .int .i64 r0.ho, .int .i64 r0.tu]]) := HS.out.next by10
          clear by10
          obtain ⟨y10, hy10⟩ : ∃ y10, y10 = w4 := ⟨_, rfl⟩
          rw [← hy10] at HS ⊢
          clear hy10
          have HB : Hid (Below w.heap.size w _) := HS.out.below
          clear HS
          go_wp2_with fail
          go_ret
          exact ⟨rfl, HB.out⟩
    · have hs2 : szI lf (xs1.length + ys1.length + r1.ks.length) = -1 := by simp only [szI]; rw [if_neg (by omega)]
      rw [hs2] at c2
      clear hsz hs2 hlf hbig hb2 RX0 RY0 RQ0 RX1 RY1 RQ1
      go_enter Try.func7, Try.ntmps7
      go_wp2_with fail
      rw [← hw1]
      clear hw1
      refine (c1).mono ?_
      rintro e w2 ⟨rfl, b2⟩
      replace HS : Hid (Sta w w2 [Blk (w.heap.size + 1) 45 #[u1, v1, q1, .int .i64 r1.kd, .int .i64 r1.ho, .int .i64 r1.tu], Blk w.heap.size 45 #[u0, v0, q0, .int .i64 r0.kd, .int .i64 r0.ho, .int .i64 r0.tu]]) := HS.out.next b2
      clear b2 c1 hs1
      have p0 : w2.cell? ⟨w.heap.size + 1, 0, none⟩ = some u1 := Blk.cell (HS.out.get 0 rfl) 0 rfl
      have p1 : w2.cell? ⟨w.heap.size + 1, 1, none⟩ = some v1 := Blk.cell (HS.out.get 0 rfl) 1 rfl
      have p2 : w2.cell? ⟨w.heap.size + 1, 2, none⟩ = some q1 := Blk.cell (HS.out.get 0 rfl) 2 rfl
      have p3 : w2.cell? ⟨w.heap.size + 1, 3, none⟩ = some (.int .i64 r1.kd) := Blk.cell (HS.out.get 0 rfl) 3 rfl
      have p4 : w2.cell? ⟨w.heap.size + 1, 4, none⟩ = some (.int .i64 r1.ho) := Blk.cell (HS.out.get 0 rfl) 4 rfl
      have p5 : w2.cell? ⟨w.heap.size + 1, 5, none⟩ = some (.int .i64 r1.tu) := Blk.cell (HS.out.get 0 rfl) 5 rfl
      go_wp2_with fail
      refine (c2.out _ HS.out.below).mono ?_
      rintro e w3 ⟨rfl, b3⟩
      replace HS : Hid (Sta w w3 [Blk (w.heap.size + 1) 45 #[u1, v1, q1, .int .i64 r1.kd, .int .i64 r1.ho, .int .i64 r1.tu], Blk w.heap.size 45 #[u0, v0, q0, .int .i64 r0.kd, .int .i64 r0.ho, .int .i64 r0.tu]]) := HS.out.next b3
      clear b3 c2 p0 p1 p2 p3 p4 p5
      have HB : Hid (Below w.heap.size w _) := HS.out.below
      clear HS
      go_wp2_with fail
      go_ret
      exact ⟨rfl, HB.out⟩
  · have hsz : szI 1048576 (xs0.length + ys0.length + r0.ks.length) = -1 := by simp only [szI]; rw [if_neg (by omega)]
    obtain ⟨w1, hw1⟩ : ∃ w1, w1 = (w.alloc (.cells #[u0, v0, q0, .int .i64 r0.kd, .int .i64 r0.ho, .int .i64 r0.tu] 45)).alloc (.cells #[u1, v1, q1, .int .i64 r1.kd, .int .i64 r1.ho, .int .i64 r1.tu] 45) := ⟨_, rfl⟩
    have hs1 := ((Sta.start w).box 45 #[u0, v0, q0, .int .i64 r0.kd, .int .i64 r0.ho, .int .i64 r0.tu]).box 45 #[u1, v1, q1, .int .i64 r1.kd, .int .i64 r1.ho, .int .i64 r1.tu]
    rw [World.size_alloc, ← hw1] at hs1
    have HS : Hid (Sta w w1 [Blk (w.heap.size + 1) 45 #[u1, v1, q1, .int .i64 r1.kd, .int .i64 r1.ho, .int .i64 r1.tu], Blk w.heap.size 45 #[u0, v0, q0, .int .i64 r0.kd, .int .i64 r0.ho, .int .i64 r0.tu]]) := hs1
    have c1 := szStore_any u0 v0 q0 xs0 ys0 r0 1048576 w1 (RX0.below HS.out.below (Nat.le_refl _)) (RY0.below HS.out.below (Nat.le_refl _)) (RQ0.below HS.out.below (Nat.le_refl _)) (by omega) (by omega)
    rw [hsz] at c1
    unfold SRV srA at c1 ⊢
    clear hsz hbig RX0 RY0 RQ0 RX1 RY1 RQ1
    go_enter Try.func7, Try.ntmps7
    go_wp2_with fail
    rw [← hw1]
    clear hw1
    refine (c1).mono ?_
    rintro e w2 ⟨rfl, b2⟩
    replace HS : Hid (Sta w w2 [Blk (w.heap.size + 1) 45 #[u1, v1, q1, .int .i64 r1.kd, .int .i64 r1.ho, .int .i64 r1.tu], Blk w.heap.size 45 #[u0, v0, q0, .int .i64 r0.kd, .int .i64 r0.ho, .int .i64 r0.tu]]) := HS.out.next b2
    clear b2 c1 hs1
    have HB : Hid (Below w.heap.size w _) := HS.out.below
    clear HS
    go_wp2_with fail
    go_ret
    exact ⟨rfl, HB.out⟩

set_option maxRecDepth 100000 in
theorem lifted (os : Os) (started : os.Started) (H : Type) (enc : TypeId × Value → H) :
    ReturnsInHanded {} Try.checked os 7 .any (Rows.fnExactAlikeSpec.pre6 enc Try.prog Try.f7 Rows.fnExactAlikeRow.domain false) (Rows.fnExactAlikeSpec.post enc Try.prog Try.f7 false true false false) := by
  refine returnsInHanded_of_change (C := Try.checked) own started (by kernel_rfl) Try.func7
    (ChangeSpec.witness6 (enc := enc) (C := Try.checked) false ⟨#[], #[.agg #[.slice none 0 0, .slice none 0 0, .slice none 0 0, .int .i64 0, .int .i64 0, .int .i64 0], .agg #[.slice none 0 0, .slice none 0 0, .slice none 0 0, .int .i64 0, .int .i64 0, .int .i64 0]], []⟩ 8 (by kernel_rfl) (by kernel_rfl) (by kernel_rfl) (by kernel_rfl)) ?_
  intro W base args ds gs before hval0 hW hcnd _
  have hval : ∀ (j : Nat) t v, Try.f7.params[j]? = some t → args[j]? = some v → Value.okWide Try.prog W .any base t v := hval0
  have hW' := hW
  obtain ⟨p, q, hA0, hV, rfl, hfz, hnd⟩ := hW
  have hA : DataW.TrodAll enc Try.prog W 0 (fun _ => true) true Try.f7.params.toList args.toList ds p := hA0
  rw [Try.params7] at hA hval
  obtain ⟨v0, vs0, d0, ds0, p0, q0, hargs, rfl, rfl, h0, s0⟩ := trodAll_cons hA
  obtain ⟨v1, vs1, d1, ds1, p1, q1, rfl, rfl, rfl, h1, s1⟩ := trodAll_cons s0
  obtain ⟨rfl, rfl, rfl⟩ := trodAll_nil s1
  obtain rfl : args = #[v0, v1] := by cases args; simp_all
  obtain ⟨rfl, rfl⟩ := trodVars_none hV
  have k0 := h0
  have lt0 : ∀ x ∈ p0, x.block < W.heap.size := by obtain ⟨m, hm⟩ := k0; exact DataW.trod_lt m _ _ _ hm
  obtain ⟨r0, u0, y0, z0, xs0, ys0, rfl, RX0, RY0, RQ0⟩ := open_store (hval 0 45 v0 rfl rfl) h0
  have k1 := h1
  have lt1 : ∀ x ∈ p1, x.block < W.heap.size := by obtain ⟨m, hm⟩ := k1; exact DataW.trod_lt m _ _ _ hm
  obtain ⟨r1, u1, y1, z1, xs1, ys1, rfl, RX1, RY1, RQ1⟩ := open_store (hval 1 45 v1 rfl rfl) h1
  clear hA0 hval0
  refine (walk r0 u0 y0 z0 xs0 ys0 r1 u1 y1 z1 xs1 ys1 W RX0 RY0 RQ0 RX1 RY1 RQ1).mono fun e W' ⟨he, bel⟩ => ?_
  subst he
  exact ⟨_, rfl, _, _, _, [], _, [], hW', trodAll_mk1 (shut_bool Try.underlying4 _), (trodAll_cons_mk (Below.trod laidOut (by kernel_rfl) (of_decide_eq_true (by kernel_rfl)) k0 bel lt0) (trodAll_cons_mk (Below.trod laidOut (by kernel_rfl) (of_decide_eq_true (by kernel_rfl)) k1 bel lt1) trodAll_mk0)), rfl, bel.frame _, fun h => by cases h⟩

theorem over : Rows.fnExactAlikeRow.holds Try.pinned (OpenSpec.ofChange Rows.fnExactAlikeSpec) :=
  OpenClaim.holds_of_wide 7 Try.f7 rfl rfl rfl rfl rfl rfl rfl ⟨rfl, rfl, rfl, rfl, rfl⟩ rfl rfl rfl rfl rfl (by kernel_rfl) Try.func7 (by kernel_rfl)
    (of_decide_eq_true (by kernel_rfl)) (by unfold Func.isWrapper; first | (rw [if_pos (by decide +kernel)]; kernel_rfl) | (rw [if_neg (by decide +kernel)]; exact ⟨rfl, rfl⟩))
    (fun os started H enc _ => lifted os started H enc)

theorem proved : Rows.FnExactAlikeSaid := over
end Go.Proofs.Ytpdggofaobmnlaa.fnExactAlike
namespace Go.Proofs.Ytpdggofaobmnlaa
theorem fnExactAlike_holds : Rows.FnExactAlikeSaid := fnExactAlike.proved
end Go.Proofs.Ytpdggofaobmnlaa
