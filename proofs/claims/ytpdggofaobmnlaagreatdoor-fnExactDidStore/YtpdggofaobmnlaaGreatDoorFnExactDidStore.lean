/- At every store, whoever asks and every command DidStore of the program answers as DidStore of the model, the store and the answer, in memory of its own that a second call leaves alone, and leaves what it was given as it was: the law FnExactDidStore returns true, whatever it is given. -/
import Derived.Test.YtpdggofaobmnlaaGreatDoorRows
import Derived.WalkKit
import Derived.ProofKit
import Derived.OpenShut
import Derived.ShutString
import Derived.ChangeOld
import Derived.Below
import Derived.Test.YtpdggofaobmnlaaGreatDoorM8
import Derived.Test.YtpdggofaobmnlaaGreatDoorM9
import Derived.Test.YtpdggofaobmnlaaGreatDoorM11
import Derived.Test.YtpdggofaobmnlaaGreatDoorSStore6
import Derived.Test.YtpdggofaobmnlaaGreatDoorIStoD
import Derived.Test.YtpdggofaobmnlaaGreatDoorM36
import Derived.Test.YtpdggofaobmnlaaGreatDoorCards
import Derived.Test.YtpdggofaobmnlaaGreatDoorTie
import Derived.SevenTiedAt
import Derived.Lay
import Derived.LaidOnce
namespace Go.Proofs.YtpdggofaobmnlaaGreatDoor.fnExactDidStore
open Go.ChangeShapes Go.WideShapes Go.ChangeAt Go.RowKit
open Go.ChangeMaps (open_string shut_string)
set_option linter.unusedVariables false

theorem own : ownKnob Tryz.prog.godebug = none := by kernel_rfl
theorem laidOut : laidOutB Tryz.prog = true := by kernel_rfl

set_option maxRecDepth 20000 in
set_option maxHeartbeats 20000000 in
theorem walk (r0 : Hd) (u0 v0 q0 : Value) (xs0 ys0 : List Int) (a1 : Int) (r2 : Cm) (w : World) (RX0 : Reads w u0 xs0) (RY0 : Reads w v0 ys0) (RQ0 : Reads w q0 r0.ks) (w1 : (Lit.int .i64 a1).wf = true) (f2 : r2.Fit) (hT : TabS w) :
    Calls Tryz.prog 4 #[SRV u0 v0 q0 r0, .int .i64 a1, CV r2] w fun e w' => e = .returned (.bool true) ∧ Below w.heap.size w w' := by
  have HP : Hid (TabS w) := hT
  clear hT
  by_cases hbig : (xs0.length + ys0.length + r0.ks.length : Int) ≤ 1048576
  · have gx0 : xs0.length ≤ 1099511627776 := by omega
    have gy0 : ys0.length ≤ 1099511627776 := by omega
    have gk0 : r0.ks.length ≤ 1099511627776 := by omega
    have sx0 : xs0.length ≤ 1048576 := by omega
    have sy0 : ys0.length ≤ 1048576 := by omega
    have sk0 : r0.ks.length ≤ 1048576 := by omega
    have hsz : szI 1048576 (xs0.length + ys0.length + r0.ks.length) = 1048576 - (xs0.length + ys0.length + r0.ks.length : Nat) := by simp only [szI]; rw [if_pos (by omega)]
    obtain ⟨w1, hw1⟩ : ∃ w1, w1 = (w.alloc (.cells #[u0, v0, q0, .int .i64 r0.kd, .int .i64 r0.ho, .int .i64 r0.tu] 52)).alloc (.cells #[.int .i64 r2.o, .int .i64 r2.p, .int .i64 r2.a, .int .i64 r2.b, .int .i64 r2.k] 53) := ⟨_, rfl⟩
    have hs1 := ((Sta.start w).box 52 #[u0, v0, q0, .int .i64 r0.kd, .int .i64 r0.ho, .int .i64 r0.tu]).box 53 #[.int .i64 r2.o, .int .i64 r2.p, .int .i64 r2.a, .int .i64 r2.b, .int .i64 r2.k]
    rw [World.size_alloc, ← hw1] at hs1
    have HS : Hid (Sta w w1 [Blk (w.heap.size + 1) 53 #[.int .i64 r2.o, .int .i64 r2.p, .int .i64 r2.a, .int .i64 r2.b, .int .i64 r2.k], Blk w.heap.size 52 #[u0, v0, q0, .int .i64 r0.kd, .int .i64 r0.ho, .int .i64 r0.tu]]) := hs1
    have c1 := szStore_any u0 v0 q0 xs0 ys0 r0 1048576 w1 (RX0.below HS.out.below (Nat.le_refl _)) (RY0.below HS.out.below (Nat.le_refl _)) (RQ0.below HS.out.below (Nat.le_refl _)) (by omega) (by omega)
    rw [hsz] at c1
    replace RX0 : Hid (Reads w u0 xs0) := RX0
    replace RY0 : Hid (Reads w v0 ys0) := RY0
    replace RQ0 : Hid (Reads w q0 r0.ks) := RQ0
    have TS : Hid (∀ wx, Below w.heap.size w wx → Calls Tryz.prog 21 #[.agg #[u0, v0, q0, .int .i64 r0.kd, .int .i64 r0.ho, .int .i64 r0.tu]] wx fun e w' => ∃ a b k, e = .returned (.agg #[a, b, k, .int .i64 r0.kd, .int .i64 r0.ho, .int .i64 r0.tu]) ∧ OwnR w' wx.heap.size a b k xs0 ys0 r0.ks ∧ Below wx.heap.size wx w') := fun wx b => toStore_any u0 v0 q0 xs0 ys0 r0 wx (RX0.out.below b (Nat.le_refl _)) (RY0.out.below b (Nat.le_refl _)) (RQ0.out.below b (Nat.le_refl _)) gx0 gy0 gk0
    have TCm : Hid (∀ wx, _) := fun wx => toCmd_any r2 wx
    obtain ⟨D, hD⟩ : ∃ D, D = Sr.did ⟨xs0, ys0, r0⟩ a1 r2 := ⟨_, rfl⟩
    have sK : Hid (D.1.xs.length ≤ 1048576 ∧ D.1.ys.length ≤ 1048576 ∧ D.1.h.ks.length ≤ 1048576) := by rw [hD]; exact did_len ⟨xs0, ys0, r0⟩ a1 r2 sx0 sy0 sk0
    have SD' := fun wx a b k h1 h2 h3 => sDidStore_any a b k xs0 ys0 r0 a1 r2 wx h1 h2 h3 gx0 gy0 gk0
    have ID' := fun wx a b k h1 h2 h3 t => iDidStore_any a b k xs0 ys0 r0 a1 r2 wx h1 h2 h3 gx0 gy0 gk0 t
    rw [← hD] at SD' ID'
    clear hD
    obtain ⟨⟨ks, ns, hh⟩, an⟩ := D
    dsimp only at SD' ID' sK
    have SD : Hid (∀ wx a b k, Reads wx a xs0 → Reads wx b ys0 → Reads wx k r0.ks → Calls Tryz.prog 10 #[.agg #[a, b, k, .int .i64 r0.kd, .int .i64 r0.ho, .int .i64 r0.tu], .int .i64 a1, .agg #[.int .i64 r2.o, .int .i64 r2.p, .int .i64 r2.a, .int .i64 r2.b, .int .i64 r2.k]] wx fun e w' => ∃ a' b' k', e = .returned (.tuple #[.agg (srA a' b' k' hh), .agg (anA an)]) ∧ OwnR w' wx.heap.size a' b' k' ks ns hh.ks ∧ Below wx.heap.size wx w') := SD'
    have ID : Hid (∀ wx a b k, Reads wx a xs0 → Reads wx b ys0 → Reads wx k r0.ks → TabS wx → Calls Tryz.prog 7 #[.agg #[a, b, k, .int .i64 r0.kd, .int .i64 r0.ho, .int .i64 r0.tu], .int .i64 a1, .agg #[.int .i64 r2.o, .int .i64 r2.p, .int .i64 r2.a, .int .i64 r2.b, .int .i64 r2.k]] wx fun e w' => ∃ a' b' k', e = .returned (.tuple #[.agg (srA a' b' k' hh), .agg (anA an)]) ∧ OwnR w' wx.heap.size a' b' k' ks ns hh.ks ∧ Below wx.heap.size wx w') := ID'
    have EA : Hid (∀ wx, _) := fun wx => eqAnswer_self an wx
    have sk := sK.out.1
    have sn := sK.out.2.1
    have sh := sK.out.2.2
    have gk : ks.length ≤ 1099511627776 := by omega
    have gn : ns.length ≤ 1099511627776 := by omega
    have gh : hh.ks.length ≤ 1099511627776 := by omega
    clear hsz hs1 sK SD' ID'
    unfold AV anA S at EA
    unfold CV cmA at TCm
    unfold SRV srA at c1 ⊢
    unfold CV cmA
    go_enter Tryz.func4, Tryz.ntmps4
    go_wp2_with fail
    rw [← hw1]
    clear hw1
    refine (c1).mono ?_
    rintro e w2 ⟨rfl, b2⟩
    replace HS : Hid (Sta w w2 [Blk (w.heap.size + 1) 53 #[.int .i64 r2.o, .int .i64 r2.p, .int .i64 r2.a, .int .i64 r2.b, .int .i64 r2.k], Blk w.heap.size 52 #[u0, v0, q0, .int .i64 r0.kd, .int .i64 r0.ho, .int .i64 r0.tu]]) := HS.out.next b2
    clear b2 c1
    have m_S_0 : ∀ w', Sx w2 w' → w'.cell? ⟨w.heap.size, 0, none⟩ = some (u0) := fun w' b => later_cell (w := w2) (Blk.cell (HS.out.get 1 rfl) 0 rfl) b
    have m_S_1 : ∀ w', Sx w2 w' → w'.cell? ⟨w.heap.size, 1, none⟩ = some (v0) := fun w' b => later_cell (w := w2) (Blk.cell (HS.out.get 1 rfl) 1 rfl) b
    have m_S_2 : ∀ w', Sx w2 w' → w'.cell? ⟨w.heap.size, 2, none⟩ = some (q0) := fun w' b => later_cell (w := w2) (Blk.cell (HS.out.get 1 rfl) 2 rfl) b
    have m_S_3 : ∀ w', Sx w2 w' → w'.cell? ⟨w.heap.size, 3, none⟩ = some (.int .i64 r0.kd) := fun w' b => later_cell (w := w2) (Blk.cell (HS.out.get 1 rfl) 3 rfl) b
    have m_S_4 : ∀ w', Sx w2 w' → w'.cell? ⟨w.heap.size, 4, none⟩ = some (.int .i64 r0.ho) := fun w' b => later_cell (w := w2) (Blk.cell (HS.out.get 1 rfl) 4 rfl) b
    have m_S_5 : ∀ w', Sx w2 w' → w'.cell? ⟨w.heap.size, 5, none⟩ = some (.int .i64 r0.tu) := fun w' b => later_cell (w := w2) (Blk.cell (HS.out.get 1 rfl) 5 rfl) b
    have m_C_0 : ∀ w', Sx w2 w' → w'.cell? ⟨w.heap.size + 1, 0, none⟩ = some (.int .i64 r2.o) := fun w' b => later_cell (w := w2) (Blk.cell (HS.out.get 0 rfl) 0 rfl) b
    have m_C_1 : ∀ w', Sx w2 w' → w'.cell? ⟨w.heap.size + 1, 1, none⟩ = some (.int .i64 r2.p) := fun w' b => later_cell (w := w2) (Blk.cell (HS.out.get 0 rfl) 1 rfl) b
    have m_C_2 : ∀ w', Sx w2 w' → w'.cell? ⟨w.heap.size + 1, 2, none⟩ = some (.int .i64 r2.a) := fun w' b => later_cell (w := w2) (Blk.cell (HS.out.get 0 rfl) 2 rfl) b
    have m_C_3 : ∀ w', Sx w2 w' → w'.cell? ⟨w.heap.size + 1, 3, none⟩ = some (.int .i64 r2.b) := fun w' b => later_cell (w := w2) (Blk.cell (HS.out.get 0 rfl) 3 rfl) b
    have m_C_4 : ∀ w', Sx w2 w' → w'.cell? ⟨w.heap.size + 1, 4, none⟩ = some (.int .i64 r2.k) := fun w' b => later_cell (w := w2) (Blk.cell (HS.out.get 0 rfl) 4 rfl) b
    go_upto_region 5 with fail
    go_cut [8, 9] (fun p q wx => ∃ gW kW aoW acW boW bcW koW kcW, p = .pointer (some ⟨gW, 0, none⟩) ∧ q = .pointer (some ⟨kW, 0, none⟩) ∧ Hid (Sta w wx [Blk gW 30 (srA (.slice aoW ks.length acW) (.slice boW ns.length bcW) (.slice koW hh.ks.length kcW) hh), Blk kW 36 (anA an), Sto (.slice aoW ks.length acW) (.slice boW ns.length bcW) (.slice koW hh.ks.length kcW) ks ns hh.ks, Blk (w.heap.size + 1) 53 #[.int .i64 r2.o, .int .i64 r2.p, .int .i64 r2.a, .int .i64 r2.b, .int .i64 r2.k], Blk w.heap.size 52 #[u0, v0, q0, .int .i64 r0.kd, .int .i64 r0.ho, .int .i64 r0.tu]]))
    case first =>
      as_aux_lemma =>
        go_region_held3 (fun w' => Sx w2 w') ((change Below w2.heap.size w2 _; exact (by repeat' (first | with_reducible assumption | with_reducible exact Below.refl _ _ | with_reducible refine bel_alloc ?_ | with_reducible refine bel_drew ?_ | with_reducible refine bel_trans ?_ (by with_reducible assumption)))))
          (first
            | (go_at_call 21; refine (TS.out _ (bel_trans HS.out.below (by repeat' (first | with_reducible assumption | with_reducible exact Below.refl _ _ | with_reducible refine bel_alloc ?_ | with_reducible refine bel_drew ?_ | with_reducible refine bel_trans ?_ (by with_reducible assumption))))).mono ?_; rintro e w3 ⟨a, b, k, rfl, o3', b3⟩; obtain ⟨ao, ac, rfl⟩ := o3'.1.1.reads.form; obtain ⟨bo, bc, rfl⟩ := o3'.1.2.1.reads.form; obtain ⟨ko, kc, rfl⟩ := o3'.2.1.reads.form; have O3 : Hid (OwnR w3 _ (.slice ao xs0.length ac) (.slice bo ys0.length bc) (.slice ko r0.ks.length kc) xs0 ys0 r0.ks) := o3'; clear o3')
            | (go_at_call 22; refine (TCm.out _).mono ?_; rintro e w4 ⟨rfl, b4⟩)
            | (go_at_call 10; refine (SD.out _ _ _ _ (O3.out.1.1.reads.below (by repeat' (first | with_reducible assumption | with_reducible exact Below.refl _ _ | with_reducible refine bel_alloc ?_ | with_reducible refine bel_drew ?_ | with_reducible refine bel_trans ?_ (by with_reducible assumption))) (Nat.le_refl _)) (O3.out.1.2.1.reads.below (by repeat' (first | with_reducible assumption | with_reducible exact Below.refl _ _ | with_reducible refine bel_alloc ?_ | with_reducible refine bel_drew ?_ | with_reducible refine bel_trans ?_ (by with_reducible assumption))) (Nat.le_refl _)) (O3.out.2.1.reads.below (by repeat' (first | with_reducible assumption | with_reducible exact Below.refl _ _ | with_reducible refine bel_alloc ?_ | with_reducible refine bel_drew ?_ | with_reducible refine bel_trans ?_ (by with_reducible assumption))) (Nat.le_refl _))).mono ?_; rintro e w5 ⟨a5, b5', k5, rfl, o5', b5⟩; obtain ⟨aoW, acW, rfl⟩ := o5'.1.1.reads.form; obtain ⟨boW, bcW, rfl⟩ := o5'.1.2.1.reads.form; obtain ⟨koW, kcW, rfl⟩ := o5'.2.1.reads.form; have O5 : Hid (OwnR w5 w2.heap.size (.slice aoW ks.length acW) (.slice boW ns.length bcW) (.slice koW hh.ks.length kcW) ks ns hh.ks) := o5'.mono (bel_size (by repeat' (first | with_reducible assumption | with_reducible exact Below.refl _ _ | with_reducible refine bel_alloc ?_ | with_reducible refine bel_drew ?_ | with_reducible refine bel_trans ?_ (by with_reducible assumption)))); clear o5')
            | ((with_reducible show Oper.upon _ _ _ _ _ (Result.andThen (Sem.run _ (storeCells _ (srA _ _ _ _).toList) _) _)); refine upon_putS _ 30 (srA (.slice aoW ks.length acW) (.slice boW ns.length bcW) (.slice koW hh.ks.length kcW) hh) #[.slice none 0 0, .slice none 0 0, .slice none 0 0, .int .i64 0, .int .i64 0, .int .i64 0] ?_ ?_ ?_ ?_; (focus exact rfl); (focus exact srA_one hh rfl rfl rfl); (focus exact (by repeat' (first | with_reducible assumption | with_reducible refine StB.newE _ _ _ (by simp) | with_reducible refine StB.al ?_ | with_reducible refine StB.dr ?_ | with_reducible refine StB.bel ?_ (by with_reducible assumption)))); intro w6 s6 g6; have O6 := OwnR.putBy (t := 30) (cs := #[.slice none 0 0, .slice none 0 0, .slice none 0 0, .int .i64 0, .int .i64 0, .int .i64 0]) (OwnR.below O5.out (by repeat' (first | with_reducible assumption | with_reducible exact Below.refl _ _ | with_reducible refine bel_alloc ?_ | with_reducible refine bel_drew ?_ | with_reducible refine bel_trans ?_ (by with_reducible assumption)))) (by repeat' (first | with_reducible assumption | with_reducible refine StB.newE _ _ _ (by simp) | with_reducible refine StB.al ?_ | with_reducible refine StB.dr ?_ | with_reducible refine StB.bel ?_ (by with_reducible assumption))) (by decide) g6; have L6 := ge_of (w := w2) g6 (by first | exact bel_size (by repeat' (first | with_reducible assumption | with_reducible exact Below.refl _ _ | with_reducible refine bel_alloc ?_ | with_reducible refine bel_drew ?_ | with_reducible refine bel_trans ?_ (by with_reducible assumption))) | exact Nat.le_succ_of_le (bel_size (by repeat' (first | with_reducible assumption | with_reducible exact Below.refl _ _ | with_reducible refine bel_alloc ?_ | with_reducible refine bel_drew ?_ | with_reducible refine bel_trans ?_ (by with_reducible assumption))))); have b6 : Below w2.heap.size w2 w6 := bel_put (by repeat' (first | with_reducible assumption | with_reducible exact Below.refl _ _ | with_reducible refine bel_alloc ?_ | with_reducible refine bel_drew ?_ | with_reducible refine bel_trans ?_ (by with_reducible assumption))) g6 L6)
            | ((with_reducible show Oper.upon _ _ _ _ _ (Result.andThen (Sem.run _ (storeCells _ (anA _).toList) _) _)); refine upon_putS _ 36 (anA an) #[.int .i64 0, .string ⟨#[]⟩] ?_ ?_ ?_ ?_; (focus exact rfl); (focus exact anA_one _); (focus exact (StB.keptT (t := 30) (cs := #[.slice none 0 0, .slice none 0 0, .slice none 0 0, .int .i64 0, .int .i64 0, .int .i64 0]) (by repeat' (first | with_reducible assumption | with_reducible refine StB.newE _ _ _ (by simp) | with_reducible refine StB.al ?_ | with_reducible refine StB.dr ?_ | with_reducible refine StB.bel ?_ (by with_reducible assumption))) (by repeat' (first | with_reducible assumption | with_reducible refine StB.newE _ _ _ (by simp) | with_reducible refine StB.al ?_ | with_reducible refine StB.dr ?_ | with_reducible refine StB.bel ?_ (by with_reducible assumption))) g6 (by decide))); intro w7 s7 g7; have L7 := ge_of (w := w2) g7 (by first | exact bel_size (by repeat' (first | with_reducible assumption | with_reducible exact Below.refl _ _ | with_reducible refine bel_alloc ?_ | with_reducible refine bel_drew ?_ | with_reducible refine bel_trans ?_ (by with_reducible assumption))) | exact Nat.le_succ_of_le (bel_size (by repeat' (first | with_reducible assumption | with_reducible exact Below.refl _ _ | with_reducible refine bel_alloc ?_ | with_reducible refine bel_drew ?_ | with_reducible refine bel_trans ?_ (by with_reducible assumption))))); have O7 := OwnR.putBy (t := 36) (cs := #[.int .i64 0, .string ⟨#[]⟩]) O6 (StB.keptT (t := 30) (cs := #[.slice none 0 0, .slice none 0 0, .slice none 0 0, .int .i64 0, .int .i64 0, .int .i64 0]) (by repeat' (first | with_reducible assumption | with_reducible refine StB.newE _ _ _ (by simp) | with_reducible refine StB.al ?_ | with_reducible refine StB.dr ?_ | with_reducible refine StB.bel ?_ (by with_reducible assumption))) (by repeat' (first | with_reducible assumption | with_reducible refine StB.newE _ _ _ (by simp) | with_reducible refine StB.al ?_ | with_reducible refine StB.dr ?_ | with_reducible refine StB.bel ?_ (by with_reducible assumption))) g6 (by decide)) (by decide) g7; have S6 := StB.keptT (t := 36) (cs := #[.int .i64 0, .string ⟨#[]⟩]) s6 (StB.keptT (t := 30) (cs := #[.slice none 0 0, .slice none 0 0, .slice none 0 0, .int .i64 0, .int .i64 0, .int .i64 0]) (by repeat' (first | with_reducible assumption | with_reducible refine StB.newE _ _ _ (by simp) | with_reducible refine StB.al ?_ | with_reducible refine StB.dr ?_ | with_reducible refine StB.bel ?_ (by with_reducible assumption))) (by repeat' (first | with_reducible assumption | with_reducible refine StB.newE _ _ _ (by simp) | with_reducible refine StB.al ?_ | with_reducible refine StB.dr ?_ | with_reducible refine StB.bel ?_ (by with_reducible assumption))) g6 (by decide)) g7 (by decide); have b7 : Below w2.heap.size w2 w7 := bel_put b6 g7 L7))
        all_goals
          go_wp2_with fail
          go_meet
          exact ⟨_, _, _, _, _, _, _, _, rfl, rfl, HS.out.addR3 b7 S6 s7 O7 L6 L7 (by decide) (by decide) (by decide)⟩
    case rest =>
      as_aux_lemma =>
        clear HS m_S_0 m_S_1 m_S_2 m_S_3 m_S_4 m_S_5 m_C_0 m_C_1 m_C_2 m_C_3 m_C_4
        obtain ⟨gW, kW, aoW, acW, boW, bcW, koW, kcW, rfl, rfl, HS⟩ := hcut
        obtain ⟨y3, hy3⟩ : ∃ y3, y3 = wc := ⟨_, rfl⟩
        rw [← hy3] at HS ⊢
        clear hy3
        have p_S_0 : y3.cell? ⟨w.heap.size, 0, none⟩ = some (u0) := Blk.cell (HS.out.get 4 rfl) 0 rfl
        have p_S_1 : y3.cell? ⟨w.heap.size, 1, none⟩ = some (v0) := Blk.cell (HS.out.get 4 rfl) 1 rfl
        have p_S_2 : y3.cell? ⟨w.heap.size, 2, none⟩ = some (q0) := Blk.cell (HS.out.get 4 rfl) 2 rfl
        have p_S_3 : y3.cell? ⟨w.heap.size, 3, none⟩ = some (.int .i64 r0.kd) := Blk.cell (HS.out.get 4 rfl) 3 rfl
        have p_S_4 : y3.cell? ⟨w.heap.size, 4, none⟩ = some (.int .i64 r0.ho) := Blk.cell (HS.out.get 4 rfl) 4 rfl
        have p_S_5 : y3.cell? ⟨w.heap.size, 5, none⟩ = some (.int .i64 r0.tu) := Blk.cell (HS.out.get 4 rfl) 5 rfl
        go_wp2_with fail
        clear p_S_0 p_S_1 p_S_2 p_S_3 p_S_4 p_S_5
        refine (TS.out _ HS.out.below).mono ?_
        rintro e y4 ⟨aX, bX, kX, rfl, oy4, by4⟩
        obtain ⟨aoX, acX, rfl⟩ := oy4.1.1.reads.form
        obtain ⟨boX, bcX, rfl⟩ := oy4.1.2.1.reads.form
        obtain ⟨koX, kcX, rfl⟩ := oy4.2.1.reads.form
        replace HS : Hid (Sta w y4 [Sto (.slice aoX xs0.length acX) (.slice boX ys0.length bcX) (.slice koX r0.ks.length kcX) xs0 ys0 r0.ks, Blk gW 30 (srA (.slice aoW ks.length acW) (.slice boW ns.length bcW) (.slice koW hh.ks.length kcW) hh), Blk kW 36 (anA an), Sto (.slice aoW ks.length acW) (.slice boW ns.length bcW) (.slice koW hh.ks.length kcW) ks ns hh.ks, Blk (w.heap.size + 1) 53 #[.int .i64 r2.o, .int .i64 r2.p, .int .i64 r2.a, .int .i64 r2.b, .int .i64 r2.k], Blk w.heap.size 52 #[u0, v0, q0, .int .i64 r0.kd, .int .i64 r0.ho, .int .i64 r0.tu]]) := HS.out.store oy4 by4
        clear oy4 by4
        obtain ⟨y5, hy5⟩ : ∃ y5, y5 = y4.alloc (.cells #[.slice aoX xs0.length acX, .slice boX ys0.length bcX, .slice koX r0.ks.length kcX, .int .i64 r0.kd, .int .i64 r0.ho, .int .i64 r0.tu] 30) := ⟨_, rfl⟩
        replace HS : Hid (Sta w y5 [Blk y4.heap.size 30 #[.slice aoX xs0.length acX, .slice boX ys0.length bcX, .slice koX r0.ks.length kcX, .int .i64 r0.kd, .int .i64 r0.ho, .int .i64 r0.tu], Sto (.slice aoX xs0.length acX) (.slice boX ys0.length bcX) (.slice koX r0.ks.length kcX) xs0 ys0 r0.ks, Blk gW 30 (srA (.slice aoW ks.length acW) (.slice boW ns.length bcW) (.slice koW hh.ks.length kcW) hh), Blk kW 36 (anA an), Sto (.slice aoW ks.length acW) (.slice boW ns.length bcW) (.slice koW hh.ks.length kcW) ks ns hh.ks, Blk (w.heap.size + 1) 53 #[.int .i64 r2.o, .int .i64 r2.p, .int .i64 r2.a, .int .i64 r2.b, .int .i64 r2.k], Blk w.heap.size 52 #[u0, v0, q0, .int .i64 r0.kd, .int .i64 r0.ho, .int .i64 r0.tu]]) := by rw [hy5]; exact HS.out.box _ _
        go_upto_region 7 with fail
        rw [← hy5]
        clear hy5
        have m_vX_0 : ∀ w', Sx y5 w' → w'.cell? ⟨y4.heap.size, 0, none⟩ = some (.slice aoX xs0.length acX) := fun w' b => later_cell (w := y5) (Blk.cell (HS.out.get 0 rfl) 0 rfl) b
        have m_vX_1 : ∀ w', Sx y5 w' → w'.cell? ⟨y4.heap.size, 1, none⟩ = some (.slice boX ys0.length bcX) := fun w' b => later_cell (w := y5) (Blk.cell (HS.out.get 0 rfl) 1 rfl) b
        have m_vX_2 : ∀ w', Sx y5 w' → w'.cell? ⟨y4.heap.size, 2, none⟩ = some (.slice koX r0.ks.length kcX) := fun w' b => later_cell (w := y5) (Blk.cell (HS.out.get 0 rfl) 2 rfl) b
        have m_vX_3 : ∀ w', Sx y5 w' → w'.cell? ⟨y4.heap.size, 3, none⟩ = some (.int .i64 r0.kd) := fun w' b => later_cell (w := y5) (Blk.cell (HS.out.get 0 rfl) 3 rfl) b
        have m_vX_4 : ∀ w', Sx y5 w' → w'.cell? ⟨y4.heap.size, 4, none⟩ = some (.int .i64 r0.ho) := fun w' b => later_cell (w := y5) (Blk.cell (HS.out.get 0 rfl) 4 rfl) b
        have m_vX_5 : ∀ w', Sx y5 w' → w'.cell? ⟨y4.heap.size, 5, none⟩ = some (.int .i64 r0.tu) := fun w' b => later_cell (w := y5) (Blk.cell (HS.out.get 0 rfl) 5 rfl) b
        have m_C_0 : ∀ w', Sx y5 w' → w'.cell? ⟨w.heap.size + 1, 0, none⟩ = some (.int .i64 r2.o) := fun w' b => later_cell (w := y5) (Blk.cell (HS.out.get 5 rfl) 0 rfl) b
        have m_C_1 : ∀ w', Sx y5 w' → w'.cell? ⟨w.heap.size + 1, 1, none⟩ = some (.int .i64 r2.p) := fun w' b => later_cell (w := y5) (Blk.cell (HS.out.get 5 rfl) 1 rfl) b
        have m_C_2 : ∀ w', Sx y5 w' → w'.cell? ⟨w.heap.size + 1, 2, none⟩ = some (.int .i64 r2.a) := fun w' b => later_cell (w := y5) (Blk.cell (HS.out.get 5 rfl) 2 rfl) b
        have m_C_3 : ∀ w', Sx y5 w' → w'.cell? ⟨w.heap.size + 1, 3, none⟩ = some (.int .i64 r2.b) := fun w' b => later_cell (w := y5) (Blk.cell (HS.out.get 5 rfl) 3 rfl) b
        have m_C_4 : ∀ w', Sx y5 w' → w'.cell? ⟨w.heap.size + 1, 4, none⟩ = some (.int .i64 r2.k) := fun w' b => later_cell (w := y5) (Blk.cell (HS.out.get 5 rfl) 4 rfl) b
        go_upto_region 7 with fail
        go_cut [11, 12] (fun p q wx => ∃ gG kG aoG acG boG bcG koG kcG, p = .pointer (some ⟨gG, 0, none⟩) ∧ q = .pointer (some ⟨kG, 0, none⟩) ∧ Hid (Sta w wx [Blk gG 30 (srA (.slice aoG ks.length acG) (.slice boG ns.length bcG) (.slice koG hh.ks.length kcG) hh), Blk kG 36 (anA an), Sto (.slice aoG ks.length acG) (.slice boG ns.length bcG) (.slice koG hh.ks.length kcG) ks ns hh.ks, Blk y4.heap.size 30 #[.slice aoX xs0.length acX, .slice boX ys0.length bcX, .slice koX r0.ks.length kcX, .int .i64 r0.kd, .int .i64 r0.ho, .int .i64 r0.tu], Sto (.slice aoX xs0.length acX) (.slice boX ys0.length bcX) (.slice koX r0.ks.length kcX) xs0 ys0 r0.ks, Blk gW 30 (srA (.slice aoW ks.length acW) (.slice boW ns.length bcW) (.slice koW hh.ks.length kcW) hh), Blk kW 36 (anA an), Sto (.slice aoW ks.length acW) (.slice boW ns.length bcW) (.slice koW hh.ks.length kcW) ks ns hh.ks, Blk (w.heap.size + 1) 53 #[.int .i64 r2.o, .int .i64 r2.p, .int .i64 r2.a, .int .i64 r2.b, .int .i64 r2.k], Blk w.heap.size 52 #[u0, v0, q0, .int .i64 r0.kd, .int .i64 r0.ho, .int .i64 r0.tu]]))
        case first =>
          as_aux_lemma =>
            go_region_held3 (fun w' => Sx y5 w') ((change Below y5.heap.size y5 _; exact (by repeat' (first | with_reducible assumption | with_reducible exact Below.refl _ _ | with_reducible refine bel_alloc ?_ | with_reducible refine bel_drew ?_ | with_reducible refine bel_trans ?_ (by with_reducible assumption)))))
              (first
                | (go_at_call 22; refine (TCm.out _).mono ?_; rintro e w4 ⟨rfl, b4⟩)
                | (go_at_call 7; refine (ID.out _ _ _ _ ((HS.out.rA 1 rfl).below (by repeat' (first | with_reducible assumption | with_reducible exact Below.refl _ _ | with_reducible refine bel_alloc ?_ | with_reducible refine bel_drew ?_ | with_reducible refine bel_trans ?_ (by with_reducible assumption))) (Nat.le_refl _)) ((HS.out.rB 1 rfl).below (by repeat' (first | with_reducible assumption | with_reducible exact Below.refl _ _ | with_reducible refine bel_alloc ?_ | with_reducible refine bel_drew ?_ | with_reducible refine bel_trans ?_ (by with_reducible assumption))) (Nat.le_refl _)) ((HS.out.rK 1 rfl).below (by repeat' (first | with_reducible assumption | with_reducible exact Below.refl _ _ | with_reducible refine bel_alloc ?_ | with_reducible refine bel_drew ?_ | with_reducible refine bel_trans ?_ (by with_reducible assumption))) (Nat.le_refl _)) (HP.out.below (bel_trans HS.out.below (by repeat' (first | with_reducible assumption | with_reducible exact Below.refl _ _ | with_reducible refine bel_alloc ?_ | with_reducible refine bel_drew ?_ | with_reducible refine bel_trans ?_ (by with_reducible assumption)))))).mono ?_; rintro e w5 ⟨a5, b5', k5, rfl, o5', b5⟩; obtain ⟨aoG, acG, rfl⟩ := o5'.1.1.reads.form; obtain ⟨boG, bcG, rfl⟩ := o5'.1.2.1.reads.form; obtain ⟨koG, kcG, rfl⟩ := o5'.2.1.reads.form; have O5 : Hid (OwnR w5 y5.heap.size (.slice aoG ks.length acG) (.slice boG ns.length bcG) (.slice koG hh.ks.length kcG) ks ns hh.ks) := o5'.mono (bel_size (by repeat' (first | with_reducible assumption | with_reducible exact Below.refl _ _ | with_reducible refine bel_alloc ?_ | with_reducible refine bel_drew ?_ | with_reducible refine bel_trans ?_ (by with_reducible assumption)))); clear o5')
                | ((with_reducible show Oper.upon _ _ _ _ _ (Result.andThen (Sem.run _ (storeCells _ (srA _ _ _ _).toList) _) _)); refine upon_putS _ 30 (srA (.slice aoG ks.length acG) (.slice boG ns.length bcG) (.slice koG hh.ks.length kcG) hh) #[.slice none 0 0, .slice none 0 0, .slice none 0 0, .int .i64 0, .int .i64 0, .int .i64 0] ?_ ?_ ?_ ?_; (focus exact rfl); (focus exact srA_one hh rfl rfl rfl); (focus exact (by repeat' (first | with_reducible assumption | with_reducible refine StB.newE _ _ _ (by simp) | with_reducible refine StB.al ?_ | with_reducible refine StB.dr ?_ | with_reducible refine StB.bel ?_ (by with_reducible assumption)))); intro w6 s6 g6; have O6 := OwnR.putBy (t := 30) (cs := #[.slice none 0 0, .slice none 0 0, .slice none 0 0, .int .i64 0, .int .i64 0, .int .i64 0]) (OwnR.below O5.out (by repeat' (first | with_reducible assumption | with_reducible exact Below.refl _ _ | with_reducible refine bel_alloc ?_ | with_reducible refine bel_drew ?_ | with_reducible refine bel_trans ?_ (by with_reducible assumption)))) (by repeat' (first | with_reducible assumption | with_reducible refine StB.newE _ _ _ (by simp) | with_reducible refine StB.al ?_ | with_reducible refine StB.dr ?_ | with_reducible refine StB.bel ?_ (by with_reducible assumption))) (by decide) g6; have L6 := ge_of (w := y5) g6 (by first | exact bel_size (by repeat' (first | with_reducible assumption | with_reducible exact Below.refl _ _ | with_reducible refine bel_alloc ?_ | with_reducible refine bel_drew ?_ | with_reducible refine bel_trans ?_ (by with_reducible assumption))) | exact Nat.le_succ_of_le (bel_size (by repeat' (first | with_reducible assumption | with_reducible exact Below.refl _ _ | with_reducible refine bel_alloc ?_ | with_reducible refine bel_drew ?_ | with_reducible refine bel_trans ?_ (by with_reducible assumption))))); have b6 : Below y5.heap.size y5 w6 := bel_put (by repeat' (first | with_reducible assumption | with_reducible exact Below.refl _ _ | with_reducible refine bel_alloc ?_ | with_reducible refine bel_drew ?_ | with_reducible refine bel_trans ?_ (by with_reducible assumption))) g6 L6)
                | ((with_reducible show Oper.upon _ _ _ _ _ (Result.andThen (Sem.run _ (storeCells _ (anA _).toList) _) _)); refine upon_putS _ 36 (anA an) #[.int .i64 0, .string ⟨#[]⟩] ?_ ?_ ?_ ?_; (focus exact rfl); (focus exact anA_one _); (focus exact (StB.keptT (t := 30) (cs := #[.slice none 0 0, .slice none 0 0, .slice none 0 0, .int .i64 0, .int .i64 0, .int .i64 0]) (by repeat' (first | with_reducible assumption | with_reducible refine StB.newE _ _ _ (by simp) | with_reducible refine StB.al ?_ | with_reducible refine StB.dr ?_ | with_reducible refine StB.bel ?_ (by with_reducible assumption))) (by repeat' (first | with_reducible assumption | with_reducible refine StB.newE _ _ _ (by simp) | with_reducible refine StB.al ?_ | with_reducible refine StB.dr ?_ | with_reducible refine StB.bel ?_ (by with_reducible assumption))) g6 (by decide))); intro w7 s7 g7; have L7 := ge_of (w := y5) g7 (by first | exact bel_size (by repeat' (first | with_reducible assumption | with_reducible exact Below.refl _ _ | with_reducible refine bel_alloc ?_ | with_reducible refine bel_drew ?_ | with_reducible refine bel_trans ?_ (by with_reducible assumption))) | exact Nat.le_succ_of_le (bel_size (by repeat' (first | with_reducible assumption | with_reducible exact Below.refl _ _ | with_reducible refine bel_alloc ?_ | with_reducible refine bel_drew ?_ | with_reducible refine bel_trans ?_ (by with_reducible assumption))))); have O7 := OwnR.putBy (t := 36) (cs := #[.int .i64 0, .string ⟨#[]⟩]) O6 (StB.keptT (t := 30) (cs := #[.slice none 0 0, .slice none 0 0, .slice none 0 0, .int .i64 0, .int .i64 0, .int .i64 0]) (by repeat' (first | with_reducible assumption | with_reducible refine StB.newE _ _ _ (by simp) | with_reducible refine StB.al ?_ | with_reducible refine StB.dr ?_ | with_reducible refine StB.bel ?_ (by with_reducible assumption))) (by repeat' (first | with_reducible assumption | with_reducible refine StB.newE _ _ _ (by simp) | with_reducible refine StB.al ?_ | with_reducible refine StB.dr ?_ | with_reducible refine StB.bel ?_ (by with_reducible assumption))) g6 (by decide)) (by decide) g7; have S6 := StB.keptT (t := 36) (cs := #[.int .i64 0, .string ⟨#[]⟩]) s6 (StB.keptT (t := 30) (cs := #[.slice none 0 0, .slice none 0 0, .slice none 0 0, .int .i64 0, .int .i64 0, .int .i64 0]) (by repeat' (first | with_reducible assumption | with_reducible refine StB.newE _ _ _ (by simp) | with_reducible refine StB.al ?_ | with_reducible refine StB.dr ?_ | with_reducible refine StB.bel ?_ (by with_reducible assumption))) (by repeat' (first | with_reducible assumption | with_reducible refine StB.newE _ _ _ (by simp) | with_reducible refine StB.al ?_ | with_reducible refine StB.dr ?_ | with_reducible refine StB.bel ?_ (by with_reducible assumption))) g6 (by decide)) g7 (by decide); have b7 : Below y5.heap.size y5 w7 := bel_put b6 g7 L7))
            all_goals
              go_wp2_with fail
              go_meet
              exact ⟨_, _, _, _, _, _, _, _, rfl, rfl, HS.out.addR3 b7 S6 s7 O7 L6 L7 (by decide) (by decide) (by decide)⟩
        case rest =>
          as_aux_lemma =>
            clear HS m_vX_0 m_vX_1 m_vX_2 m_vX_3 m_vX_4 m_vX_5 m_C_0 m_C_1 m_C_2 m_C_3 m_C_4
            obtain ⟨gG, kG, aoG, acG, boG, bcG, koG, kcG, rfl, rfl, HS⟩ := hcut
            obtain ⟨y6, hy6⟩ : ∃ y6, y6 = wc := ⟨_, rfl⟩
            rw [← hy6] at HS ⊢
            clear hy6
            have p_vG_0 : y6.cell? ⟨gG, 0, none⟩ = some (.slice aoG ks.length acG) := Blk.cell (HS.out.get 0 rfl) 0 rfl
            have p_vG_1 : y6.cell? ⟨gG, 1, none⟩ = some (.slice boG ns.length bcG) := Blk.cell (HS.out.get 0 rfl) 1 rfl
            have p_vG_2 : y6.cell? ⟨gG, 2, none⟩ = some (.slice koG hh.ks.length kcG) := Blk.cell (HS.out.get 0 rfl) 2 rfl
            have p_vG_3 : y6.cell? ⟨gG, 3, none⟩ = some (.int .i64 hh.kd) := Blk.cell (HS.out.get 0 rfl) 3 rfl
            have p_vG_4 : y6.cell? ⟨gG, 4, none⟩ = some (.int .i64 hh.ho) := Blk.cell (HS.out.get 0 rfl) 4 rfl
            have p_vG_5 : y6.cell? ⟨gG, 5, none⟩ = some (.int .i64 hh.tu) := Blk.cell (HS.out.get 0 rfl) 5 rfl
            have p_vW_0 : y6.cell? ⟨gW, 0, none⟩ = some (.slice aoW ks.length acW) := Blk.cell (HS.out.get 5 rfl) 0 rfl
            have p_vW_1 : y6.cell? ⟨gW, 1, none⟩ = some (.slice boW ns.length bcW) := Blk.cell (HS.out.get 5 rfl) 1 rfl
            have p_vW_2 : y6.cell? ⟨gW, 2, none⟩ = some (.slice koW hh.ks.length kcW) := Blk.cell (HS.out.get 5 rfl) 2 rfl
            have p_vW_3 : y6.cell? ⟨gW, 3, none⟩ = some (.int .i64 hh.kd) := Blk.cell (HS.out.get 5 rfl) 3 rfl
            have p_vW_4 : y6.cell? ⟨gW, 4, none⟩ = some (.int .i64 hh.ho) := Blk.cell (HS.out.get 5 rfl) 4 rfl
            have p_vW_5 : y6.cell? ⟨gW, 5, none⟩ = some (.int .i64 hh.tu) := Blk.cell (HS.out.get 5 rfl) 5 rfl
            go_wp2_with fail
            clear p_vG_0 p_vG_1 p_vG_2 p_vG_3 p_vG_4 p_vG_5 p_vW_0 p_vW_1 p_vW_2 p_vW_3 p_vW_4 p_vW_5
            refine (eqStore_any _ _ _ _ _ _ _ _ hh _ (HS.out.rA 2 rfl) (HS.out.rB 2 rfl) (HS.out.rK 2 rfl) (HS.out.rA 7 rfl) (HS.out.rB 7 rfl) (HS.out.rK 7 rfl) gk gn gh).mono ?_
            rintro e y7 ⟨rfl, by7⟩
            replace HS : Hid (Sta w y7 [Blk gG 30 (srA (.slice aoG ks.length acG) (.slice boG ns.length bcG) (.slice koG hh.ks.length kcG) hh), Blk kG 36 (anA an), Sto (.slice aoG ks.length acG) (.slice boG ns.length bcG) (.slice koG hh.ks.length kcG) ks ns hh.ks, Blk y4.heap.size 30 #[.slice aoX xs0.length acX, .slice boX ys0.length bcX, .slice koX r0.ks.length kcX, .int .i64 r0.kd, .int .i64 r0.ho, .int .i64 r0.tu], Sto (.slice aoX xs0.length acX) (.slice boX ys0.length bcX) (.slice koX r0.ks.length kcX) xs0 ys0 r0.ks, Blk gW 30 (srA (.slice aoW ks.length acW) (.slice boW ns.length bcW) (.slice koW hh.ks.length kcW) hh), Blk kW 36 (anA an), Sto (.slice aoW ks.length acW) (.slice boW ns.length bcW) (.slice koW hh.ks.length kcW) ks ns hh.ks, Blk (w.heap.size + 1) 53 #[.int .i64 r2.o, .int .i64 r2.p, .int .i64 r2.a, .int .i64 r2.b, .int .i64 r2.k], Blk w.heap.size 52 #[u0, v0, q0, .int .i64 r0.kd, .int .i64 r0.ho, .int .i64 r0.tu]]) := HS.out.next by7
            clear by7
            have p_aG_0 : y7.cell? ⟨kG, 0, none⟩ = some (.int .i64 an.st) := Blk.cell (HS.out.get 1 rfl) 0 rfl
            have p_aG_1 : y7.cell? ⟨kG, 1, none⟩ = some (.string ⟨an.tx.toArray⟩) := Blk.cell (HS.out.get 1 rfl) 1 rfl
            have p_aW_0 : y7.cell? ⟨kW, 0, none⟩ = some (.int .i64 an.st) := Blk.cell (HS.out.get 6 rfl) 0 rfl
            have p_aW_1 : y7.cell? ⟨kW, 1, none⟩ = some (.string ⟨an.tx.toArray⟩) := Blk.cell (HS.out.get 6 rfl) 1 rfl
            go_wp2_with fail
            clear p_aG_0 p_aG_1 p_aW_0 p_aW_1
            refine (EA.out _).mono ?_
            rintro e y8 ⟨rfl, by8⟩
            replace HS : Hid (Sta w y8 [Blk gG 30 (srA (.slice aoG ks.length acG) (.slice boG ns.length bcG) (.slice koG hh.ks.length kcG) hh), Blk kG 36 (anA an), Sto (.slice aoG ks.length acG) (.slice boG ns.length bcG) (.slice koG hh.ks.length kcG) ks ns hh.ks, Blk y4.heap.size 30 #[.slice aoX xs0.length acX, .slice boX ys0.length bcX, .slice koX r0.ks.length kcX, .int .i64 r0.kd, .int .i64 r0.ho, .int .i64 r0.tu], Sto (.slice aoX xs0.length acX) (.slice boX ys0.length bcX) (.slice koX r0.ks.length kcX) xs0 ys0 r0.ks, Blk gW 30 (srA (.slice aoW ks.length acW) (.slice boW ns.length bcW) (.slice koW hh.ks.length kcW) hh), Blk kW 36 (anA an), Sto (.slice aoW ks.length acW) (.slice boW ns.length bcW) (.slice koW hh.ks.length kcW) ks ns hh.ks, Blk (w.heap.size + 1) 53 #[.int .i64 r2.o, .int .i64 r2.p, .int .i64 r2.a, .int .i64 r2.b, .int .i64 r2.k], Blk w.heap.size 52 #[u0, v0, q0, .int .i64 r0.kd, .int .i64 r0.ho, .int .i64 r0.tu]]) := HS.out.next by8
            clear by8
            go_upto_region 10 with fail
            have m_vX_0 : ∀ w', Sx y8 w' → w'.cell? ⟨y4.heap.size, 0, none⟩ = some (.slice aoX xs0.length acX) := fun w' b => later_cell (w := y8) (Blk.cell (HS.out.get 3 rfl) 0 rfl) b
            have m_vX_1 : ∀ w', Sx y8 w' → w'.cell? ⟨y4.heap.size, 1, none⟩ = some (.slice boX ys0.length bcX) := fun w' b => later_cell (w := y8) (Blk.cell (HS.out.get 3 rfl) 1 rfl) b
            have m_vX_2 : ∀ w', Sx y8 w' → w'.cell? ⟨y4.heap.size, 2, none⟩ = some (.slice koX r0.ks.length kcX) := fun w' b => later_cell (w := y8) (Blk.cell (HS.out.get 3 rfl) 2 rfl) b
            have m_vX_3 : ∀ w', Sx y8 w' → w'.cell? ⟨y4.heap.size, 3, none⟩ = some (.int .i64 r0.kd) := fun w' b => later_cell (w := y8) (Blk.cell (HS.out.get 3 rfl) 3 rfl) b
            have m_vX_4 : ∀ w', Sx y8 w' → w'.cell? ⟨y4.heap.size, 4, none⟩ = some (.int .i64 r0.ho) := fun w' b => later_cell (w := y8) (Blk.cell (HS.out.get 3 rfl) 4 rfl) b
            have m_vX_5 : ∀ w', Sx y8 w' → w'.cell? ⟨y4.heap.size, 5, none⟩ = some (.int .i64 r0.tu) := fun w' b => later_cell (w := y8) (Blk.cell (HS.out.get 3 rfl) 5 rfl) b
            have m_S_0 : ∀ w', Sx y8 w' → w'.cell? ⟨w.heap.size, 0, none⟩ = some (u0) := fun w' b => later_cell (w := y8) (Blk.cell (HS.out.get 9 rfl) 0 rfl) b
            have m_S_1 : ∀ w', Sx y8 w' → w'.cell? ⟨w.heap.size, 1, none⟩ = some (v0) := fun w' b => later_cell (w := y8) (Blk.cell (HS.out.get 9 rfl) 1 rfl) b
            have m_S_2 : ∀ w', Sx y8 w' → w'.cell? ⟨w.heap.size, 2, none⟩ = some (q0) := fun w' b => later_cell (w := y8) (Blk.cell (HS.out.get 9 rfl) 2 rfl) b
            have m_S_3 : ∀ w', Sx y8 w' → w'.cell? ⟨w.heap.size, 3, none⟩ = some (.int .i64 r0.kd) := fun w' b => later_cell (w := y8) (Blk.cell (HS.out.get 9 rfl) 3 rfl) b
            have m_S_4 : ∀ w', Sx y8 w' → w'.cell? ⟨w.heap.size, 4, none⟩ = some (.int .i64 r0.ho) := fun w' b => later_cell (w := y8) (Blk.cell (HS.out.get 9 rfl) 4 rfl) b
            have m_S_5 : ∀ w', Sx y8 w' → w'.cell? ⟨w.heap.size, 5, none⟩ = some (.int .i64 r0.tu) := fun w' b => later_cell (w := y8) (Blk.cell (HS.out.get 9 rfl) 5 rfl) b
            go_region_held3 (fun w' => Sx y8 w') ((change Below y8.heap.size y8 _; exact (by repeat' (first | with_reducible assumption | with_reducible exact Below.refl _ _ | with_reducible refine bel_alloc ?_ | with_reducible refine bel_drew ?_ | with_reducible refine bel_trans ?_ (by with_reducible assumption)))))
              (first
                | (go_at_call 21; refine (TS.out _ (bel_trans HS.out.below (by repeat' (first | with_reducible assumption | with_reducible exact Below.refl _ _ | with_reducible refine bel_alloc ?_ | with_reducible refine bel_drew ?_ | with_reducible refine bel_trans ?_ (by with_reducible assumption))))).mono ?_; rintro e w3 ⟨a, b, k, rfl, o3', b3⟩; obtain ⟨ao, ac, rfl⟩ := o3'.1.1.reads.form; obtain ⟨bo, bc, rfl⟩ := o3'.1.2.1.reads.form; obtain ⟨ko, kc, rfl⟩ := o3'.2.1.reads.form; have O3 : Hid (OwnR w3 _ (.slice ao xs0.length ac) (.slice bo ys0.length bc) (.slice ko r0.ks.length kc) xs0 ys0 r0.ks) := o3'; clear o3')
                | (go_at_call 23; refine (eqStore_any _ _ _ _ _ _ _ _ r0 _ ((HS.out.rA 4 rfl).below (by repeat' (first | with_reducible assumption | with_reducible exact Below.refl _ _ | with_reducible refine bel_alloc ?_ | with_reducible refine bel_drew ?_ | with_reducible refine bel_trans ?_ (by with_reducible assumption))) (Nat.le_refl _)) ((HS.out.rB 4 rfl).below (by repeat' (first | with_reducible assumption | with_reducible exact Below.refl _ _ | with_reducible refine bel_alloc ?_ | with_reducible refine bel_drew ?_ | with_reducible refine bel_trans ?_ (by with_reducible assumption))) (Nat.le_refl _)) ((HS.out.rK 4 rfl).below (by repeat' (first | with_reducible assumption | with_reducible exact Below.refl _ _ | with_reducible refine bel_alloc ?_ | with_reducible refine bel_drew ?_ | with_reducible refine bel_trans ?_ (by with_reducible assumption))) (Nat.le_refl _)) (O3.out.1.1.reads.below (by repeat' (first | with_reducible assumption | with_reducible exact Below.refl _ _ | with_reducible refine bel_alloc ?_ | with_reducible refine bel_drew ?_ | with_reducible refine bel_trans ?_ (by with_reducible assumption))) (Nat.le_refl _)) (O3.out.1.2.1.reads.below (by repeat' (first | with_reducible assumption | with_reducible exact Below.refl _ _ | with_reducible refine bel_alloc ?_ | with_reducible refine bel_drew ?_ | with_reducible refine bel_trans ?_ (by with_reducible assumption))) (Nat.le_refl _)) (O3.out.2.1.reads.below (by repeat' (first | with_reducible assumption | with_reducible exact Below.refl _ _ | with_reducible refine bel_alloc ?_ | with_reducible refine bel_drew ?_ | with_reducible refine bel_trans ?_ (by with_reducible assumption))) (Nat.le_refl _)) gx0 gy0 gk0).mono ?_; rintro e w4 ⟨rfl, b4⟩))
            have by9 : Below y8.heap.size y8 w4 := (by repeat' (first | with_reducible assumption | with_reducible exact Below.refl _ _ | with_reducible refine bel_alloc ?_ | with_reducible refine bel_drew ?_ | with_reducible refine bel_trans ?_ (by with_reducible assumption)))
            clear O3 b3 b4 m_vX_0 m_vX_1 m_vX_2 m_vX_3 m_vX_4 m_vX_5 m_S_0 m_S_1 m_S_2 m_S_3 m_S_4 m_S_5
            replace HS : Hid (Sta w w4 [Blk gG 30 (srA (.slice aoG ks.length acG) (.slice boG ns.length bcG) (.slice koG hh.ks.length kcG) hh), Blk kG 36 (anA an), Sto (.slice aoG ks.length acG) (.slice boG ns.length bcG) (.slice koG hh.ks.length kcG) ks ns hh.ks, Blk y4.heap.size 30 #[.slice aoX xs0.length acX, .slice boX ys0.length bcX, .slice koX r0.ks.length kcX, .int .i64 r0.kd, .int .i64 r0.ho, .int .i64 r0.tu], Sto (.slice aoX xs0.length acX) (.slice boX ys0.length bcX) (.slice koX r0.ks.length kcX) xs0 ys0 r0.ks, Blk gW 30 (srA (.slice aoW ks.length acW) (.slice boW ns.length bcW) (.slice koW hh.ks.length kcW) hh), Blk kW 36 (anA an), Sto (.slice aoW ks.length acW) (.slice boW ns.length bcW) (.slice koW hh.ks.length kcW) ks ns hh.ks, Blk (w.heap.size + 1) 53 #[.int .i64 r2.o, .int .i64 r2.p, .int .i64 r2.a, .int .i64 r2.b, .int .i64 r2.k], Blk w.heap.size 52 #[u0, v0, q0, .int .i64 r0.kd, .int .i64 r0.ho, .int .i64 r0.tu]]) := HS.out.next by9
            clear by9
            obtain ⟨y9, hy9⟩ : ∃ y9, y9 = w4 := ⟨_, rfl⟩
            rw [← hy9] at HS ⊢
            clear hy9
            have p_vX_0 : y9.cell? ⟨y4.heap.size, 0, none⟩ = some (.slice aoX xs0.length acX) := Blk.cell (HS.out.get 3 rfl) 0 rfl
            have p_vX_1 : y9.cell? ⟨y4.heap.size, 1, none⟩ = some (.slice boX ys0.length bcX) := Blk.cell (HS.out.get 3 rfl) 1 rfl
            have p_vX_2 : y9.cell? ⟨y4.heap.size, 2, none⟩ = some (.slice koX r0.ks.length kcX) := Blk.cell (HS.out.get 3 rfl) 2 rfl
            have p_vX_3 : y9.cell? ⟨y4.heap.size, 3, none⟩ = some (.int .i64 r0.kd) := Blk.cell (HS.out.get 3 rfl) 3 rfl
            have p_vX_4 : y9.cell? ⟨y4.heap.size, 4, none⟩ = some (.int .i64 r0.ho) := Blk.cell (HS.out.get 3 rfl) 4 rfl
            have p_vX_5 : y9.cell? ⟨y4.heap.size, 5, none⟩ = some (.int .i64 r0.tu) := Blk.cell (HS.out.get 3 rfl) 5 rfl
            go_wp2_with fail
            clear p_vX_0 p_vX_1 p_vX_2 p_vX_3 p_vX_4 p_vX_5
            refine (markStore_any _ _ _ xs0 ys0 r0 1 _ 0 (HS.out.get 4 rfl) sx0 sy0 sk0 (by omega) (by omega) (by omega)).mono ?_
            rintro e y10 ⟨rfl, oy10, my10⟩
            replace HS : Hid (Sta w y10 [Blk gG 30 (srA (.slice aoG ks.length acG) (.slice boG ns.length bcG) (.slice koG hh.ks.length kcG) hh), Blk kG 36 (anA an), Sto (.slice aoG ks.length acG) (.slice boG ns.length bcG) (.slice koG hh.ks.length kcG) ks ns hh.ks, Blk y4.heap.size 30 #[.slice aoX xs0.length acX, .slice boX ys0.length bcX, .slice koX r0.ks.length kcX, .int .i64 r0.kd, .int .i64 r0.ho, .int .i64 r0.tu], Sto (.slice aoX xs0.length acX) (.slice boX ys0.length bcX) (.slice koX r0.ks.length kcX) (marks 1 xs0.length) (marks (1 + xs0.length) ys0.length) (marks (1 + xs0.length + ys0.length) r0.ks.length), Blk gW 30 (srA (.slice aoW ks.length acW) (.slice boW ns.length bcW) (.slice koW hh.ks.length kcW) hh), Blk kW 36 (anA an), Sto (.slice aoW ks.length acW) (.slice boW ns.length bcW) (.slice koW hh.ks.length kcW) ks ns hh.ks, Blk (w.heap.size + 1) 53 #[.int .i64 r2.o, .int .i64 r2.p, .int .i64 r2.a, .int .i64 r2.b, .int .i64 r2.k], Blk w.heap.size 52 #[u0, v0, q0, .int .i64 r0.kd, .int .i64 r0.ho, .int .i64 r0.tu]]) := HS.out.marked3 4 rfl oy10 my10
            clear oy10 my10
            have p_vG_0 : y10.cell? ⟨gG, 0, none⟩ = some (.slice aoG ks.length acG) := Blk.cell (HS.out.get 0 rfl) 0 rfl
            have p_vG_1 : y10.cell? ⟨gG, 1, none⟩ = some (.slice boG ns.length bcG) := Blk.cell (HS.out.get 0 rfl) 1 rfl
            have p_vG_2 : y10.cell? ⟨gG, 2, none⟩ = some (.slice koG hh.ks.length kcG) := Blk.cell (HS.out.get 0 rfl) 2 rfl
            have p_vG_3 : y10.cell? ⟨gG, 3, none⟩ = some (.int .i64 hh.kd) := Blk.cell (HS.out.get 0 rfl) 3 rfl
            have p_vG_4 : y10.cell? ⟨gG, 4, none⟩ = some (.int .i64 hh.ho) := Blk.cell (HS.out.get 0 rfl) 4 rfl
            have p_vG_5 : y10.cell? ⟨gG, 5, none⟩ = some (.int .i64 hh.tu) := Blk.cell (HS.out.get 0 rfl) 5 rfl
            have p_vW_0 : y10.cell? ⟨gW, 0, none⟩ = some (.slice aoW ks.length acW) := Blk.cell (HS.out.get 5 rfl) 0 rfl
            have p_vW_1 : y10.cell? ⟨gW, 1, none⟩ = some (.slice boW ns.length bcW) := Blk.cell (HS.out.get 5 rfl) 1 rfl
            have p_vW_2 : y10.cell? ⟨gW, 2, none⟩ = some (.slice koW hh.ks.length kcW) := Blk.cell (HS.out.get 5 rfl) 2 rfl
            have p_vW_3 : y10.cell? ⟨gW, 3, none⟩ = some (.int .i64 hh.kd) := Blk.cell (HS.out.get 5 rfl) 3 rfl
            have p_vW_4 : y10.cell? ⟨gW, 4, none⟩ = some (.int .i64 hh.ho) := Blk.cell (HS.out.get 5 rfl) 4 rfl
            have p_vW_5 : y10.cell? ⟨gW, 5, none⟩ = some (.int .i64 hh.tu) := Blk.cell (HS.out.get 5 rfl) 5 rfl
            go_wp2_with fail
            clear p_vG_0 p_vG_1 p_vG_2 p_vG_3 p_vG_4 p_vG_5 p_vW_0 p_vW_1 p_vW_2 p_vW_3 p_vW_4 p_vW_5
            refine (eqStore_any _ _ _ _ _ _ _ _ hh _ (HS.out.rA 2 rfl) (HS.out.rB 2 rfl) (HS.out.rK 2 rfl) (HS.out.rA 7 rfl) (HS.out.rB 7 rfl) (HS.out.rK 7 rfl) gk gn gh).mono ?_
            rintro e y11 ⟨rfl, by11⟩
            replace HS : Hid (Sta w y11 [Blk gG 30 (srA (.slice aoG ks.length acG) (.slice boG ns.length bcG) (.slice koG hh.ks.length kcG) hh), Blk kG 36 (anA an), Sto (.slice aoG ks.length acG) (.slice boG ns.length bcG) (.slice koG hh.ks.length kcG) ks ns hh.ks, Blk y4.heap.size 30 #[.slice aoX xs0.length acX, .slice boX ys0.length bcX, .slice koX r0.ks.length kcX, .int .i64 r0.kd, .int .i64 r0.ho, .int .i64 r0.tu], Sto (.slice aoX xs0.length acX) (.slice boX ys0.length bcX) (.slice koX r0.ks.length kcX) (marks 1 xs0.length) (marks (1 + xs0.length) ys0.length) (marks (1 + xs0.length + ys0.length) r0.ks.length), Blk gW 30 (srA (.slice aoW ks.length acW) (.slice boW ns.length bcW) (.slice koW hh.ks.length kcW) hh), Blk kW 36 (anA an), Sto (.slice aoW ks.length acW) (.slice boW ns.length bcW) (.slice koW hh.ks.length kcW) ks ns hh.ks, Blk (w.heap.size + 1) 53 #[.int .i64 r2.o, .int .i64 r2.p, .int .i64 r2.a, .int .i64 r2.b, .int .i64 r2.k], Blk w.heap.size 52 #[u0, v0, q0, .int .i64 r0.kd, .int .i64 r0.ho, .int .i64 r0.tu]]) := HS.out.next by11
            clear by11
            have p_aG_0 : y11.cell? ⟨kG, 0, none⟩ = some (.int .i64 an.st) := Blk.cell (HS.out.get 1 rfl) 0 rfl
            have p_aG_1 : y11.cell? ⟨kG, 1, none⟩ = some (.string ⟨an.tx.toArray⟩) := Blk.cell (HS.out.get 1 rfl) 1 rfl
            have p_aW_0 : y11.cell? ⟨kW, 0, none⟩ = some (.int .i64 an.st) := Blk.cell (HS.out.get 6 rfl) 0 rfl
            have p_aW_1 : y11.cell? ⟨kW, 1, none⟩ = some (.string ⟨an.tx.toArray⟩) := Blk.cell (HS.out.get 6 rfl) 1 rfl
            go_wp2_with fail
            clear p_aG_0 p_aG_1 p_aW_0 p_aW_1
            refine (EA.out _).mono ?_
            rintro e y12 ⟨rfl, by12⟩
            replace HS : Hid (Sta w y12 [Blk gG 30 (srA (.slice aoG ks.length acG) (.slice boG ns.length bcG) (.slice koG hh.ks.length kcG) hh), Blk kG 36 (anA an), Sto (.slice aoG ks.length acG) (.slice boG ns.length bcG) (.slice koG hh.ks.length kcG) ks ns hh.ks, Blk y4.heap.size 30 #[.slice aoX xs0.length acX, .slice boX ys0.length bcX, .slice koX r0.ks.length kcX, .int .i64 r0.kd, .int .i64 r0.ho, .int .i64 r0.tu], Sto (.slice aoX xs0.length acX) (.slice boX ys0.length bcX) (.slice koX r0.ks.length kcX) (marks 1 xs0.length) (marks (1 + xs0.length) ys0.length) (marks (1 + xs0.length + ys0.length) r0.ks.length), Blk gW 30 (srA (.slice aoW ks.length acW) (.slice boW ns.length bcW) (.slice koW hh.ks.length kcW) hh), Blk kW 36 (anA an), Sto (.slice aoW ks.length acW) (.slice boW ns.length bcW) (.slice koW hh.ks.length kcW) ks ns hh.ks, Blk (w.heap.size + 1) 53 #[.int .i64 r2.o, .int .i64 r2.p, .int .i64 r2.a, .int .i64 r2.b, .int .i64 r2.k], Blk w.heap.size 52 #[u0, v0, q0, .int .i64 r0.kd, .int .i64 r0.ho, .int .i64 r0.tu]]) := HS.out.next by12
            clear by12
            have p_vG_0 : y12.cell? ⟨gG, 0, none⟩ = some (.slice aoG ks.length acG) := Blk.cell (HS.out.get 0 rfl) 0 rfl
            have p_vG_1 : y12.cell? ⟨gG, 1, none⟩ = some (.slice boG ns.length bcG) := Blk.cell (HS.out.get 0 rfl) 1 rfl
            have p_vG_2 : y12.cell? ⟨gG, 2, none⟩ = some (.slice koG hh.ks.length kcG) := Blk.cell (HS.out.get 0 rfl) 2 rfl
            have p_vG_3 : y12.cell? ⟨gG, 3, none⟩ = some (.int .i64 hh.kd) := Blk.cell (HS.out.get 0 rfl) 3 rfl
            have p_vG_4 : y12.cell? ⟨gG, 4, none⟩ = some (.int .i64 hh.ho) := Blk.cell (HS.out.get 0 rfl) 4 rfl
            have p_vG_5 : y12.cell? ⟨gG, 5, none⟩ = some (.int .i64 hh.tu) := Blk.cell (HS.out.get 0 rfl) 5 rfl
            go_wp2_with fail
            clear p_vG_0 p_vG_1 p_vG_2 p_vG_3 p_vG_4 p_vG_5
            refine (markStore_any _ _ _ ks ns hh 1 _ 0 (HS.out.get 2 rfl) sk sn sh (by omega) (by omega) (by omega)).mono ?_
            rintro e y13 ⟨rfl, oy13, my13⟩
            replace HS : Hid (Sta w y13 [Blk gG 30 (srA (.slice aoG ks.length acG) (.slice boG ns.length bcG) (.slice koG hh.ks.length kcG) hh), Blk kG 36 (anA an), Sto (.slice aoG ks.length acG) (.slice boG ns.length bcG) (.slice koG hh.ks.length kcG) (marks 1 ks.length) (marks (1 + ks.length) ns.length) (marks (1 + ks.length + ns.length) hh.ks.length), Blk y4.heap.size 30 #[.slice aoX xs0.length acX, .slice boX ys0.length bcX, .slice koX r0.ks.length kcX, .int .i64 r0.kd, .int .i64 r0.ho, .int .i64 r0.tu], Sto (.slice aoX xs0.length acX) (.slice boX ys0.length bcX) (.slice koX r0.ks.length kcX) (marks 1 xs0.length) (marks (1 + xs0.length) ys0.length) (marks (1 + xs0.length + ys0.length) r0.ks.length), Blk gW 30 (srA (.slice aoW ks.length acW) (.slice boW ns.length bcW) (.slice koW hh.ks.length kcW) hh), Blk kW 36 (anA an), Sto (.slice aoW ks.length acW) (.slice boW ns.length bcW) (.slice koW hh.ks.length kcW) ks ns hh.ks, Blk (w.heap.size + 1) 53 #[.int .i64 r2.o, .int .i64 r2.p, .int .i64 r2.a, .int .i64 r2.b, .int .i64 r2.k], Blk w.heap.size 52 #[u0, v0, q0, .int .i64 r0.kd, .int .i64 r0.ho, .int .i64 r0.tu]]) := HS.out.marked3 2 rfl oy13 my13
            clear oy13 my13
            have p_vG_0 : y13.cell? ⟨gG, 0, none⟩ = some (.slice aoG ks.length acG) := Blk.cell (HS.out.get 0 rfl) 0 rfl
            have p_vG_1 : y13.cell? ⟨gG, 1, none⟩ = some (.slice boG ns.length bcG) := Blk.cell (HS.out.get 0 rfl) 1 rfl
            have p_vG_2 : y13.cell? ⟨gG, 2, none⟩ = some (.slice koG hh.ks.length kcG) := Blk.cell (HS.out.get 0 rfl) 2 rfl
            have p_vG_3 : y13.cell? ⟨gG, 3, none⟩ = some (.int .i64 hh.kd) := Blk.cell (HS.out.get 0 rfl) 3 rfl
            have p_vG_4 : y13.cell? ⟨gG, 4, none⟩ = some (.int .i64 hh.ho) := Blk.cell (HS.out.get 0 rfl) 4 rfl
            have p_vG_5 : y13.cell? ⟨gG, 5, none⟩ = some (.int .i64 hh.tu) := Blk.cell (HS.out.get 0 rfl) 5 rfl
            go_wp2_with fail
            clear p_vG_0 p_vG_1 p_vG_2 p_vG_3 p_vG_4 p_vG_5
            refine (heldStore_any _ _ _ hh ks.length ns.length hh.ks.length 1 _ rfl (HS.out.rA 2 rfl) (HS.out.rB 2 rfl) (HS.out.rK 2 rfl) sk sn sh (by omega) (by omega) (by omega)).mono ?_
            rintro e y14 ⟨rfl, by14⟩
            replace HS : Hid (Sta w y14 [Blk gG 30 (srA (.slice aoG ks.length acG) (.slice boG ns.length bcG) (.slice koG hh.ks.length kcG) hh), Blk kG 36 (anA an), Sto (.slice aoG ks.length acG) (.slice boG ns.length bcG) (.slice koG hh.ks.length kcG) (marks 1 ks.length) (marks (1 + ks.length) ns.length) (marks (1 + ks.length + ns.length) hh.ks.length), Blk y4.heap.size 30 #[.slice aoX xs0.length acX, .slice boX ys0.length bcX, .slice koX r0.ks.length kcX, .int .i64 r0.kd, .int .i64 r0.ho, .int .i64 r0.tu], Sto (.slice aoX xs0.length acX) (.slice boX ys0.length bcX) (.slice koX r0.ks.length kcX) (marks 1 xs0.length) (marks (1 + xs0.length) ys0.length) (marks (1 + xs0.length + ys0.length) r0.ks.length), Blk gW 30 (srA (.slice aoW ks.length acW) (.slice boW ns.length bcW) (.slice koW hh.ks.length kcW) hh), Blk kW 36 (anA an), Sto (.slice aoW ks.length acW) (.slice boW ns.length bcW) (.slice koW hh.ks.length kcW) ks ns hh.ks, Blk (w.heap.size + 1) 53 #[.int .i64 r2.o, .int .i64 r2.p, .int .i64 r2.a, .int .i64 r2.b, .int .i64 r2.k], Blk w.heap.size 52 #[u0, v0, q0, .int .i64 r0.kd, .int .i64 r0.ho, .int .i64 r0.tu]]) := HS.out.next by14
            clear by14
            have m_S_0 : ∀ w', Sx y14 w' → w'.cell? ⟨w.heap.size, 0, none⟩ = some (u0) := fun w' b => later_cell (w := y14) (Blk.cell (HS.out.get 9 rfl) 0 rfl) b
            have m_S_1 : ∀ w', Sx y14 w' → w'.cell? ⟨w.heap.size, 1, none⟩ = some (v0) := fun w' b => later_cell (w := y14) (Blk.cell (HS.out.get 9 rfl) 1 rfl) b
            have m_S_2 : ∀ w', Sx y14 w' → w'.cell? ⟨w.heap.size, 2, none⟩ = some (q0) := fun w' b => later_cell (w := y14) (Blk.cell (HS.out.get 9 rfl) 2 rfl) b
            have m_S_3 : ∀ w', Sx y14 w' → w'.cell? ⟨w.heap.size, 3, none⟩ = some (.int .i64 r0.kd) := fun w' b => later_cell (w := y14) (Blk.cell (HS.out.get 9 rfl) 3 rfl) b
            have m_S_4 : ∀ w', Sx y14 w' → w'.cell? ⟨w.heap.size, 4, none⟩ = some (.int .i64 r0.ho) := fun w' b => later_cell (w := y14) (Blk.cell (HS.out.get 9 rfl) 4 rfl) b
            have m_S_5 : ∀ w', Sx y14 w' → w'.cell? ⟨w.heap.size, 5, none⟩ = some (.int .i64 r0.tu) := fun w' b => later_cell (w := y14) (Blk.cell (HS.out.get 9 rfl) 5 rfl) b
            have m_C_0 : ∀ w', Sx y14 w' → w'.cell? ⟨w.heap.size + 1, 0, none⟩ = some (.int .i64 r2.o) := fun w' b => later_cell (w := y14) (Blk.cell (HS.out.get 8 rfl) 0 rfl) b
            have m_C_1 : ∀ w', Sx y14 w' → w'.cell? ⟨w.heap.size + 1, 1, none⟩ = some (.int .i64 r2.p) := fun w' b => later_cell (w := y14) (Blk.cell (HS.out.get 8 rfl) 1 rfl) b
            have m_C_2 : ∀ w', Sx y14 w' → w'.cell? ⟨w.heap.size + 1, 2, none⟩ = some (.int .i64 r2.a) := fun w' b => later_cell (w := y14) (Blk.cell (HS.out.get 8 rfl) 2 rfl) b
            have m_C_3 : ∀ w', Sx y14 w' → w'.cell? ⟨w.heap.size + 1, 3, none⟩ = some (.int .i64 r2.b) := fun w' b => later_cell (w := y14) (Blk.cell (HS.out.get 8 rfl) 3 rfl) b
            have m_C_4 : ∀ w', Sx y14 w' → w'.cell? ⟨w.heap.size + 1, 4, none⟩ = some (.int .i64 r2.k) := fun w' b => later_cell (w := y14) (Blk.cell (HS.out.get 8 rfl) 4 rfl) b
            go_upto_region 24 with fail
            go_cut [16, 17] (fun p q wx => ∃ gH kH aoH acH boH bcH koH kcH, p = .pointer (some ⟨gH, 0, none⟩) ∧ q = .pointer (some ⟨kH, 0, none⟩) ∧ Hid (Sta w wx [Blk gH 30 (srA (.slice aoH ks.length acH) (.slice boH ns.length bcH) (.slice koH hh.ks.length kcH) hh), Blk kH 36 (anA an), Sto (.slice aoH ks.length acH) (.slice boH ns.length bcH) (.slice koH hh.ks.length kcH) ks ns hh.ks, Blk gG 30 (srA (.slice aoG ks.length acG) (.slice boG ns.length bcG) (.slice koG hh.ks.length kcG) hh), Blk kG 36 (anA an), Sto (.slice aoG ks.length acG) (.slice boG ns.length bcG) (.slice koG hh.ks.length kcG) (marks 1 ks.length) (marks (1 + ks.length) ns.length) (marks (1 + ks.length + ns.length) hh.ks.length), Blk y4.heap.size 30 #[.slice aoX xs0.length acX, .slice boX ys0.length bcX, .slice koX r0.ks.length kcX, .int .i64 r0.kd, .int .i64 r0.ho, .int .i64 r0.tu], Sto (.slice aoX xs0.length acX) (.slice boX ys0.length bcX) (.slice koX r0.ks.length kcX) (marks 1 xs0.length) (marks (1 + xs0.length) ys0.length) (marks (1 + xs0.length + ys0.length) r0.ks.length), Blk gW 30 (srA (.slice aoW ks.length acW) (.slice boW ns.length bcW) (.slice koW hh.ks.length kcW) hh), Blk kW 36 (anA an), Sto (.slice aoW ks.length acW) (.slice boW ns.length bcW) (.slice koW hh.ks.length kcW) ks ns hh.ks, Blk (w.heap.size + 1) 53 #[.int .i64 r2.o, .int .i64 r2.p, .int .i64 r2.a, .int .i64 r2.b, .int .i64 r2.k], Blk w.heap.size 52 #[u0, v0, q0, .int .i64 r0.kd, .int .i64 r0.ho, .int .i64 r0.tu]]))
            case first =>
              as_aux_lemma =>
                go_region_held3 (fun w' => Sx y14 w') ((change Below y14.heap.size y14 _; exact (by repeat' (first | with_reducible assumption | with_reducible exact Below.refl _ _ | with_reducible refine bel_alloc ?_ | with_reducible refine bel_drew ?_ | with_reducible refine bel_trans ?_ (by with_reducible assumption)))))
                  (first
                    | (go_at_call 21; refine (TS.out _ (bel_trans HS.out.below (by repeat' (first | with_reducible assumption | with_reducible exact Below.refl _ _ | with_reducible refine bel_alloc ?_ | with_reducible refine bel_drew ?_ | with_reducible refine bel_trans ?_ (by with_reducible assumption))))).mono ?_; rintro e w3 ⟨a, b, k, rfl, o3', b3⟩; obtain ⟨ao, ac, rfl⟩ := o3'.1.1.reads.form; obtain ⟨bo, bc, rfl⟩ := o3'.1.2.1.reads.form; obtain ⟨ko, kc, rfl⟩ := o3'.2.1.reads.form; have O3 : Hid (OwnR w3 _ (.slice ao xs0.length ac) (.slice bo ys0.length bc) (.slice ko r0.ks.length kc) xs0 ys0 r0.ks) := o3'; clear o3')
                    | (go_at_call 22; refine (TCm.out _).mono ?_; rintro e w4 ⟨rfl, b4⟩)
                    | (go_at_call 7; refine (ID.out _ _ _ _ (O3.out.1.1.reads.below (by repeat' (first | with_reducible assumption | with_reducible exact Below.refl _ _ | with_reducible refine bel_alloc ?_ | with_reducible refine bel_drew ?_ | with_reducible refine bel_trans ?_ (by with_reducible assumption))) (Nat.le_refl _)) (O3.out.1.2.1.reads.below (by repeat' (first | with_reducible assumption | with_reducible exact Below.refl _ _ | with_reducible refine bel_alloc ?_ | with_reducible refine bel_drew ?_ | with_reducible refine bel_trans ?_ (by with_reducible assumption))) (Nat.le_refl _)) (O3.out.2.1.reads.below (by repeat' (first | with_reducible assumption | with_reducible exact Below.refl _ _ | with_reducible refine bel_alloc ?_ | with_reducible refine bel_drew ?_ | with_reducible refine bel_trans ?_ (by with_reducible assumption))) (Nat.le_refl _)) (HP.out.below (bel_trans HS.out.below (by repeat' (first | with_reducible assumption | with_reducible exact Below.refl _ _ | with_reducible refine bel_alloc ?_ | with_reducible refine bel_drew ?_ | with_reducible refine bel_trans ?_ (by with_reducible assumption)))))).mono ?_; rintro e w5 ⟨a5, b5', k5, rfl, o5', b5⟩; obtain ⟨aoH, acH, rfl⟩ := o5'.1.1.reads.form; obtain ⟨boH, bcH, rfl⟩ := o5'.1.2.1.reads.form; obtain ⟨koH, kcH, rfl⟩ := o5'.2.1.reads.form; have O5 : Hid (OwnR w5 y14.heap.size (.slice aoH ks.length acH) (.slice boH ns.length bcH) (.slice koH hh.ks.length kcH) ks ns hh.ks) := o5'.mono (bel_size (by repeat' (first | with_reducible assumption | with_reducible exact Below.refl _ _ | with_reducible refine bel_alloc ?_ | with_reducible refine bel_drew ?_ | with_reducible refine bel_trans ?_ (by with_reducible assumption)))); clear o5')
                    | ((with_reducible show Oper.upon _ _ _ _ _ (Result.andThen (Sem.run _ (storeCells _ (srA _ _ _ _).toList) _) _)); refine upon_putS _ 30 (srA (.slice aoH ks.length acH) (.slice boH ns.length bcH) (.slice koH hh.ks.length kcH) hh) #[.slice none 0 0, .slice none 0 0, .slice none 0 0, .int .i64 0, .int .i64 0, .int .i64 0] ?_ ?_ ?_ ?_; (focus exact rfl); (focus exact srA_one hh rfl rfl rfl); (focus exact (by repeat' (first | with_reducible assumption | with_reducible refine StB.newE _ _ _ (by simp) | with_reducible refine StB.al ?_ | with_reducible refine StB.dr ?_ | with_reducible refine StB.bel ?_ (by with_reducible assumption)))); intro w6 s6 g6; have O6 := OwnR.putBy (t := 30) (cs := #[.slice none 0 0, .slice none 0 0, .slice none 0 0, .int .i64 0, .int .i64 0, .int .i64 0]) (OwnR.below O5.out (by repeat' (first | with_reducible assumption | with_reducible exact Below.refl _ _ | with_reducible refine bel_alloc ?_ | with_reducible refine bel_drew ?_ | with_reducible refine bel_trans ?_ (by with_reducible assumption)))) (by repeat' (first | with_reducible assumption | with_reducible refine StB.newE _ _ _ (by simp) | with_reducible refine StB.al ?_ | with_reducible refine StB.dr ?_ | with_reducible refine StB.bel ?_ (by with_reducible assumption))) (by decide) g6; have L6 := ge_of (w := y14) g6 (by first | exact bel_size (by repeat' (first | with_reducible assumption | with_reducible exact Below.refl _ _ | with_reducible refine bel_alloc ?_ | with_reducible refine bel_drew ?_ | with_reducible refine bel_trans ?_ (by with_reducible assumption))) | exact Nat.le_succ_of_le (bel_size (by repeat' (first | with_reducible assumption | with_reducible exact Below.refl _ _ | with_reducible refine bel_alloc ?_ | with_reducible refine bel_drew ?_ | with_reducible refine bel_trans ?_ (by with_reducible assumption))))); have b6 : Below y14.heap.size y14 w6 := bel_put (by repeat' (first | with_reducible assumption | with_reducible exact Below.refl _ _ | with_reducible refine bel_alloc ?_ | with_reducible refine bel_drew ?_ | with_reducible refine bel_trans ?_ (by with_reducible assumption))) g6 L6)
                    | ((with_reducible show Oper.upon _ _ _ _ _ (Result.andThen (Sem.run _ (storeCells _ (anA _).toList) _) _)); refine upon_putS _ 36 (anA an) #[.int .i64 0, .string ⟨#[]⟩] ?_ ?_ ?_ ?_; (focus exact rfl); (focus exact anA_one _); (focus exact (StB.keptT (t := 30) (cs := #[.slice none 0 0, .slice none 0 0, .slice none 0 0, .int .i64 0, .int .i64 0, .int .i64 0]) (by repeat' (first | with_reducible assumption | with_reducible refine StB.newE _ _ _ (by simp) | with_reducible refine StB.al ?_ | with_reducible refine StB.dr ?_ | with_reducible refine StB.bel ?_ (by with_reducible assumption))) (by repeat' (first | with_reducible assumption | with_reducible refine StB.newE _ _ _ (by simp) | with_reducible refine StB.al ?_ | with_reducible refine StB.dr ?_ | with_reducible refine StB.bel ?_ (by with_reducible assumption))) g6 (by decide))); intro w7 s7 g7; have L7 := ge_of (w := y14) g7 (by first | exact bel_size (by repeat' (first | with_reducible assumption | with_reducible exact Below.refl _ _ | with_reducible refine bel_alloc ?_ | with_reducible refine bel_drew ?_ | with_reducible refine bel_trans ?_ (by with_reducible assumption))) | exact Nat.le_succ_of_le (bel_size (by repeat' (first | with_reducible assumption | with_reducible exact Below.refl _ _ | with_reducible refine bel_alloc ?_ | with_reducible refine bel_drew ?_ | with_reducible refine bel_trans ?_ (by with_reducible assumption))))); have O7 := OwnR.putBy (t := 36) (cs := #[.int .i64 0, .string ⟨#[]⟩]) O6 (StB.keptT (t := 30) (cs := #[.slice none 0 0, .slice none 0 0, .slice none 0 0, .int .i64 0, .int .i64 0, .int .i64 0]) (by repeat' (first | with_reducible assumption | with_reducible refine StB.newE _ _ _ (by simp) | with_reducible refine StB.al ?_ | with_reducible refine StB.dr ?_ | with_reducible refine StB.bel ?_ (by with_reducible assumption))) (by repeat' (first | with_reducible assumption | with_reducible refine StB.newE _ _ _ (by simp) | with_reducible refine StB.al ?_ | with_reducible refine StB.dr ?_ | with_reducible refine StB.bel ?_ (by with_reducible assumption))) g6 (by decide)) (by decide) g7; have S6 := StB.keptT (t := 36) (cs := #[.int .i64 0, .string ⟨#[]⟩]) s6 (StB.keptT (t := 30) (cs := #[.slice none 0 0, .slice none 0 0, .slice none 0 0, .int .i64 0, .int .i64 0, .int .i64 0]) (by repeat' (first | with_reducible assumption | with_reducible refine StB.newE _ _ _ (by simp) | with_reducible refine StB.al ?_ | with_reducible refine StB.dr ?_ | with_reducible refine StB.bel ?_ (by with_reducible assumption))) (by repeat' (first | with_reducible assumption | with_reducible refine StB.newE _ _ _ (by simp) | with_reducible refine StB.al ?_ | with_reducible refine StB.dr ?_ | with_reducible refine StB.bel ?_ (by with_reducible assumption))) g6 (by decide)) g7 (by decide); have b7 : Below y14.heap.size y14 w7 := bel_put b6 g7 L7))
                all_goals
                  go_wp2_with fail
                  go_meet
                  exact ⟨_, _, _, _, _, _, _, _, rfl, rfl, HS.out.addR3 b7 S6 s7 O7 L6 L7 (by decide) (by decide) (by decide)⟩
            case rest =>
              as_aux_lemma =>
                clear HS m_S_0 m_S_1 m_S_2 m_S_3 m_S_4 m_S_5 m_C_0 m_C_1 m_C_2 m_C_3 m_C_4
                obtain ⟨gH, kH, aoH, acH, boH, bcH, koH, kcH, rfl, rfl, HS⟩ := hcut
                obtain ⟨y15, hy15⟩ : ∃ y15, y15 = wc := ⟨_, rfl⟩
                rw [← hy15] at HS ⊢
                clear hy15
                have p_vH_0 : y15.cell? ⟨gH, 0, none⟩ = some (.slice aoH ks.length acH) := Blk.cell (HS.out.get 0 rfl) 0 rfl
                have p_vH_1 : y15.cell? ⟨gH, 1, none⟩ = some (.slice boH ns.length bcH) := Blk.cell (HS.out.get 0 rfl) 1 rfl
                have p_vH_2 : y15.cell? ⟨gH, 2, none⟩ = some (.slice koH hh.ks.length kcH) := Blk.cell (HS.out.get 0 rfl) 2 rfl
                have p_vH_3 : y15.cell? ⟨gH, 3, none⟩ = some (.int .i64 hh.kd) := Blk.cell (HS.out.get 0 rfl) 3 rfl
                have p_vH_4 : y15.cell? ⟨gH, 4, none⟩ = some (.int .i64 hh.ho) := Blk.cell (HS.out.get 0 rfl) 4 rfl
                have p_vH_5 : y15.cell? ⟨gH, 5, none⟩ = some (.int .i64 hh.tu) := Blk.cell (HS.out.get 0 rfl) 5 rfl
                have p_vW_0 : y15.cell? ⟨gW, 0, none⟩ = some (.slice aoW ks.length acW) := Blk.cell (HS.out.get 8 rfl) 0 rfl
                have p_vW_1 : y15.cell? ⟨gW, 1, none⟩ = some (.slice boW ns.length bcW) := Blk.cell (HS.out.get 8 rfl) 1 rfl
                have p_vW_2 : y15.cell? ⟨gW, 2, none⟩ = some (.slice koW hh.ks.length kcW) := Blk.cell (HS.out.get 8 rfl) 2 rfl
                have p_vW_3 : y15.cell? ⟨gW, 3, none⟩ = some (.int .i64 hh.kd) := Blk.cell (HS.out.get 8 rfl) 3 rfl
                have p_vW_4 : y15.cell? ⟨gW, 4, none⟩ = some (.int .i64 hh.ho) := Blk.cell (HS.out.get 8 rfl) 4 rfl
                have p_vW_5 : y15.cell? ⟨gW, 5, none⟩ = some (.int .i64 hh.tu) := Blk.cell (HS.out.get 8 rfl) 5 rfl
                go_wp2_with fail
                clear p_vH_0 p_vH_1 p_vH_2 p_vH_3 p_vH_4 p_vH_5 p_vW_0 p_vW_1 p_vW_2 p_vW_3 p_vW_4 p_vW_5
                refine (eqStore_any _ _ _ _ _ _ _ _ hh _ (HS.out.rA 2 rfl) (HS.out.rB 2 rfl) (HS.out.rK 2 rfl) (HS.out.rA 10 rfl) (HS.out.rB 10 rfl) (HS.out.rK 10 rfl) gk gn gh).mono ?_
                rintro e y16 ⟨rfl, by16⟩
                replace HS : Hid (Sta w y16 [Blk gH 30 (srA (.slice aoH ks.length acH) (.slice boH ns.length bcH) (.slice koH hh.ks.length kcH) hh), Blk kH 36 (anA an), Sto (.slice aoH ks.length acH) (.slice boH ns.length bcH) (.slice koH hh.ks.length kcH) ks ns hh.ks, Blk gG 30 (srA (.slice aoG ks.length acG) (.slice boG ns.length bcG) (.slice koG hh.ks.length kcG) hh), Blk kG 36 (anA an), Sto (.slice aoG ks.length acG) (.slice boG ns.length bcG) (.slice koG hh.ks.length kcG) (marks 1 ks.length) (marks (1 + ks.length) ns.length) (marks (1 + ks.length + ns.length) hh.ks.length), Blk y4.heap.size 30 #[.slice aoX xs0.length acX, .slice boX ys0.length bcX, .slice koX r0.ks.length kcX, .int .i64 r0.kd, .int .i64 r0.ho, .int .i64 r0.tu], Sto (.slice aoX xs0.length acX) (.slice boX ys0.length bcX) (.slice koX r0.ks.length kcX) (marks 1 xs0.length) (marks (1 + xs0.length) ys0.length) (marks (1 + xs0.length + ys0.length) r0.ks.length), Blk gW 30 (srA (.slice aoW ks.length acW) (.slice boW ns.length bcW) (.slice koW hh.ks.length kcW) hh), Blk kW 36 (anA an), Sto (.slice aoW ks.length acW) (.slice boW ns.length bcW) (.slice koW hh.ks.length kcW) ks ns hh.ks, Blk (w.heap.size + 1) 53 #[.int .i64 r2.o, .int .i64 r2.p, .int .i64 r2.a, .int .i64 r2.b, .int .i64 r2.k], Blk w.heap.size 52 #[u0, v0, q0, .int .i64 r0.kd, .int .i64 r0.ho, .int .i64 r0.tu]]) := HS.out.next by16
                clear by16
                have p_aH_0 : y16.cell? ⟨kH, 0, none⟩ = some (.int .i64 an.st) := Blk.cell (HS.out.get 1 rfl) 0 rfl
                have p_aH_1 : y16.cell? ⟨kH, 1, none⟩ = some (.string ⟨an.tx.toArray⟩) := Blk.cell (HS.out.get 1 rfl) 1 rfl
                have p_aW_0 : y16.cell? ⟨kW, 0, none⟩ = some (.int .i64 an.st) := Blk.cell (HS.out.get 9 rfl) 0 rfl
                have p_aW_1 : y16.cell? ⟨kW, 1, none⟩ = some (.string ⟨an.tx.toArray⟩) := Blk.cell (HS.out.get 9 rfl) 1 rfl
                go_wp2_with fail
                clear p_aH_0 p_aH_1 p_aW_0 p_aW_1
                refine (EA.out _).mono ?_
                rintro e y17 ⟨rfl, by17⟩
                replace HS : Hid (Sta w y17 [Blk gH 30 (srA (.slice aoH ks.length acH) (.slice boH ns.length bcH) (.slice koH hh.ks.length kcH) hh), Blk kH 36 (anA an), Sto (.slice aoH ks.length acH) (.slice boH ns.length bcH) (.slice koH hh.ks.length kcH) ks ns hh.ks, Blk gG 30 (srA (.slice aoG ks.length acG) (.slice boG ns.length bcG) (.slice koG hh.ks.length kcG) hh), Blk kG 36 (anA an), Sto (.slice aoG ks.length acG) (.slice boG ns.length bcG) (.slice koG hh.ks.length kcG) (marks 1 ks.length) (marks (1 + ks.length) ns.length) (marks (1 + ks.length + ns.length) hh.ks.length), Blk y4.heap.size 30 #[.slice aoX xs0.length acX, .slice boX ys0.length bcX, .slice koX r0.ks.length kcX, .int .i64 r0.kd, .int .i64 r0.ho, .int .i64 r0.tu], Sto (.slice aoX xs0.length acX) (.slice boX ys0.length bcX) (.slice koX r0.ks.length kcX) (marks 1 xs0.length) (marks (1 + xs0.length) ys0.length) (marks (1 + xs0.length + ys0.length) r0.ks.length), Blk gW 30 (srA (.slice aoW ks.length acW) (.slice boW ns.length bcW) (.slice koW hh.ks.length kcW) hh), Blk kW 36 (anA an), Sto (.slice aoW ks.length acW) (.slice boW ns.length bcW) (.slice koW hh.ks.length kcW) ks ns hh.ks, Blk (w.heap.size + 1) 53 #[.int .i64 r2.o, .int .i64 r2.p, .int .i64 r2.a, .int .i64 r2.b, .int .i64 r2.k], Blk w.heap.size 52 #[u0, v0, q0, .int .i64 r0.kd, .int .i64 r0.ho, .int .i64 r0.tu]]) := HS.out.next by17
                clear by17
                have p_vG_0 : y17.cell? ⟨gG, 0, none⟩ = some (.slice aoG ks.length acG) := Blk.cell (HS.out.get 3 rfl) 0 rfl
                have p_vG_1 : y17.cell? ⟨gG, 1, none⟩ = some (.slice boG ns.length bcG) := Blk.cell (HS.out.get 3 rfl) 1 rfl
                have p_vG_2 : y17.cell? ⟨gG, 2, none⟩ = some (.slice koG hh.ks.length kcG) := Blk.cell (HS.out.get 3 rfl) 2 rfl
                have p_vG_3 : y17.cell? ⟨gG, 3, none⟩ = some (.int .i64 hh.kd) := Blk.cell (HS.out.get 3 rfl) 3 rfl
                have p_vG_4 : y17.cell? ⟨gG, 4, none⟩ = some (.int .i64 hh.ho) := Blk.cell (HS.out.get 3 rfl) 4 rfl
                have p_vG_5 : y17.cell? ⟨gG, 5, none⟩ = some (.int .i64 hh.tu) := Blk.cell (HS.out.get 3 rfl) 5 rfl
                go_wp2_with fail
                clear p_vG_0 p_vG_1 p_vG_2 p_vG_3 p_vG_4 p_vG_5
                refine (heldStore_any _ _ _ hh ks.length ns.length hh.ks.length 1 _ rfl (HS.out.rA 5 rfl) (HS.out.rB 5 rfl) (HS.out.rK 5 rfl) sk sn sh (by omega) (by omega) (by omega)).mono ?_
                rintro e y18 ⟨rfl, by18⟩
                replace HS : Hid (Sta w y18 [Blk gH 30 (srA (.slice aoH ks.length acH) (.slice boH ns.length bcH) (.slice koH hh.ks.length kcH) hh), Blk kH 36 (anA an), Sto (.slice aoH ks.length acH) (.slice boH ns.length bcH) (.slice koH hh.ks.length kcH) ks ns hh.ks, Blk gG 30 (srA (.slice aoG ks.length acG) (.slice boG ns.length bcG) (.slice koG hh.ks.length kcG) hh), Blk kG 36 (anA an), Sto (.slice aoG ks.length acG) (.slice boG ns.length bcG) (.slice koG hh.ks.length kcG) (marks 1 ks.length) (marks (1 + ks.length) ns.length) (marks (1 + ks.length + ns.length) hh.ks.length), Blk y4.heap.size 30 #[.slice aoX xs0.length acX, .slice boX ys0.length bcX, .slice koX r0.ks.length kcX, .int .i64 r0.kd, .int .i64 r0.ho, .int .i64 r0.tu], Sto (.slice aoX xs0.length acX) (.slice boX ys0.length bcX) (.slice koX r0.ks.length kcX) (marks 1 xs0.length) (marks (1 + xs0.length) ys0.length) (marks (1 + xs0.length + ys0.length) r0.ks.length), Blk gW 30 (srA (.slice aoW ks.length acW) (.slice boW ns.length bcW) (.slice koW hh.ks.length kcW) hh), Blk kW 36 (anA an), Sto (.slice aoW ks.length acW) (.slice boW ns.length bcW) (.slice koW hh.ks.length kcW) ks ns hh.ks, Blk (w.heap.size + 1) 53 #[.int .i64 r2.o, .int .i64 r2.p, .int .i64 r2.a, .int .i64 r2.b, .int .i64 r2.k], Blk w.heap.size 52 #[u0, v0, q0, .int .i64 r0.kd, .int .i64 r0.ho, .int .i64 r0.tu]]) := HS.out.next by18
                clear by18
                have HB : Hid (Below w.heap.size w _) := HS.out.below
                clear HS
                go_wp2_with fail
                go_ret
                exact ⟨rfl, HB.out⟩
  · have hsz : szI 1048576 (xs0.length + ys0.length + r0.ks.length) = -1 := by simp only [szI]; rw [if_neg (by omega)]
    have b1 : Below w.heap.size w ((w.alloc (.cells #[u0, v0, q0, .int .i64 r0.kd, .int .i64 r0.ho, .int .i64 r0.tu] 52)).alloc (.cells #[.int .i64 r2.o, .int .i64 r2.p, .int .i64 r2.a, .int .i64 r2.b, .int .i64 r2.k] 53)) := ((Below.refl _ _).alloc (Nat.le_refl _) _).alloc (by simp) _
    have c1 := szStore_any u0 v0 q0 xs0 ys0 r0 1048576 _ (RX0.below b1 (Nat.le_refl _)) (RY0.below b1 (Nat.le_refl _)) (RQ0.below b1 (Nat.le_refl _)) (by omega) (by omega)
    rw [hsz] at c1
    clear hsz RX0 RY0 RQ0 hbig
    unfold SRV srA at c1 ⊢
    unfold CV cmA
    go_enter Tryz.func4, Tryz.ntmps4
    go_wp2_with fail
    refine c1.mono ?_
    rintro e w2 ⟨rfl, b2⟩
    replace b2 := b1.trans (b2.mono b1.size)
    clear b1 c1
    go_wp2_with fail
    go_ret
    exact ⟨rfl, b2⟩

set_option maxRecDepth 100000 in
theorem lifted (os : Os) (started : os.Started) (H : Type) (enc : TypeId × Value → H) :
    ReturnsInHanded {} Tryz.checked os 4 .any (fun w args => (Rows.fnExactDidStoreSpec.pre enc Tryz.prog Tryz.f4 [] false w args ∧ laidMetH Tryz.prog Rows.fnExactDidStoreRow.laid w) ∧ sizedMet enc Tryz.prog Tryz.f4 (OpenSpec.ofChange Rows.fnExactDidStoreSpec) false w args) (Rows.fnExactDidStoreSpec.post enc Tryz.prog Tryz.f4 false true false false) := by
  refine returnsInHanded_of_change_and (C := Tryz.checked) (X := fun w _ => laidMetH Tryz.prog Rows.fnExactDidStoreRow.laid w) (fun _ _ _ hh h => h.of_heap hh) own started (by kernel_rfl) Tryz.func4
    (ChangeSpec.witness_shaped (enc := enc) (C := Tryz.checked) (os := os) (X := fun w _ => laidMetH Tryz.prog Rows.fnExactDidStoreRow.laid w) false (World.doorLaid Tryz.prog 1000 os) #[.agg #[.slice none 0 0, .slice none 0 0, .slice none 0 0, .int .i64 0, .int .i64 0, .int .i64 0], .int .i64 0, .agg #[.int .i64 0, .int .i64 0, .int .i64 0, .int .i64 0, .int .i64 0]] 8 rfl (World.shaped_of_RefB (by kernel_rfl) (by kernel_rfl)) (by kernel_rfl) (by kernel_rfl) (by kernel_rfl) (met_fnExactDidStore os _)) ?_
  intro W base args ds gs before hval0 hW hcnd _ hL _
  have hval : ∀ (j : Nat) t v, Tryz.f4.params[j]? = some t → args[j]? = some v → Value.okWide Tryz.prog W .any base t v := hval0
  have hW' := hW
  obtain ⟨p, q, hA0, hV, rfl, hfz, hnd⟩ := hW
  have hA : DataW.TrodAll enc Tryz.prog W 0 (fun _ => true) true Tryz.f4.params.toList args.toList ds p := hA0
  rw [Tryz.params4] at hA hval
  obtain ⟨v0, vs0, d0, ds0, p0, q0, hargs, rfl, rfl, h0, s0⟩ := trodAll_cons hA
  obtain ⟨v1, vs1, d1, ds1, p1, q1, rfl, rfl, rfl, h1, s1⟩ := trodAll_cons s0
  obtain ⟨v2, vs2, d2, ds2, p2, q2, rfl, rfl, rfl, h2, s2⟩ := trodAll_cons s1
  obtain ⟨rfl, rfl, rfl⟩ := trodAll_nil s2
  obtain rfl : args = #[v0, v1, v2] := by cases args; simp_all
  obtain ⟨g1, g2, g3, g4, rfl⟩ := vars4 hV
  have k0 := h0
  have lt0 : ∀ x ∈ p0, x.block < W.heap.size := by obtain ⟨m, hm⟩ := k0; exact DataW.trod_lt m _ _ _ hm
  obtain ⟨r0, u0, y0, z0, xs0, ys0, rfl, RX0, RY0, RQ0⟩ := open_store (hval 0 52 v0 rfl rfl) h0
  obtain ⟨a1, rfl, rfl, rfl, w1⟩ := open_int Tryz.underlying2 (hval 1 2 v1 rfl rfl) h1
  have k2 := h2
  have lt2 : ∀ x ∈ p2, x.block < W.heap.size := by obtain ⟨m, hm⟩ := k2; exact DataW.trod_lt m _ _ _ hm
  obtain ⟨r2, rfl, f2⟩ := open_cmd (hval 2 53 v2 rfl rfl) h2
  clear hA0 hval0
  refine (walk r0 u0 y0 z0 xs0 ys0 a1 r2 W RX0 RY0 RQ0 w1 f2 (tab_fnExactDidStore hL)).mono fun e W' ⟨he, bel⟩ => ?_
  subst he
  exact ⟨_, rfl, _, _, _, [], _, q, hW', trodAll_mk1 (shut_bool Tryz.underlying4 _), (trodAll_cons_mk (Below.trod laidOut (by kernel_rfl) (of_decide_eq_true (by kernel_rfl)) k0 bel lt0) (trodAll_cons_mk (shut_int Tryz.underlying2 w1) (trodAll_cons_mk (Below.trod laidOut (by kernel_rfl) (of_decide_eq_true (by kernel_rfl)) k2 bel lt2) trodAll_mk0))), Below.trodVars laidOut bel (by kernel_rfl) hV, bel.frame _, fun h => by cases h⟩

theorem over : Rows.fnExactDidStoreRow.holds Tryz.pinned (OpenSpec.ofChange Rows.fnExactDidStoreSpec) :=
  OpenClaim.holds_of_wide 4 Tryz.f4 rfl rfl rfl rfl rfl rfl rfl ⟨rfl, rfl, rfl, rfl, rfl⟩ rfl rfl rfl rfl rfl (by kernel_rfl) Tryz.func4 (by kernel_rfl)
    (of_decide_eq_true (by kernel_rfl)) (by unfold Func.isWrapper; first | (rw [if_pos (by decide +kernel)]; kernel_rfl) | (rw [if_neg (by decide +kernel)]; exact ⟨rfl, rfl⟩))
    (fun os started H enc _ => lifted os started H enc)

theorem proved : Rows.FnExactDidStoreSaid := over
end Go.Proofs.YtpdggofaobmnlaaGreatDoor.fnExactDidStore
namespace Go.Proofs.YtpdggofaobmnlaaGreatDoor
open Go in
theorem fnExactDidStore_holds : Rows.FnExactDidStoreCardSaid :=
  Claim7.holds_tied_plain_at .later [] [.data, .data, .data, .handle, .sentinel, .sentinel, .sentinel, .sentinel] true (true, "4a440d2871d80348b1cb61fa3d172301230baecffe46b6455138045bae7eae3b") true
    fnExactDidStore.proved (fun _ h => by cases h) (by kernel_rfl) (fun _ h => by cases h) fnExactDidStore_row_tie rfl ⟨rfl, rfl⟩ (by kernel_rfl) rfl
    (fun f fn hf hfn => by
      obtain rfl : f = 4 := Option.some.inj ((show Tryz.prog.funcNamed Rows.fnExactDidStoreRow.func = some 4 by kernel_rfl).symm.trans hf) |>.symm
      obtain rfl : fn = Tryz.f4 := (Option.some.inj (Tryz.func4.symm.trans hfn)).symm
      exact ⟨by kernel_rfl, fun j t ht => by
        rw [Tryz.params4] at ht
        have hm : t ∈ [52, 2, 53] := by simpa using Array.mem_of_getElem? ht
        have hall : ([52, 2, 53].all fun u => !Tryz.prog.wantsStandIn u) = true := by kernel_rfl
        exact (show Tryz.prog.wantsStandIn t = false by simpa using List.all_eq_true.1 hall t hm)⟩)
    (by kernel_rfl)
end Go.Proofs.YtpdggofaobmnlaaGreatDoor
