/- At every disk and command DidDisk of the program answers as DidDisk of the model, the disk and the answer, in memory of its own that a second call leaves alone, and leaves what it was given as it was: the law FnExactDidDisk returns true, whatever it is given. -/
import Derived.Test.YtnnmcjgmnjokiaaDoorRows
import Derived.WalkKit
import Derived.ProofKit
import Derived.OpenShut
import Derived.ShutString
import Derived.ChangeOld
import Derived.Below
import Derived.Test.YtnnmcjgmnjokiaaDoorOpen
import Derived.Test.YtnnmcjgmnjokiaaDoorOpenCm
import Derived.Test.YtnnmcjgmnjokiaaDoorVolSta
import Derived.Test.YtnnmcjgmnjokiaaDoorSVol3
import Derived.Test.YtnnmcjgmnjokiaaDoorIVolX
import Derived.Test.YtnnmcjgmnjokiaaDoorCards
import Derived.Test.YtnnmcjgmnjokiaaDoorTie
import Derived.SevenTiedAt
import Derived.Lay
import Derived.LaidOnce
import Derived.Test.YtnnmcjgmnjokiaaDoorTabs
namespace Go.Proofs.YtnnmcjgmnjokiaaDoor.fnExactDidDisk
open Go.ChangeShapes Go.WideShapes Go.ChangeAt Go.RowKit
open Go.ChangeMaps (open_string shut_string)
set_option linter.unusedVariables false

theorem own : ownKnob Tryd.prog.godebug = none := by kernel_rfl
theorem laidOut : laidOutB Tryd.prog = true := by kernel_rfl

set_option maxRecDepth 20000 in
set_option maxHeartbeats 2000000 in
theorem walk (u0 v0 : Value) (xs0 ys0 : List Int) (r1 : Cm) (w : World) (RX0 : Reads w u0 xs0) (RY0 : Reads w v0 ys0) (f1 : r1.Fit) (hT : Tab w) :
    Calls Tryd.prog 4 #[.agg #[u0, v0], CV r1] w fun e w' => e = .returned (.bool true) ∧ Below w.heap.size w w' := by
  have HP : Hid (Tab w) := hT
  clear hT
  by_cases hbig : (xs0.length + ys0.length : Int) ≤ 1048576
  · have gx : xs0.length ≤ 1099511627776 := by omega
    have gy : ys0.length ≤ 1099511627776 := by omega
    have sx : xs0.length ≤ 1048576 := by omega
    have sy : ys0.length ≤ 1048576 := by omega
    have hsz : szI 1048576 (xs0.length + ys0.length) = 1048576 - (xs0.length + ys0.length : Nat) := by simp only [szI]; rw [if_pos (by omega)]
    obtain ⟨w1, hw1⟩ : ∃ w1, w1 = (w.alloc (.cells #[u0, v0] 43)).alloc (.cells (cmA r1) 44) := ⟨_, rfl⟩
    have hs1 := ((Sta.start w).box 43 #[u0, v0]).box 44 (cmA r1)
    rw [World.size_alloc, ← hw1] at hs1
    have HS : Hid (Sta w w1 [Blk (w.heap.size + 1) 44 (cmA r1), Blk w.heap.size 43 #[u0, v0]]) := hs1
    have c1 := szDisk_any u0 v0 xs0 ys0 1048576 w1 (RX0.below HS.out.below (Nat.le_refl _)) (RY0.below HS.out.below (Nat.le_refl _)) (by omega) (by omega)
    rw [hsz] at c1
    replace RX0 : Hid (Reads w u0 xs0) := RX0
    replace RY0 : Hid (Reads w v0 ys0) := RY0
    obtain ⟨D, hD⟩ : ∃ D, D = didD xs0 ys0 r1 := ⟨_, rfl⟩
    have TDk : Hid (∀ wx, Below w.heap.size w wx → _) := fun wx b => toDisk_any u0 v0 xs0 ys0 wx (RX0.out.below b (Nat.le_refl _)) (RY0.out.below b (Nat.le_refl _)) gx gy
    have TCm : Hid (∀ wx, _) := fun wx => toCmd_any r1 wx
    have SD : Hid (∀ wx a b, Reads wx a xs0 → Reads wx b ys0 → _) := fun wx a b h h' => sDidDisk_any a b xs0 ys0 r1 wx h h' gx gy
    have ID : Hid (∀ wx a b, Reads wx a xs0 → Reads wx b ys0 → Tab wx → _) := fun wx a b h h' t => iDidDisk_any a b xs0 ys0 r1 wx h h' gx gy t
    have sK : Hid (D.1.length ≤ 1048576 ∧ D.2.1.length ≤ 1048576) := by rw [hD]; exact didD_len xs0 ys0 r1 sx sy
    rw [← hD] at SD ID
    clear hD
    obtain ⟨ks, ns, an⟩ := D
    dsimp only at SD ID sK
    have EA : Hid (∀ wx, _) := fun wx => eqAnswer_self an wx
    have sk := sK.out.1
    have sn := sK.out.2
    have gk : ks.length ≤ 1099511627776 := by omega
    have gn : ns.length ≤ 1099511627776 := by omega
    clear hsz hs1 sK
    unfold AV at SD ID
    replace SD : Hid (∀ wx a b, Reads wx a xs0 → Reads wx b ys0 → Calls Tryd.prog 8 #[.agg #[a, b], CV r1] wx fun e w' => ∃ a' b', e = .returned (.tuple #[.agg (dkA a' b'), .agg (anA an)]) ∧ OwnD w' wx.heap.size a' b' ks ns ∧ Below wx.heap.size wx w') := SD.out
    replace ID : Hid (∀ wx a b, Reads wx a xs0 → Reads wx b ys0 → Tab wx → Calls Tryd.prog 7 #[.agg #[a, b], CV r1] wx fun e w' => ∃ a' b', e = .returned (.tuple #[.agg (dkA a' b'), .agg (anA an)]) ∧ OwnD w' wx.heap.size a' b' ks ns ∧ Below wx.heap.size wx w') := ID.out
    unfold AV anA S at EA
    unfold CV at SD ID TCm ⊢
    unfold cmA at SD ID TCm hw1 ⊢
    go_enter Tryd.func4, Tryd.ntmps4
    go_wp2_with fail
    rw [← hw1]
    clear hw1
    refine (c1).mono ?_
    rintro e w2 ⟨rfl, b2⟩
    replace HS : Hid (Sta w w2 [Blk (w.heap.size + 1) 44 (cmA r1), Blk w.heap.size 43 #[u0, v0]]) := HS.out.next b2
    clear b2 c1
    have m_D_0 : ∀ w', Sx w2 w' → w'.cell? ⟨w.heap.size, 0, none⟩ = some (u0) := fun w' b => later_cell (w := w2) (Blk.cell (HS.out.get 1 rfl) 0 rfl) b
    have m_D_1 : ∀ w', Sx w2 w' → w'.cell? ⟨w.heap.size, 1, none⟩ = some (v0) := fun w' b => later_cell (w := w2) (Blk.cell (HS.out.get 1 rfl) 1 rfl) b
    have m_C_0 : ∀ w', Sx w2 w' → w'.cell? ⟨w.heap.size + 1, 0, none⟩ = some (.int .i64 r1.o) := fun w' b => later_cell (w := w2) (Blk.cell (HS.out.get 0 rfl) 0 rfl) b
    have m_C_1 : ∀ w', Sx w2 w' → w'.cell? ⟨w.heap.size + 1, 1, none⟩ = some (.int .i64 r1.p) := fun w' b => later_cell (w := w2) (Blk.cell (HS.out.get 0 rfl) 1 rfl) b
    have m_C_2 : ∀ w', Sx w2 w' → w'.cell? ⟨w.heap.size + 1, 2, none⟩ = some (.int .i64 r1.a) := fun w' b => later_cell (w := w2) (Blk.cell (HS.out.get 0 rfl) 2 rfl) b
    have m_C_3 : ∀ w', Sx w2 w' → w'.cell? ⟨w.heap.size + 1, 3, none⟩ = some (.int .i64 r1.b) := fun w' b => later_cell (w := w2) (Blk.cell (HS.out.get 0 rfl) 3 rfl) b
    have m_C_4 : ∀ w', Sx w2 w' → w'.cell? ⟨w.heap.size + 1, 4, none⟩ = some (.int .i64 r1.k) := fun w' b => later_cell (w := w2) (Blk.cell (HS.out.get 0 rfl) 4 rfl) b
    go_upto_region 5 with fail
    go_cut [6, 7] (fun p q wx => ∃ gW kW aoW acW boW bcW, p = .pointer (some ⟨gW, 0, none⟩) ∧ q = .pointer (some ⟨kW, 0, none⟩) ∧ Hid (Sta w wx [Blk gW 26 (dkA (.slice aoW ks.length acW) (.slice boW ns.length bcW)), Blk kW 32 (anA an), Dsk (.slice aoW ks.length acW) (.slice boW ns.length bcW) ks ns, Blk (w.heap.size + 1) 44 (cmA r1), Blk w.heap.size 43 #[u0, v0]]))
    case first =>
      go_region_held3 (fun w' => Sx w2 w') ((change Below w2.heap.size w2 _; exact (by repeat' (first | with_reducible assumption | with_reducible exact Below.refl _ _ | with_reducible refine bel_alloc ?_ | with_reducible refine bel_drew ?_ | with_reducible refine bel_trans ?_ (by with_reducible assumption)))))
        (first
          | (go_at_call 21; refine (TDk.out _ (bel_trans HS.out.below (by repeat' (first | with_reducible assumption | with_reducible exact Below.refl _ _ | with_reducible refine bel_alloc ?_ | with_reducible refine bel_drew ?_ | with_reducible refine bel_trans ?_ (by with_reducible assumption))))).mono ?_; rintro e w3 ⟨a, b, rfl, o3', b3⟩; obtain ⟨ao, ac, rfl⟩ := o3'.1.reads.form; obtain ⟨bo, bc, rfl⟩ := o3'.2.1.reads.form; have O3 : Hid (OwnD w3 _ (.slice ao xs0.length ac) (.slice bo ys0.length bc) xs0 ys0) := o3'; clear o3')
          | (go_at_call 22; refine (TCm.out _).mono ?_; rintro e w4 ⟨rfl, b4⟩)
          | (go_at_call 8; refine (SD.out _ _ _ (O3.out.1.reads.below (by repeat' (first | with_reducible assumption | with_reducible exact Below.refl _ _ | with_reducible refine bel_alloc ?_ | with_reducible refine bel_drew ?_ | with_reducible refine bel_trans ?_ (by with_reducible assumption))) (Nat.le_refl _)) (O3.out.2.1.reads.below (by repeat' (first | with_reducible assumption | with_reducible exact Below.refl _ _ | with_reducible refine bel_alloc ?_ | with_reducible refine bel_drew ?_ | with_reducible refine bel_trans ?_ (by with_reducible assumption))) (Nat.le_refl _))).mono ?_; rintro e w5 ⟨a5, b5', rfl, o5', b5⟩; obtain ⟨aoW, acW, rfl⟩ := o5'.1.reads.form; obtain ⟨boW, bcW, rfl⟩ := o5'.2.1.reads.form; have O5 : Hid (OwnD w5 w2.heap.size (.slice aoW ks.length acW) (.slice boW ns.length bcW) ks ns) := o5'.mono' (bel_size (by repeat' (first | with_reducible assumption | with_reducible exact Below.refl _ _ | with_reducible refine bel_alloc ?_ | with_reducible refine bel_drew ?_ | with_reducible refine bel_trans ?_ (by with_reducible assumption)))); clear o5')
          | ((with_reducible show Oper.upon _ _ _ _ _ (Result.andThen (Sem.run _ (storeCells _ (dkA _ _).toList) _) _)); refine upon_putS _ 26 (dkA (.slice aoW ks.length acW) (.slice boW ns.length bcW)) #[.slice none 0 0, .slice none 0 0] ?_ ?_ ?_ ?_; (focus exact rfl); (focus exact dkA_one rfl rfl); (focus exact (by repeat' (first | with_reducible assumption | with_reducible refine StB.newE _ _ _ (by simp) | with_reducible refine StB.al ?_ | with_reducible refine StB.dr ?_ | with_reducible refine StB.bel ?_ (by with_reducible assumption)))); intro w6 s6 g6; have O6 := OwnD.putBy (t := 26) (cs := #[.slice none 0 0, .slice none 0 0]) (OwnD.bel O5.out (by repeat' (first | with_reducible assumption | with_reducible exact Below.refl _ _ | with_reducible refine bel_alloc ?_ | with_reducible refine bel_drew ?_ | with_reducible refine bel_trans ?_ (by with_reducible assumption)))) (by repeat' (first | with_reducible assumption | with_reducible refine StB.newE _ _ _ (by simp) | with_reducible refine StB.al ?_ | with_reducible refine StB.dr ?_ | with_reducible refine StB.bel ?_ (by with_reducible assumption))) (by decide) g6; have L6 := ge_of (w := w2) g6 (by first | exact bel_size (by repeat' (first | with_reducible assumption | with_reducible exact Below.refl _ _ | with_reducible refine bel_alloc ?_ | with_reducible refine bel_drew ?_ | with_reducible refine bel_trans ?_ (by with_reducible assumption))) | exact Nat.le_succ_of_le (bel_size (by repeat' (first | with_reducible assumption | with_reducible exact Below.refl _ _ | with_reducible refine bel_alloc ?_ | with_reducible refine bel_drew ?_ | with_reducible refine bel_trans ?_ (by with_reducible assumption))))); have b6 : Below w2.heap.size w2 w6 := bel_put (by repeat' (first | with_reducible assumption | with_reducible exact Below.refl _ _ | with_reducible refine bel_alloc ?_ | with_reducible refine bel_drew ?_ | with_reducible refine bel_trans ?_ (by with_reducible assumption))) g6 L6)
          | ((with_reducible show Oper.upon _ _ _ _ _ (Result.andThen (Sem.run _ (storeCells _ (anA _).toList) _) _)); refine upon_putS _ 32 (anA an) #[.int .i64 0, .string ⟨#[]⟩] ?_ ?_ ?_ ?_; (focus exact rfl); (focus exact anA_one _); (focus exact (StB.keptT (t := 26) (cs := #[.slice none 0 0, .slice none 0 0]) (by repeat' (first | with_reducible assumption | with_reducible refine StB.newE _ _ _ (by simp) | with_reducible refine StB.al ?_ | with_reducible refine StB.dr ?_ | with_reducible refine StB.bel ?_ (by with_reducible assumption))) (by repeat' (first | with_reducible assumption | with_reducible refine StB.newE _ _ _ (by simp) | with_reducible refine StB.al ?_ | with_reducible refine StB.dr ?_ | with_reducible refine StB.bel ?_ (by with_reducible assumption))) g6 (by decide))); intro w7 s7 g7; have L7 := ge_of (w := w2) g7 (by first | exact bel_size (by repeat' (first | with_reducible assumption | with_reducible exact Below.refl _ _ | with_reducible refine bel_alloc ?_ | with_reducible refine bel_drew ?_ | with_reducible refine bel_trans ?_ (by with_reducible assumption))) | exact Nat.le_succ_of_le (bel_size (by repeat' (first | with_reducible assumption | with_reducible exact Below.refl _ _ | with_reducible refine bel_alloc ?_ | with_reducible refine bel_drew ?_ | with_reducible refine bel_trans ?_ (by with_reducible assumption))))); have O7 := OwnD.putBy (t := 32) (cs := #[.int .i64 0, .string ⟨#[]⟩]) O6 (StB.keptT (t := 26) (cs := #[.slice none 0 0, .slice none 0 0]) (by repeat' (first | with_reducible assumption | with_reducible refine StB.newE _ _ _ (by simp) | with_reducible refine StB.al ?_ | with_reducible refine StB.dr ?_ | with_reducible refine StB.bel ?_ (by with_reducible assumption))) (by repeat' (first | with_reducible assumption | with_reducible refine StB.newE _ _ _ (by simp) | with_reducible refine StB.al ?_ | with_reducible refine StB.dr ?_ | with_reducible refine StB.bel ?_ (by with_reducible assumption))) g6 (by decide)) (by decide) g7; have S6 := StB.keptT (t := 32) (cs := #[.int .i64 0, .string ⟨#[]⟩]) s6 (StB.keptT (t := 26) (cs := #[.slice none 0 0, .slice none 0 0]) (by repeat' (first | with_reducible assumption | with_reducible refine StB.newE _ _ _ (by simp) | with_reducible refine StB.al ?_ | with_reducible refine StB.dr ?_ | with_reducible refine StB.bel ?_ (by with_reducible assumption))) (by repeat' (first | with_reducible assumption | with_reducible refine StB.newE _ _ _ (by simp) | with_reducible refine StB.al ?_ | with_reducible refine StB.dr ?_ | with_reducible refine StB.bel ?_ (by with_reducible assumption))) g6 (by decide)) g7 (by decide); have b7 : Below w2.heap.size w2 w7 := bel_put b6 g7 L7))
      all_goals
        go_wp2_with fail
        go_meet
        exact ⟨_, _, _, _, _, _, rfl, rfl, HS.out.add3 b7 S6 s7 O7 L6 L7 (by decide) (by decide) (by decide)⟩
    case rest =>
      clear HS m_D_0 m_D_1 m_C_0 m_C_1 m_C_2 m_C_3 m_C_4
      obtain ⟨gW, kW, aoW, acW, boW, bcW, rfl, rfl, HS⟩ := hcut
      obtain ⟨v3, hv3⟩ : ∃ v3, v3 = wc := ⟨_, rfl⟩
      rw [← hv3] at HS ⊢
      clear hv3
      have p_D_0 : v3.cell? ⟨w.heap.size, 0, none⟩ = some (u0) := Blk.cell (HS.out.get 4 rfl) 0 rfl
      have p_D_1 : v3.cell? ⟨w.heap.size, 1, none⟩ = some (v0) := Blk.cell (HS.out.get 4 rfl) 1 rfl
      go_wp2_with fail
      clear p_D_0 p_D_1
      refine (TDk.out _ HS.out.below).mono ?_
      rintro e v4 ⟨aX, bX, rfl, ov4, bv4⟩
      obtain ⟨aoX, acX, rfl⟩ := ov4.1.reads.form
      obtain ⟨boX, bcX, rfl⟩ := ov4.2.1.reads.form
      replace HS : Hid (Sta w v4 [Dsk (.slice aoX xs0.length acX) (.slice boX ys0.length bcX) xs0 ys0, Blk gW 26 (dkA (.slice aoW ks.length acW) (.slice boW ns.length bcW)), Blk kW 32 (anA an), Dsk (.slice aoW ks.length acW) (.slice boW ns.length bcW) ks ns, Blk (w.heap.size + 1) 44 (cmA r1), Blk w.heap.size 43 #[u0, v0]]) := HS.out.disk ov4 bv4
      clear ov4 bv4
      obtain ⟨v5, hv5⟩ : ∃ v5, v5 = v4.alloc (.cells #[.slice aoX xs0.length acX, .slice boX ys0.length bcX] 26) := ⟨_, rfl⟩
      replace HS : Hid (Sta w v5 [Blk v4.heap.size 26 #[.slice aoX xs0.length acX, .slice boX ys0.length bcX], Dsk (.slice aoX xs0.length acX) (.slice boX ys0.length bcX) xs0 ys0, Blk gW 26 (dkA (.slice aoW ks.length acW) (.slice boW ns.length bcW)), Blk kW 32 (anA an), Dsk (.slice aoW ks.length acW) (.slice boW ns.length bcW) ks ns, Blk (w.heap.size + 1) 44 (cmA r1), Blk w.heap.size 43 #[u0, v0]]) := by rw [hv5]; exact HS.out.box _ _
      go_upto_region 7 with fail
      rw [← hv5]
      clear hv5
      have m_vX_0 : ∀ w', Sx v5 w' → w'.cell? ⟨v4.heap.size, 0, none⟩ = some (.slice aoX xs0.length acX) := fun w' b => later_cell (w := v5) (Blk.cell (HS.out.get 0 rfl) 0 rfl) b
      have m_vX_1 : ∀ w', Sx v5 w' → w'.cell? ⟨v4.heap.size, 1, none⟩ = some (.slice boX ys0.length bcX) := fun w' b => later_cell (w := v5) (Blk.cell (HS.out.get 0 rfl) 1 rfl) b
      have m_C_0 : ∀ w', Sx v5 w' → w'.cell? ⟨w.heap.size + 1, 0, none⟩ = some (.int .i64 r1.o) := fun w' b => later_cell (w := v5) (Blk.cell (HS.out.get 5 rfl) 0 rfl) b
      have m_C_1 : ∀ w', Sx v5 w' → w'.cell? ⟨w.heap.size + 1, 1, none⟩ = some (.int .i64 r1.p) := fun w' b => later_cell (w := v5) (Blk.cell (HS.out.get 5 rfl) 1 rfl) b
      have m_C_2 : ∀ w', Sx v5 w' → w'.cell? ⟨w.heap.size + 1, 2, none⟩ = some (.int .i64 r1.a) := fun w' b => later_cell (w := v5) (Blk.cell (HS.out.get 5 rfl) 2 rfl) b
      have m_C_3 : ∀ w', Sx v5 w' → w'.cell? ⟨w.heap.size + 1, 3, none⟩ = some (.int .i64 r1.b) := fun w' b => later_cell (w := v5) (Blk.cell (HS.out.get 5 rfl) 3 rfl) b
      have m_C_4 : ∀ w', Sx v5 w' → w'.cell? ⟨w.heap.size + 1, 4, none⟩ = some (.int .i64 r1.k) := fun w' b => later_cell (w := v5) (Blk.cell (HS.out.get 5 rfl) 4 rfl) b
      go_upto_region 7 with fail
      go_cut [9, 10] (fun p q wx => ∃ gG kG aoG acG boG bcG, p = .pointer (some ⟨gG, 0, none⟩) ∧ q = .pointer (some ⟨kG, 0, none⟩) ∧ Hid (Sta w wx [Blk gG 26 (dkA (.slice aoG ks.length acG) (.slice boG ns.length bcG)), Blk kG 32 (anA an), Dsk (.slice aoG ks.length acG) (.slice boG ns.length bcG) ks ns, Blk v4.heap.size 26 #[.slice aoX xs0.length acX, .slice boX ys0.length bcX], Dsk (.slice aoX xs0.length acX) (.slice boX ys0.length bcX) xs0 ys0, Blk gW 26 (dkA (.slice aoW ks.length acW) (.slice boW ns.length bcW)), Blk kW 32 (anA an), Dsk (.slice aoW ks.length acW) (.slice boW ns.length bcW) ks ns, Blk (w.heap.size + 1) 44 (cmA r1), Blk w.heap.size 43 #[u0, v0]]))
      case first =>
        go_region_held3 (fun w' => Sx v5 w') ((change Below v5.heap.size v5 _; exact (by repeat' (first | with_reducible assumption | with_reducible exact Below.refl _ _ | with_reducible refine bel_alloc ?_ | with_reducible refine bel_drew ?_ | with_reducible refine bel_trans ?_ (by with_reducible assumption)))))
          (first
            | (go_at_call 22; refine (TCm.out _).mono ?_; rintro e w4 ⟨rfl, b4⟩)
            | (go_at_call 7; refine (ID.out _ _ _ ((HS.out.readsU 1 rfl).below (by repeat' (first | with_reducible assumption | with_reducible exact Below.refl _ _ | with_reducible refine bel_alloc ?_ | with_reducible refine bel_drew ?_ | with_reducible refine bel_trans ?_ (by with_reducible assumption))) (Nat.le_refl _)) ((HS.out.readsV 1 rfl).below (by repeat' (first | with_reducible assumption | with_reducible exact Below.refl _ _ | with_reducible refine bel_alloc ?_ | with_reducible refine bel_drew ?_ | with_reducible refine bel_trans ?_ (by with_reducible assumption))) (Nat.le_refl _)) (HP.out.below (bel_trans HS.out.below (by repeat' (first | with_reducible assumption | with_reducible exact Below.refl _ _ | with_reducible refine bel_alloc ?_ | with_reducible refine bel_drew ?_ | with_reducible refine bel_trans ?_ (by with_reducible assumption)))))).mono ?_; rintro e w5 ⟨a5, b5', rfl, o5', b5⟩; obtain ⟨aoG, acG, rfl⟩ := o5'.1.reads.form; obtain ⟨boG, bcG, rfl⟩ := o5'.2.1.reads.form; have O5 : Hid (OwnD w5 v5.heap.size (.slice aoG ks.length acG) (.slice boG ns.length bcG) ks ns) := o5'.mono' (bel_size (by repeat' (first | with_reducible assumption | with_reducible exact Below.refl _ _ | with_reducible refine bel_alloc ?_ | with_reducible refine bel_drew ?_ | with_reducible refine bel_trans ?_ (by with_reducible assumption)))); clear o5')
            | ((with_reducible show Oper.upon _ _ _ _ _ (Result.andThen (Sem.run _ (storeCells _ (dkA _ _).toList) _) _)); refine upon_putS _ 26 (dkA (.slice aoG ks.length acG) (.slice boG ns.length bcG)) #[.slice none 0 0, .slice none 0 0] ?_ ?_ ?_ ?_; (focus exact rfl); (focus exact dkA_one rfl rfl); (focus exact (by repeat' (first | with_reducible assumption | with_reducible refine StB.newE _ _ _ (by simp) | with_reducible refine StB.al ?_ | with_reducible refine StB.dr ?_ | with_reducible refine StB.bel ?_ (by with_reducible assumption)))); intro w6 s6 g6; have O6 := OwnD.putBy (t := 26) (cs := #[.slice none 0 0, .slice none 0 0]) (OwnD.bel O5.out (by repeat' (first | with_reducible assumption | with_reducible exact Below.refl _ _ | with_reducible refine bel_alloc ?_ | with_reducible refine bel_drew ?_ | with_reducible refine bel_trans ?_ (by with_reducible assumption)))) (by repeat' (first | with_reducible assumption | with_reducible refine StB.newE _ _ _ (by simp) | with_reducible refine StB.al ?_ | with_reducible refine StB.dr ?_ | with_reducible refine StB.bel ?_ (by with_reducible assumption))) (by decide) g6; have L6 := ge_of (w := v5) g6 (by first | exact bel_size (by repeat' (first | with_reducible assumption | with_reducible exact Below.refl _ _ | with_reducible refine bel_alloc ?_ | with_reducible refine bel_drew ?_ | with_reducible refine bel_trans ?_ (by with_reducible assumption))) | exact Nat.le_succ_of_le (bel_size (by repeat' (first | with_reducible assumption | with_reducible exact Below.refl _ _ | with_reducible refine bel_alloc ?_ | with_reducible refine bel_drew ?_ | with_reducible refine bel_trans ?_ (by with_reducible assumption))))); have b6 : Below v5.heap.size v5 w6 := bel_put (by repeat' (first | with_reducible assumption | with_reducible exact Below.refl _ _ | with_reducible refine bel_alloc ?_ | with_reducible refine bel_drew ?_ | with_reducible refine bel_trans ?_ (by with_reducible assumption))) g6 L6)
            | ((with_reducible show Oper.upon _ _ _ _ _ (Result.andThen (Sem.run _ (storeCells _ (anA _).toList) _) _)); refine upon_putS _ 32 (anA an) #[.int .i64 0, .string ⟨#[]⟩] ?_ ?_ ?_ ?_; (focus exact rfl); (focus exact anA_one _); (focus exact (StB.keptT (t := 26) (cs := #[.slice none 0 0, .slice none 0 0]) (by repeat' (first | with_reducible assumption | with_reducible refine StB.newE _ _ _ (by simp) | with_reducible refine StB.al ?_ | with_reducible refine StB.dr ?_ | with_reducible refine StB.bel ?_ (by with_reducible assumption))) (by repeat' (first | with_reducible assumption | with_reducible refine StB.newE _ _ _ (by simp) | with_reducible refine StB.al ?_ | with_reducible refine StB.dr ?_ | with_reducible refine StB.bel ?_ (by with_reducible assumption))) g6 (by decide))); intro w7 s7 g7; have L7 := ge_of (w := v5) g7 (by first | exact bel_size (by repeat' (first | with_reducible assumption | with_reducible exact Below.refl _ _ | with_reducible refine bel_alloc ?_ | with_reducible refine bel_drew ?_ | with_reducible refine bel_trans ?_ (by with_reducible assumption))) | exact Nat.le_succ_of_le (bel_size (by repeat' (first | with_reducible assumption | with_reducible exact Below.refl _ _ | with_reducible refine bel_alloc ?_ | with_reducible refine bel_drew ?_ | with_reducible refine bel_trans ?_ (by with_reducible assumption))))); have O7 := OwnD.putBy (t := 32) (cs := #[.int .i64 0, .string ⟨#[]⟩]) O6 (StB.keptT (t := 26) (cs := #[.slice none 0 0, .slice none 0 0]) (by repeat' (first | with_reducible assumption | with_reducible refine StB.newE _ _ _ (by simp) | with_reducible refine StB.al ?_ | with_reducible refine StB.dr ?_ | with_reducible refine StB.bel ?_ (by with_reducible assumption))) (by repeat' (first | with_reducible assumption | with_reducible refine StB.newE _ _ _ (by simp) | with_reducible refine StB.al ?_ | with_reducible refine StB.dr ?_ | with_reducible refine StB.bel ?_ (by with_reducible assumption))) g6 (by decide)) (by decide) g7; have S6 := StB.keptT (t := 32) (cs := #[.int .i64 0, .string ⟨#[]⟩]) s6 (StB.keptT (t := 26) (cs := #[.slice none 0 0, .slice none 0 0]) (by repeat' (first | with_reducible assumption | with_reducible refine StB.newE _ _ _ (by simp) | with_reducible refine StB.al ?_ | with_reducible refine StB.dr ?_ | with_reducible refine StB.bel ?_ (by with_reducible assumption))) (by repeat' (first | with_reducible assumption | with_reducible refine StB.newE _ _ _ (by simp) | with_reducible refine StB.al ?_ | with_reducible refine StB.dr ?_ | with_reducible refine StB.bel ?_ (by with_reducible assumption))) g6 (by decide)) g7 (by decide); have b7 : Below v5.heap.size v5 w7 := bel_put b6 g7 L7))
        all_goals
          go_wp2_with fail
          go_meet
          exact ⟨_, _, _, _, _, _, rfl, rfl, HS.out.add3 b7 S6 s7 O7 L6 L7 (by decide) (by decide) (by decide)⟩
      case rest =>
        clear HS m_vX_0 m_vX_1 m_C_0 m_C_1 m_C_2 m_C_3 m_C_4
        obtain ⟨gG, kG, aoG, acG, boG, bcG, rfl, rfl, HS⟩ := hcut
        obtain ⟨v6, hv6⟩ : ∃ v6, v6 = wc := ⟨_, rfl⟩
        rw [← hv6] at HS ⊢
        clear hv6
        have p_vG_0 : v6.cell? ⟨gG, 0, none⟩ = some (.slice aoG ks.length acG) := Blk.cell (HS.out.get 0 rfl) 0 rfl
        have p_vG_1 : v6.cell? ⟨gG, 1, none⟩ = some (.slice boG ns.length bcG) := Blk.cell (HS.out.get 0 rfl) 1 rfl
        have p_vW_0 : v6.cell? ⟨gW, 0, none⟩ = some (.slice aoW ks.length acW) := Blk.cell (HS.out.get 5 rfl) 0 rfl
        have p_vW_1 : v6.cell? ⟨gW, 1, none⟩ = some (.slice boW ns.length bcW) := Blk.cell (HS.out.get 5 rfl) 1 rfl
        go_wp2_with fail
        clear p_vG_0 p_vG_1 p_vW_0 p_vW_1
        refine (eqDisk_any _ _ _ _ _ _ _ (HS.out.readsU 2 rfl) (HS.out.readsV 2 rfl) (HS.out.readsU 7 rfl) (HS.out.readsV 7 rfl) gk gn).mono ?_
        rintro e v7 ⟨rfl, bv7⟩
        replace HS : Hid (Sta w v7 [Blk gG 26 (dkA (.slice aoG ks.length acG) (.slice boG ns.length bcG)), Blk kG 32 (anA an), Dsk (.slice aoG ks.length acG) (.slice boG ns.length bcG) ks ns, Blk v4.heap.size 26 #[.slice aoX xs0.length acX, .slice boX ys0.length bcX], Dsk (.slice aoX xs0.length acX) (.slice boX ys0.length bcX) xs0 ys0, Blk gW 26 (dkA (.slice aoW ks.length acW) (.slice boW ns.length bcW)), Blk kW 32 (anA an), Dsk (.slice aoW ks.length acW) (.slice boW ns.length bcW) ks ns, Blk (w.heap.size + 1) 44 (cmA r1), Blk w.heap.size 43 #[u0, v0]]) := HS.out.next bv7
        clear bv7
        have p_aG_0 : v7.cell? ⟨kG, 0, none⟩ = some (.int .i64 an.st) := Blk.cell (HS.out.get 1 rfl) 0 rfl
        have p_aG_1 : v7.cell? ⟨kG, 1, none⟩ = some (.string ⟨an.tx.toArray⟩) := Blk.cell (HS.out.get 1 rfl) 1 rfl
        have p_aW_0 : v7.cell? ⟨kW, 0, none⟩ = some (.int .i64 an.st) := Blk.cell (HS.out.get 6 rfl) 0 rfl
        have p_aW_1 : v7.cell? ⟨kW, 1, none⟩ = some (.string ⟨an.tx.toArray⟩) := Blk.cell (HS.out.get 6 rfl) 1 rfl
        go_wp2_with fail
        clear p_aG_0 p_aG_1 p_aW_0 p_aW_1
        refine (EA.out _).mono ?_
        rintro e v8 ⟨rfl, bv8⟩
        replace HS : Hid (Sta w v8 [Blk gG 26 (dkA (.slice aoG ks.length acG) (.slice boG ns.length bcG)), Blk kG 32 (anA an), Dsk (.slice aoG ks.length acG) (.slice boG ns.length bcG) ks ns, Blk v4.heap.size 26 #[.slice aoX xs0.length acX, .slice boX ys0.length bcX], Dsk (.slice aoX xs0.length acX) (.slice boX ys0.length bcX) xs0 ys0, Blk gW 26 (dkA (.slice aoW ks.length acW) (.slice boW ns.length bcW)), Blk kW 32 (anA an), Dsk (.slice aoW ks.length acW) (.slice boW ns.length bcW) ks ns, Blk (w.heap.size + 1) 44 (cmA r1), Blk w.heap.size 43 #[u0, v0]]) := HS.out.next bv8
        clear bv8
        go_upto_region 10 with fail
        have m_vX_0 : ∀ w', Sx v8 w' → w'.cell? ⟨v4.heap.size, 0, none⟩ = some (.slice aoX xs0.length acX) := fun w' b => later_cell (w := v8) (Blk.cell (HS.out.get 3 rfl) 0 rfl) b
        have m_vX_1 : ∀ w', Sx v8 w' → w'.cell? ⟨v4.heap.size, 1, none⟩ = some (.slice boX ys0.length bcX) := fun w' b => later_cell (w := v8) (Blk.cell (HS.out.get 3 rfl) 1 rfl) b
        have m_D_0 : ∀ w', Sx v8 w' → w'.cell? ⟨w.heap.size, 0, none⟩ = some (u0) := fun w' b => later_cell (w := v8) (Blk.cell (HS.out.get 9 rfl) 0 rfl) b
        have m_D_1 : ∀ w', Sx v8 w' → w'.cell? ⟨w.heap.size, 1, none⟩ = some (v0) := fun w' b => later_cell (w := v8) (Blk.cell (HS.out.get 9 rfl) 1 rfl) b
        go_region_held3 (fun w' => Sx v8 w') ((change Below v8.heap.size v8 _; exact (by repeat' (first | with_reducible assumption | with_reducible exact Below.refl _ _ | with_reducible refine bel_alloc ?_ | with_reducible refine bel_drew ?_ | with_reducible refine bel_trans ?_ (by with_reducible assumption)))))
          (first
            | (go_at_call 21; refine (TDk.out _ (bel_trans HS.out.below (by repeat' (first | with_reducible assumption | with_reducible exact Below.refl _ _ | with_reducible refine bel_alloc ?_ | with_reducible refine bel_drew ?_ | with_reducible refine bel_trans ?_ (by with_reducible assumption))))).mono ?_; rintro e w3 ⟨a, b, rfl, o3', b3⟩; obtain ⟨ao, ac, rfl⟩ := o3'.1.reads.form; obtain ⟨bo, bc, rfl⟩ := o3'.2.1.reads.form; have O3 : Hid (OwnD w3 _ (.slice ao xs0.length ac) (.slice bo ys0.length bc) xs0 ys0) := o3'; clear o3')
            | (go_at_call 23; refine (eqDisk_any _ _ _ _ _ _ _ ((HS.out.readsU 4 rfl).below (by repeat' (first | with_reducible assumption | with_reducible exact Below.refl _ _ | with_reducible refine bel_alloc ?_ | with_reducible refine bel_drew ?_ | with_reducible refine bel_trans ?_ (by with_reducible assumption))) (Nat.le_refl _)) ((HS.out.readsV 4 rfl).below (by repeat' (first | with_reducible assumption | with_reducible exact Below.refl _ _ | with_reducible refine bel_alloc ?_ | with_reducible refine bel_drew ?_ | with_reducible refine bel_trans ?_ (by with_reducible assumption))) (Nat.le_refl _)) (O3.out.1.reads.below (by repeat' (first | with_reducible assumption | with_reducible exact Below.refl _ _ | with_reducible refine bel_alloc ?_ | with_reducible refine bel_drew ?_ | with_reducible refine bel_trans ?_ (by with_reducible assumption))) (Nat.le_refl _)) (O3.out.2.1.reads.below (by repeat' (first | with_reducible assumption | with_reducible exact Below.refl _ _ | with_reducible refine bel_alloc ?_ | with_reducible refine bel_drew ?_ | with_reducible refine bel_trans ?_ (by with_reducible assumption))) (Nat.le_refl _)) gx gy).mono ?_; rintro e w4 ⟨rfl, b4⟩))
        have bv9 : Below v8.heap.size v8 w4 := (by repeat' (first | with_reducible assumption | with_reducible exact Below.refl _ _ | with_reducible refine bel_alloc ?_ | with_reducible refine bel_drew ?_ | with_reducible refine bel_trans ?_ (by with_reducible assumption)))
        clear O3 b3 b4 m_vX_0 m_vX_1 m_D_0 m_D_1
        replace HS : Hid (Sta w w4 [Blk gG 26 (dkA (.slice aoG ks.length acG) (.slice boG ns.length bcG)), Blk kG 32 (anA an), Dsk (.slice aoG ks.length acG) (.slice boG ns.length bcG) ks ns, Blk v4.heap.size 26 #[.slice aoX xs0.length acX, .slice boX ys0.length bcX], Dsk (.slice aoX xs0.length acX) (.slice boX ys0.length bcX) xs0 ys0, Blk gW 26 (dkA (.slice aoW ks.length acW) (.slice boW ns.length bcW)), Blk kW 32 (anA an), Dsk (.slice aoW ks.length acW) (.slice boW ns.length bcW) ks ns, Blk (w.heap.size + 1) 44 (cmA r1), Blk w.heap.size 43 #[u0, v0]]) := HS.out.next bv9
        clear bv9
        obtain ⟨v9, hv9⟩ : ∃ v9, v9 = w4 := ⟨_, rfl⟩
        rw [← hv9] at HS ⊢
        clear hv9
        have p_vX_0 : v9.cell? ⟨v4.heap.size, 0, none⟩ = some (.slice aoX xs0.length acX) := Blk.cell (HS.out.get 3 rfl) 0 rfl
        have p_vX_1 : v9.cell? ⟨v4.heap.size, 1, none⟩ = some (.slice boX ys0.length bcX) := Blk.cell (HS.out.get 3 rfl) 1 rfl
        go_wp2_with fail
        clear p_vX_0 p_vX_1
        refine (markDisk_any _ _ xs0 ys0 1 _ 0 (HS.out.get 4 rfl) sx sy (by omega) (by omega)).mono ?_
        rintro e v10 ⟨rfl, ov10, mv10⟩
        replace HS : Hid (Sta w v10 [Blk gG 26 (dkA (.slice aoG ks.length acG) (.slice boG ns.length bcG)), Blk kG 32 (anA an), Dsk (.slice aoG ks.length acG) (.slice boG ns.length bcG) ks ns, Blk v4.heap.size 26 #[.slice aoX xs0.length acX, .slice boX ys0.length bcX], Dsk (.slice aoX xs0.length acX) (.slice boX ys0.length bcX) (marks 1 xs0.length) (marks (1 + xs0.length) ys0.length), Blk gW 26 (dkA (.slice aoW ks.length acW) (.slice boW ns.length bcW)), Blk kW 32 (anA an), Dsk (.slice aoW ks.length acW) (.slice boW ns.length bcW) ks ns, Blk (w.heap.size + 1) 44 (cmA r1), Blk w.heap.size 43 #[u0, v0]]) := HS.out.marked 4 rfl ov10 mv10
        clear ov10 mv10
        have p_vG_0 : v10.cell? ⟨gG, 0, none⟩ = some (.slice aoG ks.length acG) := Blk.cell (HS.out.get 0 rfl) 0 rfl
        have p_vG_1 : v10.cell? ⟨gG, 1, none⟩ = some (.slice boG ns.length bcG) := Blk.cell (HS.out.get 0 rfl) 1 rfl
        have p_vW_0 : v10.cell? ⟨gW, 0, none⟩ = some (.slice aoW ks.length acW) := Blk.cell (HS.out.get 5 rfl) 0 rfl
        have p_vW_1 : v10.cell? ⟨gW, 1, none⟩ = some (.slice boW ns.length bcW) := Blk.cell (HS.out.get 5 rfl) 1 rfl
        go_wp2_with fail
        clear p_vG_0 p_vG_1 p_vW_0 p_vW_1
        refine (eqDisk_any _ _ _ _ _ _ _ (HS.out.readsU 2 rfl) (HS.out.readsV 2 rfl) (HS.out.readsU 7 rfl) (HS.out.readsV 7 rfl) gk gn).mono ?_
        rintro e v11 ⟨rfl, bv11⟩
        replace HS : Hid (Sta w v11 [Blk gG 26 (dkA (.slice aoG ks.length acG) (.slice boG ns.length bcG)), Blk kG 32 (anA an), Dsk (.slice aoG ks.length acG) (.slice boG ns.length bcG) ks ns, Blk v4.heap.size 26 #[.slice aoX xs0.length acX, .slice boX ys0.length bcX], Dsk (.slice aoX xs0.length acX) (.slice boX ys0.length bcX) (marks 1 xs0.length) (marks (1 + xs0.length) ys0.length), Blk gW 26 (dkA (.slice aoW ks.length acW) (.slice boW ns.length bcW)), Blk kW 32 (anA an), Dsk (.slice aoW ks.length acW) (.slice boW ns.length bcW) ks ns, Blk (w.heap.size + 1) 44 (cmA r1), Blk w.heap.size 43 #[u0, v0]]) := HS.out.next bv11
        clear bv11
        have p_aG_0 : v11.cell? ⟨kG, 0, none⟩ = some (.int .i64 an.st) := Blk.cell (HS.out.get 1 rfl) 0 rfl
        have p_aG_1 : v11.cell? ⟨kG, 1, none⟩ = some (.string ⟨an.tx.toArray⟩) := Blk.cell (HS.out.get 1 rfl) 1 rfl
        have p_aW_0 : v11.cell? ⟨kW, 0, none⟩ = some (.int .i64 an.st) := Blk.cell (HS.out.get 6 rfl) 0 rfl
        have p_aW_1 : v11.cell? ⟨kW, 1, none⟩ = some (.string ⟨an.tx.toArray⟩) := Blk.cell (HS.out.get 6 rfl) 1 rfl
        go_wp2_with fail
        clear p_aG_0 p_aG_1 p_aW_0 p_aW_1
        refine (EA.out _).mono ?_
        rintro e v12 ⟨rfl, bv12⟩
        replace HS : Hid (Sta w v12 [Blk gG 26 (dkA (.slice aoG ks.length acG) (.slice boG ns.length bcG)), Blk kG 32 (anA an), Dsk (.slice aoG ks.length acG) (.slice boG ns.length bcG) ks ns, Blk v4.heap.size 26 #[.slice aoX xs0.length acX, .slice boX ys0.length bcX], Dsk (.slice aoX xs0.length acX) (.slice boX ys0.length bcX) (marks 1 xs0.length) (marks (1 + xs0.length) ys0.length), Blk gW 26 (dkA (.slice aoW ks.length acW) (.slice boW ns.length bcW)), Blk kW 32 (anA an), Dsk (.slice aoW ks.length acW) (.slice boW ns.length bcW) ks ns, Blk (w.heap.size + 1) 44 (cmA r1), Blk w.heap.size 43 #[u0, v0]]) := HS.out.next bv12
        clear bv12
        have p_vG_0 : v12.cell? ⟨gG, 0, none⟩ = some (.slice aoG ks.length acG) := Blk.cell (HS.out.get 0 rfl) 0 rfl
        have p_vG_1 : v12.cell? ⟨gG, 1, none⟩ = some (.slice boG ns.length bcG) := Blk.cell (HS.out.get 0 rfl) 1 rfl
        go_wp2_with fail
        clear p_vG_0 p_vG_1
        refine (markDisk_any _ _ ks ns 1 _ 0 (HS.out.get 2 rfl) sk sn (by omega) (by omega)).mono ?_
        rintro e v13 ⟨rfl, ov13, mv13⟩
        replace HS : Hid (Sta w v13 [Blk gG 26 (dkA (.slice aoG ks.length acG) (.slice boG ns.length bcG)), Blk kG 32 (anA an), Dsk (.slice aoG ks.length acG) (.slice boG ns.length bcG) (marks 1 ks.length) (marks (1 + ks.length) ns.length), Blk v4.heap.size 26 #[.slice aoX xs0.length acX, .slice boX ys0.length bcX], Dsk (.slice aoX xs0.length acX) (.slice boX ys0.length bcX) (marks 1 xs0.length) (marks (1 + xs0.length) ys0.length), Blk gW 26 (dkA (.slice aoW ks.length acW) (.slice boW ns.length bcW)), Blk kW 32 (anA an), Dsk (.slice aoW ks.length acW) (.slice boW ns.length bcW) ks ns, Blk (w.heap.size + 1) 44 (cmA r1), Blk w.heap.size 43 #[u0, v0]]) := HS.out.marked 2 rfl ov13 mv13
        clear ov13 mv13
        have p_vG_0 : v13.cell? ⟨gG, 0, none⟩ = some (.slice aoG ks.length acG) := Blk.cell (HS.out.get 0 rfl) 0 rfl
        have p_vG_1 : v13.cell? ⟨gG, 1, none⟩ = some (.slice boG ns.length bcG) := Blk.cell (HS.out.get 0 rfl) 1 rfl
        go_wp2_with fail
        clear p_vG_0 p_vG_1
        refine (heldDisk_any _ _ ks.length ns.length 1 _ (HS.out.readsU 2 rfl) (HS.out.readsV 2 rfl) sk sn (by omega) (by omega)).mono ?_
        rintro e v14 ⟨rfl, bv14⟩
        replace HS : Hid (Sta w v14 [Blk gG 26 (dkA (.slice aoG ks.length acG) (.slice boG ns.length bcG)), Blk kG 32 (anA an), Dsk (.slice aoG ks.length acG) (.slice boG ns.length bcG) (marks 1 ks.length) (marks (1 + ks.length) ns.length), Blk v4.heap.size 26 #[.slice aoX xs0.length acX, .slice boX ys0.length bcX], Dsk (.slice aoX xs0.length acX) (.slice boX ys0.length bcX) (marks 1 xs0.length) (marks (1 + xs0.length) ys0.length), Blk gW 26 (dkA (.slice aoW ks.length acW) (.slice boW ns.length bcW)), Blk kW 32 (anA an), Dsk (.slice aoW ks.length acW) (.slice boW ns.length bcW) ks ns, Blk (w.heap.size + 1) 44 (cmA r1), Blk w.heap.size 43 #[u0, v0]]) := HS.out.next bv14
        clear bv14
        have m_D_0 : ∀ w', Sx v14 w' → w'.cell? ⟨w.heap.size, 0, none⟩ = some (u0) := fun w' b => later_cell (w := v14) (Blk.cell (HS.out.get 9 rfl) 0 rfl) b
        have m_D_1 : ∀ w', Sx v14 w' → w'.cell? ⟨w.heap.size, 1, none⟩ = some (v0) := fun w' b => later_cell (w := v14) (Blk.cell (HS.out.get 9 rfl) 1 rfl) b
        have m_C_0 : ∀ w', Sx v14 w' → w'.cell? ⟨w.heap.size + 1, 0, none⟩ = some (.int .i64 r1.o) := fun w' b => later_cell (w := v14) (Blk.cell (HS.out.get 8 rfl) 0 rfl) b
        have m_C_1 : ∀ w', Sx v14 w' → w'.cell? ⟨w.heap.size + 1, 1, none⟩ = some (.int .i64 r1.p) := fun w' b => later_cell (w := v14) (Blk.cell (HS.out.get 8 rfl) 1 rfl) b
        have m_C_2 : ∀ w', Sx v14 w' → w'.cell? ⟨w.heap.size + 1, 2, none⟩ = some (.int .i64 r1.a) := fun w' b => later_cell (w := v14) (Blk.cell (HS.out.get 8 rfl) 2 rfl) b
        have m_C_3 : ∀ w', Sx v14 w' → w'.cell? ⟨w.heap.size + 1, 3, none⟩ = some (.int .i64 r1.b) := fun w' b => later_cell (w := v14) (Blk.cell (HS.out.get 8 rfl) 3 rfl) b
        have m_C_4 : ∀ w', Sx v14 w' → w'.cell? ⟨w.heap.size + 1, 4, none⟩ = some (.int .i64 r1.k) := fun w' b => later_cell (w := v14) (Blk.cell (HS.out.get 8 rfl) 4 rfl) b
        go_upto_region 24 with fail
        go_cut [14, 15] (fun p q wx => ∃ gH kH aoH acH boH bcH, p = .pointer (some ⟨gH, 0, none⟩) ∧ q = .pointer (some ⟨kH, 0, none⟩) ∧ Hid (Sta w wx [Blk gH 26 (dkA (.slice aoH ks.length acH) (.slice boH ns.length bcH)), Blk kH 32 (anA an), Dsk (.slice aoH ks.length acH) (.slice boH ns.length bcH) ks ns, Blk gG 26 (dkA (.slice aoG ks.length acG) (.slice boG ns.length bcG)), Blk kG 32 (anA an), Dsk (.slice aoG ks.length acG) (.slice boG ns.length bcG) (marks 1 ks.length) (marks (1 + ks.length) ns.length), Blk v4.heap.size 26 #[.slice aoX xs0.length acX, .slice boX ys0.length bcX], Dsk (.slice aoX xs0.length acX) (.slice boX ys0.length bcX) (marks 1 xs0.length) (marks (1 + xs0.length) ys0.length), Blk gW 26 (dkA (.slice aoW ks.length acW) (.slice boW ns.length bcW)), Blk kW 32 (anA an), Dsk (.slice aoW ks.length acW) (.slice boW ns.length bcW) ks ns, Blk (w.heap.size + 1) 44 (cmA r1), Blk w.heap.size 43 #[u0, v0]]))
        case first =>
          go_region_held3 (fun w' => Sx v14 w') ((change Below v14.heap.size v14 _; exact (by repeat' (first | with_reducible assumption | with_reducible exact Below.refl _ _ | with_reducible refine bel_alloc ?_ | with_reducible refine bel_drew ?_ | with_reducible refine bel_trans ?_ (by with_reducible assumption)))))
            (first
              | (go_at_call 21; refine (TDk.out _ (bel_trans HS.out.below (by repeat' (first | with_reducible assumption | with_reducible exact Below.refl _ _ | with_reducible refine bel_alloc ?_ | with_reducible refine bel_drew ?_ | with_reducible refine bel_trans ?_ (by with_reducible assumption))))).mono ?_; rintro e w3 ⟨a, b, rfl, o3', b3⟩; obtain ⟨ao, ac, rfl⟩ := o3'.1.reads.form; obtain ⟨bo, bc, rfl⟩ := o3'.2.1.reads.form; have O3 : Hid (OwnD w3 _ (.slice ao xs0.length ac) (.slice bo ys0.length bc) xs0 ys0) := o3'; clear o3')
              | (go_at_call 22; refine (TCm.out _).mono ?_; rintro e w4 ⟨rfl, b4⟩)
              | (go_at_call 7; refine (ID.out _ _ _ (O3.out.1.reads.below (by repeat' (first | with_reducible assumption | with_reducible exact Below.refl _ _ | with_reducible refine bel_alloc ?_ | with_reducible refine bel_drew ?_ | with_reducible refine bel_trans ?_ (by with_reducible assumption))) (Nat.le_refl _)) (O3.out.2.1.reads.below (by repeat' (first | with_reducible assumption | with_reducible exact Below.refl _ _ | with_reducible refine bel_alloc ?_ | with_reducible refine bel_drew ?_ | with_reducible refine bel_trans ?_ (by with_reducible assumption))) (Nat.le_refl _)) (HP.out.below (bel_trans HS.out.below (by repeat' (first | with_reducible assumption | with_reducible exact Below.refl _ _ | with_reducible refine bel_alloc ?_ | with_reducible refine bel_drew ?_ | with_reducible refine bel_trans ?_ (by with_reducible assumption)))))).mono ?_; rintro e w5 ⟨a5, b5', rfl, o5', b5⟩; obtain ⟨aoH, acH, rfl⟩ := o5'.1.reads.form; obtain ⟨boH, bcH, rfl⟩ := o5'.2.1.reads.form; have O5 : Hid (OwnD w5 v14.heap.size (.slice aoH ks.length acH) (.slice boH ns.length bcH) ks ns) := o5'.mono' (bel_size (by repeat' (first | with_reducible assumption | with_reducible exact Below.refl _ _ | with_reducible refine bel_alloc ?_ | with_reducible refine bel_drew ?_ | with_reducible refine bel_trans ?_ (by with_reducible assumption)))); clear o5')
              | ((with_reducible show Oper.upon _ _ _ _ _ (Result.andThen (Sem.run _ (storeCells _ (dkA _ _).toList) _) _)); refine upon_putS _ 26 (dkA (.slice aoH ks.length acH) (.slice boH ns.length bcH)) #[.slice none 0 0, .slice none 0 0] ?_ ?_ ?_ ?_; (focus exact rfl); (focus exact dkA_one rfl rfl); (focus exact (by repeat' (first | with_reducible assumption | with_reducible refine StB.newE _ _ _ (by simp) | with_reducible refine StB.al ?_ | with_reducible refine StB.dr ?_ | with_reducible refine StB.bel ?_ (by with_reducible assumption)))); intro w6 s6 g6; have O6 := OwnD.putBy (t := 26) (cs := #[.slice none 0 0, .slice none 0 0]) (OwnD.bel O5.out (by repeat' (first | with_reducible assumption | with_reducible exact Below.refl _ _ | with_reducible refine bel_alloc ?_ | with_reducible refine bel_drew ?_ | with_reducible refine bel_trans ?_ (by with_reducible assumption)))) (by repeat' (first | with_reducible assumption | with_reducible refine StB.newE _ _ _ (by simp) | with_reducible refine StB.al ?_ | with_reducible refine StB.dr ?_ | with_reducible refine StB.bel ?_ (by with_reducible assumption))) (by decide) g6; have L6 := ge_of (w := v14) g6 (by first | exact bel_size (by repeat' (first | with_reducible assumption | with_reducible exact Below.refl _ _ | with_reducible refine bel_alloc ?_ | with_reducible refine bel_drew ?_ | with_reducible refine bel_trans ?_ (by with_reducible assumption))) | exact Nat.le_succ_of_le (bel_size (by repeat' (first | with_reducible assumption | with_reducible exact Below.refl _ _ | with_reducible refine bel_alloc ?_ | with_reducible refine bel_drew ?_ | with_reducible refine bel_trans ?_ (by with_reducible assumption))))); have b6 : Below v14.heap.size v14 w6 := bel_put (by repeat' (first | with_reducible assumption | with_reducible exact Below.refl _ _ | with_reducible refine bel_alloc ?_ | with_reducible refine bel_drew ?_ | with_reducible refine bel_trans ?_ (by with_reducible assumption))) g6 L6)
              | ((with_reducible show Oper.upon _ _ _ _ _ (Result.andThen (Sem.run _ (storeCells _ (anA _).toList) _) _)); refine upon_putS _ 32 (anA an) #[.int .i64 0, .string ⟨#[]⟩] ?_ ?_ ?_ ?_; (focus exact rfl); (focus exact anA_one _); (focus exact (StB.keptT (t := 26) (cs := #[.slice none 0 0, .slice none 0 0]) (by repeat' (first | with_reducible assumption | with_reducible refine StB.newE _ _ _ (by simp) | with_reducible refine StB.al ?_ | with_reducible refine StB.dr ?_ | with_reducible refine StB.bel ?_ (by with_reducible assumption))) (by repeat' (first | with_reducible assumption | with_reducible refine StB.newE _ _ _ (by simp) | with_reducible refine StB.al ?_ | with_reducible refine StB.dr ?_ | with_reducible refine StB.bel ?_ (by with_reducible assumption))) g6 (by decide))); intro w7 s7 g7; have L7 := ge_of (w := v14) g7 (by first | exact bel_size (by repeat' (first | with_reducible assumption | with_reducible exact Below.refl _ _ | with_reducible refine bel_alloc ?_ | with_reducible refine bel_drew ?_ | with_reducible refine bel_trans ?_ (by with_reducible assumption))) | exact Nat.le_succ_of_le (bel_size (by repeat' (first | with_reducible assumption | with_reducible exact Below.refl _ _ | with_reducible refine bel_alloc ?_ | with_reducible refine bel_drew ?_ | with_reducible refine bel_trans ?_ (by with_reducible assumption))))); have O7 := OwnD.putBy (t := 32) (cs := #[.int .i64 0, .string ⟨#[]⟩]) O6 (StB.keptT (t := 26) (cs := #[.slice none 0 0, .slice none 0 0]) (by repeat' (first | with_reducible assumption | with_reducible refine StB.newE _ _ _ (by simp) | with_reducible refine StB.al ?_ | with_reducible refine StB.dr ?_ | with_reducible refine StB.bel ?_ (by with_reducible assumption))) (by repeat' (first | with_reducible assumption | with_reducible refine StB.newE _ _ _ (by simp) | with_reducible refine StB.al ?_ | with_reducible refine StB.dr ?_ | with_reducible refine StB.bel ?_ (by with_reducible assumption))) g6 (by decide)) (by decide) g7; have S6 := StB.keptT (t := 32) (cs := #[.int .i64 0, .string ⟨#[]⟩]) s6 (StB.keptT (t := 26) (cs := #[.slice none 0 0, .slice none 0 0]) (by repeat' (first | with_reducible assumption | with_reducible refine StB.newE _ _ _ (by simp) | with_reducible refine StB.al ?_ | with_reducible refine StB.dr ?_ | with_reducible refine StB.bel ?_ (by with_reducible assumption))) (by repeat' (first | with_reducible assumption | with_reducible refine StB.newE _ _ _ (by simp) | with_reducible refine StB.al ?_ | with_reducible refine StB.dr ?_ | with_reducible refine StB.bel ?_ (by with_reducible assumption))) g6 (by decide)) g7 (by decide); have b7 : Below v14.heap.size v14 w7 := bel_put b6 g7 L7))
          all_goals
            go_wp2_with fail
            go_meet
            exact ⟨_, _, _, _, _, _, rfl, rfl, HS.out.add3 b7 S6 s7 O7 L6 L7 (by decide) (by decide) (by decide)⟩
        case rest =>
          clear HS m_D_0 m_D_1 m_C_0 m_C_1 m_C_2 m_C_3 m_C_4
          obtain ⟨gH, kH, aoH, acH, boH, bcH, rfl, rfl, HS⟩ := hcut
          obtain ⟨v15, hv15⟩ : ∃ v15, v15 = wc := ⟨_, rfl⟩
          rw [← hv15] at HS ⊢
          clear hv15
          have p_vH_0 : v15.cell? ⟨gH, 0, none⟩ = some (.slice aoH ks.length acH) := Blk.cell (HS.out.get 0 rfl) 0 rfl
          have p_vH_1 : v15.cell? ⟨gH, 1, none⟩ = some (.slice boH ns.length bcH) := Blk.cell (HS.out.get 0 rfl) 1 rfl
          have p_vW_0 : v15.cell? ⟨gW, 0, none⟩ = some (.slice aoW ks.length acW) := Blk.cell (HS.out.get 8 rfl) 0 rfl
          have p_vW_1 : v15.cell? ⟨gW, 1, none⟩ = some (.slice boW ns.length bcW) := Blk.cell (HS.out.get 8 rfl) 1 rfl
          go_wp2_with fail
          clear p_vH_0 p_vH_1 p_vW_0 p_vW_1
          refine (eqDisk_any _ _ _ _ _ _ _ (HS.out.readsU 2 rfl) (HS.out.readsV 2 rfl) (HS.out.readsU 10 rfl) (HS.out.readsV 10 rfl) gk gn).mono ?_
          rintro e v16 ⟨rfl, bv16⟩
          replace HS : Hid (Sta w v16 [Blk gH 26 (dkA (.slice aoH ks.length acH) (.slice boH ns.length bcH)), Blk kH 32 (anA an), Dsk (.slice aoH ks.length acH) (.slice boH ns.length bcH) ks ns, Blk gG 26 (dkA (.slice aoG ks.length acG) (.slice boG ns.length bcG)), Blk kG 32 (anA an), Dsk (.slice aoG ks.length acG) (.slice boG ns.length bcG) (marks 1 ks.length) (marks (1 + ks.length) ns.length), Blk v4.heap.size 26 #[.slice aoX xs0.length acX, .slice boX ys0.length bcX], Dsk (.slice aoX xs0.length acX) (.slice boX ys0.length bcX) (marks 1 xs0.length) (marks (1 + xs0.length) ys0.length), Blk gW 26 (dkA (.slice aoW ks.length acW) (.slice boW ns.length bcW)), Blk kW 32 (anA an), Dsk (.slice aoW ks.length acW) (.slice boW ns.length bcW) ks ns, Blk (w.heap.size + 1) 44 (cmA r1), Blk w.heap.size 43 #[u0, v0]]) := HS.out.next bv16
          clear bv16
          have p_aH_0 : v16.cell? ⟨kH, 0, none⟩ = some (.int .i64 an.st) := Blk.cell (HS.out.get 1 rfl) 0 rfl
          have p_aH_1 : v16.cell? ⟨kH, 1, none⟩ = some (.string ⟨an.tx.toArray⟩) := Blk.cell (HS.out.get 1 rfl) 1 rfl
          have p_aW_0 : v16.cell? ⟨kW, 0, none⟩ = some (.int .i64 an.st) := Blk.cell (HS.out.get 9 rfl) 0 rfl
          have p_aW_1 : v16.cell? ⟨kW, 1, none⟩ = some (.string ⟨an.tx.toArray⟩) := Blk.cell (HS.out.get 9 rfl) 1 rfl
          go_wp2_with fail
          clear p_aH_0 p_aH_1 p_aW_0 p_aW_1
          refine (EA.out _).mono ?_
          rintro e v17 ⟨rfl, bv17⟩
          replace HS : Hid (Sta w v17 [Blk gH 26 (dkA (.slice aoH ks.length acH) (.slice boH ns.length bcH)), Blk kH 32 (anA an), Dsk (.slice aoH ks.length acH) (.slice boH ns.length bcH) ks ns, Blk gG 26 (dkA (.slice aoG ks.length acG) (.slice boG ns.length bcG)), Blk kG 32 (anA an), Dsk (.slice aoG ks.length acG) (.slice boG ns.length bcG) (marks 1 ks.length) (marks (1 + ks.length) ns.length), Blk v4.heap.size 26 #[.slice aoX xs0.length acX, .slice boX ys0.length bcX], Dsk (.slice aoX xs0.length acX) (.slice boX ys0.length bcX) (marks 1 xs0.length) (marks (1 + xs0.length) ys0.length), Blk gW 26 (dkA (.slice aoW ks.length acW) (.slice boW ns.length bcW)), Blk kW 32 (anA an), Dsk (.slice aoW ks.length acW) (.slice boW ns.length bcW) ks ns, Blk (w.heap.size + 1) 44 (cmA r1), Blk w.heap.size 43 #[u0, v0]]) := HS.out.next bv17
          clear bv17
          have p_vG_0 : v17.cell? ⟨gG, 0, none⟩ = some (.slice aoG ks.length acG) := Blk.cell (HS.out.get 3 rfl) 0 rfl
          have p_vG_1 : v17.cell? ⟨gG, 1, none⟩ = some (.slice boG ns.length bcG) := Blk.cell (HS.out.get 3 rfl) 1 rfl
          go_wp2_with fail
          clear p_vG_0 p_vG_1
          refine (heldDisk_any _ _ ks.length ns.length 1 _ (HS.out.readsU 5 rfl) (HS.out.readsV 5 rfl) sk sn (by omega) (by omega)).mono ?_
          rintro e v18 ⟨rfl, bv18⟩
          replace HS : Hid (Sta w v18 [Blk gH 26 (dkA (.slice aoH ks.length acH) (.slice boH ns.length bcH)), Blk kH 32 (anA an), Dsk (.slice aoH ks.length acH) (.slice boH ns.length bcH) ks ns, Blk gG 26 (dkA (.slice aoG ks.length acG) (.slice boG ns.length bcG)), Blk kG 32 (anA an), Dsk (.slice aoG ks.length acG) (.slice boG ns.length bcG) (marks 1 ks.length) (marks (1 + ks.length) ns.length), Blk v4.heap.size 26 #[.slice aoX xs0.length acX, .slice boX ys0.length bcX], Dsk (.slice aoX xs0.length acX) (.slice boX ys0.length bcX) (marks 1 xs0.length) (marks (1 + xs0.length) ys0.length), Blk gW 26 (dkA (.slice aoW ks.length acW) (.slice boW ns.length bcW)), Blk kW 32 (anA an), Dsk (.slice aoW ks.length acW) (.slice boW ns.length bcW) ks ns, Blk (w.heap.size + 1) 44 (cmA r1), Blk w.heap.size 43 #[u0, v0]]) := HS.out.next bv18
          clear bv18
          have HB : Hid (Below w.heap.size w _) := HS.out.below
          clear HS
          go_wp2_with fail
          go_ret
          exact ⟨rfl, HB.out⟩
  · have hsz : szI 1048576 (xs0.length + ys0.length) = -1 := by simp only [szI]; rw [if_neg (by omega)]
    have b1 := (belowAlloc w (.cells #[u0, v0] 43)).trans ((belowAlloc (w.alloc (.cells #[u0, v0] 43)) (.cells (cmA r1) 44)).mono (belowAlloc w (.cells #[u0, v0] 43)).size)
    have c1 := szDisk_any u0 v0 xs0 ys0 1048576 _ (RX0.below b1 (Nat.le_refl _)) (RY0.below b1 (Nat.le_refl _)) (by omega) (by omega)
    rw [hsz] at c1
    clear hsz RX0 RY0 hbig
    unfold CV
    unfold cmA at b1 c1 ⊢
    go_enter Tryd.func4, Tryd.ntmps4
    go_wp2_with fail
    refine c1.mono ?_
    rintro e w2 ⟨rfl, b2⟩
    replace b2 := b1.trans (b2.mono b1.size)
    clear b1 c1
    go_wp2_with fail
    go_ret
    exact ⟨rfl, b2⟩

set_option maxRecDepth 100000 in
theorem lifted (os : Os) (started : os.Started) (H : Type) (enc : TypeId × Value → H) :
    ReturnsInHanded {} Tryd.checked os 4 .any (fun w args => (Rows.fnExactDidDiskSpec.pre enc Tryd.prog Tryd.f4 [] false w args ∧ laidMetH Tryd.prog Rows.fnExactDidDiskRow.laid w) ∧ sizedMet enc Tryd.prog Tryd.f4 (OpenSpec.ofChange Rows.fnExactDidDiskSpec) false w args) (Rows.fnExactDidDiskSpec.post enc Tryd.prog Tryd.f4 false true false false) := by
  refine returnsInHanded_of_change_and (C := Tryd.checked) (X := fun w _ => laidMetH Tryd.prog Rows.fnExactDidDiskRow.laid w) (fun _ _ _ hh h => h.of_heap hh) own started (by kernel_rfl) Tryd.func4
    (ChangeSpec.witness_shaped (enc := enc) (C := Tryd.checked) (os := os) (X := fun w _ => laidMetH Tryd.prog Rows.fnExactDidDiskRow.laid w) false (World.laidAll Tryd.prog os Rows.fnExactDidDiskRow.laid) #[.agg #[.slice none 0 0, .slice none 0 0], .agg #[.int .i64 0, .int .i64 0, .int .i64 0, .int .i64 0, .int .i64 0]] 8 (World.laidAll_os _ _ _)
      (World.shaped_of_ZipB (by kernel_rfl) (by kernel_rfl)) (by kernel_rfl) (by kernel_rfl) (by kernel_rfl)
      (by rw [MakeChecks.laidMetH_plain _ _ _ (by kernel_rfl)]; exact laidMet_laidAll _ (by kernel_rfl) (by kernel_rfl))) ?_
  intro W base args ds gs before hval0 hW hcnd _ hL _
  have hval : ∀ (j : Nat) t v, Tryd.f4.params[j]? = some t → args[j]? = some v → Value.okWide Tryd.prog W .any base t v := hval0
  have hW' := hW
  obtain ⟨p, q, hA0, hV, rfl, hfz, hnd⟩ := hW
  have hA : DataW.TrodAll enc Tryd.prog W 0 (fun _ => true) true Tryd.f4.params.toList args.toList ds p := hA0
  rw [Tryd.params4] at hA hval
  obtain ⟨v0, vs0, d0, ds0, p0, q0, hargs, rfl, rfl, h0, s0⟩ := trodAll_cons hA
  obtain ⟨v1, vs1, d1, ds1, p1, q1, rfl, rfl, rfl, h1, s1⟩ := trodAll_cons s0
  obtain ⟨rfl, rfl, rfl⟩ := trodAll_nil s1
  obtain rfl : args = #[v0, v1] := by cases args; simp_all
  obtain ⟨rfl, rfl⟩ := trodVars_none hV
  have k0 := h0
  have lt0 : ∀ x ∈ p0, x.block < W.heap.size := by obtain ⟨m, hm⟩ := k0; exact DataW.trod_lt m _ _ _ hm
  obtain ⟨u0, y0, xs0, ys0, rfl, RX0, RY0⟩ := open_disk (hval 0 43 v0 rfl rfl) h0
  have k1 := h1
  have lt1 : ∀ x ∈ p1, x.block < W.heap.size := by obtain ⟨m, hm⟩ := k1; exact DataW.trod_lt m _ _ _ hm
  obtain ⟨r1, rfl, f1⟩ := open_cmd (hval 1 44 v1 rfl rfl) h1
  clear hA0 hval0
  refine (walk u0 y0 xs0 ys0 r1 W RX0 RY0 f1 (tab_fnExactDidDisk hL)).mono fun e W' ⟨he, bel⟩ => ?_
  subst he
  exact ⟨_, rfl, _, _, _, [], _, [], hW', trodAll_mk1 (shut_bool Tryd.underlying4 _), (trodAll_cons_mk (Below.trod laidOut (by kernel_rfl) (of_decide_eq_true (by kernel_rfl)) k0 bel lt0) (trodAll_cons_mk (Below.trod laidOut (by kernel_rfl) (of_decide_eq_true (by kernel_rfl)) k1 bel lt1) trodAll_mk0)), rfl, bel.frame _, fun h => by cases h⟩

theorem over : Rows.fnExactDidDiskRow.holds Tryd.pinned (OpenSpec.ofChange Rows.fnExactDidDiskSpec) :=
  OpenClaim.holds_of_wide 4 Tryd.f4 rfl rfl rfl rfl rfl rfl rfl ⟨rfl, rfl, rfl, rfl, rfl⟩ rfl rfl rfl rfl rfl (by kernel_rfl) Tryd.func4 (by kernel_rfl)
    (of_decide_eq_true (by kernel_rfl)) (by unfold Func.isWrapper; first | (rw [if_pos (by decide +kernel)]; kernel_rfl) | (rw [if_neg (by decide +kernel)]; exact ⟨rfl, rfl⟩))
    (fun os started H enc _ => lifted os started H enc)

theorem proved : Rows.FnExactDidDiskSaid := over
end Go.Proofs.YtnnmcjgmnjokiaaDoor.fnExactDidDisk
namespace Go.Proofs.YtnnmcjgmnjokiaaDoor
open Go in
theorem fnExactDidDisk_holds : Rows.FnExactDidDiskCardSaid :=
  Claim7.holds_tied_plain_at .later [] [.data, .data, .data] true (true, "3aa7a82c1d5a74517d9fc0157b21a90449f5d2fbbda0ac225e98c04cbfeb6b93") true
    fnExactDidDisk.proved (fun _ h => by cases h) (by kernel_rfl) (fun _ h => by cases h) fnExactDidDisk_row_tie rfl ⟨rfl, rfl⟩ (by kernel_rfl) rfl
    (fun f fn hf hfn => by
      obtain rfl : f = 4 := Option.some.inj ((show Tryd.prog.funcNamed Rows.fnExactDidDiskRow.func = some 4 by kernel_rfl).symm.trans hf) |>.symm
      obtain rfl : fn = Tryd.f4 := (Option.some.inj (Tryd.func4.symm.trans hfn)).symm
      exact ⟨by kernel_rfl, fun j t ht => by
        rw [Tryd.params4] at ht
        have hm : t ∈ [43, 44] := by simpa using Array.mem_of_getElem? ht
        have hall : ([43, 44].all fun u => !Tryd.prog.wantsStandIn u) = true := by kernel_rfl
        exact (show Tryd.prog.wantsStandIn t = false by simpa using List.all_eq_true.1 hall t hm)⟩)
    (by kernel_rfl)
end Go.Proofs.YtnnmcjgmnjokiaaDoor
