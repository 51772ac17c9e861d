/- What the model draws for two stores: DrawAlike. -/
import Derived.Test.YtpdggofaobmnlaaM17
namespace Go.Proofs.Ytpdggofaobmnlaa
open Go.ChangeShapes Go.WideShapes Go.ChangeAt Go.RowKit

set_option maxRecDepth 20000 in
set_option maxHeartbeats 8000000 in
theorem drawAlike_any (B : Nat) (v : Value) (w : World) (h0 : CodeOk w B v) (hB : B ≤ w.heap.size) :
    Calls Try.prog 11 #[v] w fun e w' => ∃ a b k xs ys h a' b' k' xt yt j, e = .returned (.tuple #[SRV a b k h, SRV a' b' k' j]) ∧ (xs.length ≤ 65 ∧ ys.length ≤ 65 ∧ h.ks.length ≤ 4) ∧ (xt.length ≤ 65 ∧ yt.length ≤ 65 ∧ j.ks.length ≤ 4) ∧ (Reads w' a xs ∧ Reads w' b ys ∧ Reads w' k h.ks) ∧ (Reads w' a' xt ∧ Reads w' b' yt ∧ Reads w' k' j.ks) ∧ Below w.heap.size w w' := by
  obtain ⟨w1, hw1⟩ : ∃ w1, w1 = (w.alloc (.cells #[.slice none 0 0, .slice none 0 0, .slice none 0 0, .int .i64 0, .int .i64 0, .int .i64 0] 30)).alloc (.cells #[.slice none 0 0, .slice none 0 0, .slice none 0 0, .int .i64 0, .int .i64 0, .int .i64 0] 30) := ⟨_, rfl⟩
  have hs1 := ((Sta.start w).box 30 #[.slice none 0 0, .slice none 0 0, .slice none 0 0, .int .i64 0, .int .i64 0, .int .i64 0]).box 30 #[.slice none 0 0, .slice none 0 0, .slice none 0 0, .int .i64 0, .int .i64 0, .int .i64 0]
  rw [World.size_alloc, ← hw1] at hs1
  have HS : Hid (Sta w w1 (Blk (w.heap.size + 1) 30 #[.slice none 0 0, .slice none 0 0, .slice none 0 0, .int .i64 0, .int .i64 0, .int .i64 0] :: Blk w.heap.size 30 #[.slice none 0 0, .slice none 0 0, .slice none 0 0, .int .i64 0, .int .i64 0, .int .i64 0] :: [])) := hs1
  clear hs1
  have HC : Hid (CodeOk w B v) := h0
  clear h0
  go_enter Try.func11, Try.ntmps11
  go_wp2_with fail
  rw [← hw1]
  clear hw1
  refine (new_code B v _ (HC.out.below (HS.out.below.mono hB)) (Nat.le_trans hB HS.out.below.size)).mono ?_
  rintro e w2 ⟨c, rfl, hc, C2, G2⟩
  replace HS : Hid (Sta w w2 (CurI B c :: Blk (w.heap.size + 1) 30 #[.slice none 0 0, .slice none 0 0, .slice none 0 0, .int .i64 0, .int .i64 0, .int .i64 0] :: Blk w.heap.size 30 #[.slice none 0 0, .slice none 0 0, .slice none 0 0, .int .i64 0, .int .i64 0, .int .i64 0] :: [])) := HS.out.newCur hB hc C2 G2
  clear C2 G2 hc HC
  go_wp2_with fail
  refine (l12Draw_any HS.out).mono ?_
  rintro e w3 ⟨a, b, q, off, n, cap, xs, ys, h, rfl, hx, hy, hk, S3⟩
  replace HS : Hid (Sta w w3 _) := S3
  clear S3
  obtain ⟨ao, ac, rfl⟩ := (HS.out.readsU 1 rfl).form
  obtain ⟨bo, bc, rfl⟩ := (HS.out.readsV 1 rfl).form
  unfold SRV srA
  obtain ⟨w4, hw4⟩ : ∃ w4, w4 = w3.alloc (.cells #[.slice ao xs.length ac, .slice bo ys.length bc, .slice (some ⟨q, off, none⟩) n cap, .int .i64 h.kd, .int .i64 h.ho, .int .i64 h.tu] 30) := ⟨_, rfl⟩
  replace HS := HS.out.box 30 #[.slice ao xs.length ac, .slice bo ys.length bc, .slice (some ⟨q, off, none⟩) n cap, .int .i64 h.kd, .int .i64 h.ho, .int .i64 h.tu]
  rw [← hw4] at HS
  replace HS : Hid (Sta w w4 _) := HS
  go_upto_region 3 with fail
  rw [← hw4]
  clear hw4
  obtain ⟨gd, hgd⟩ : ∃ gd, gd = w3.heap.size := ⟨_, rfl⟩
  have hn0 : gd ≠ w.heap.size := by
    have h3 := HS.out.apart.1 (Blk w.heap.size 30 #[.slice none 0 0, .slice none 0 0, .slice none 0 0, .int .i64 0, .int .i64 0, .int .i64 0]) (by simp) w3.heap.size (by simp [Blk])
    rw [hgd]
    intro e
    exact h3 (by simp [Blk, e])
  have hn1 : gd ≠ w.heap.size + 1 := by
    have h3 := HS.out.apart.1 (Blk (w.heap.size + 1) 30 #[.slice none 0 0, .slice none 0 0, .slice none 0 0, .int .i64 0, .int .i64 0, .int .i64 0]) (by simp) w3.heap.size (by simp [Blk])
    rw [hgd]
    intro e
    exact h3 (by simp [Blk, e])
  rw [← hgd] at HS ⊢
  clear hgd
  go_wp2_with fail
  refine (once_any B c 2 w4 (HS.out.get 3 rfl) (by omega)).mono ?_
  rintro e w5 ⟨bb, rfl, C5, G5⟩
  replace HS : Hid (Sta w w5 _) := HS.out.cur 3 rfl C5 G5
  clear C5 G5
  have Z0 : Hid (StB w5 gd 30 #[.slice ao xs.length ac, .slice bo ys.length bc, .slice (some ⟨q, off, none⟩) n cap, .int .i64 h.kd, .int .i64 h.ho, .int .i64 h.tu]) := HS.out.get 0 rfl
  have qq0 : ∀ w', Sg gd w5 w' → w'.cell? ⟨gd, 0, none⟩ = some (.slice ao xs.length ac) := fun w' e => e _ _ (Z0.out.cell 0 rfl)
  have qq1 : ∀ w', Sg gd w5 w' → w'.cell? ⟨gd, 1, none⟩ = some (.slice bo ys.length bc) := fun w' e => e _ _ (Z0.out.cell 1 rfl)
  have qq2 : ∀ w', Sg gd w5 w' → w'.cell? ⟨gd, 2, none⟩ = some (.slice (some ⟨q, off, none⟩) n cap) := fun w' e => e _ _ (Z0.out.cell 2 rfl)
  have qq3 : ∀ w', Sg gd w5 w' → w'.cell? ⟨gd, 3, none⟩ = some (.int .i64 h.kd) := fun w' e => e _ _ (Z0.out.cell 3 rfl)
  have qq4 : ∀ w', Sg gd w5 w' → w'.cell? ⟨gd, 4, none⟩ = some (.int .i64 h.ho) := fun w' e => e _ _ (Z0.out.cell 4 rfl)
  have qq5 : ∀ w', Sg gd w5 w' → w'.cell? ⟨gd, 5, none⟩ = some (.int .i64 h.tu) := fun w' e => e _ _ (Z0.out.cell 5 rfl)
  have HD : Hid (Sta w w5.drew _) := HS.out.drew1
  have hz : w.heap.size + 1 ≠ w.heap.size := by omega
  cases bb with
  | true =>
    have CC : Hid (∀ wx, Reads wx (.slice ao xs.length ac) xs → Reads wx (.slice bo ys.length bc) ys → Reads wx (.slice (some ⟨q, off, none⟩) n cap) h.ks → Calls Try.prog 35 #[.agg #[.slice ao xs.length ac, .slice bo ys.length bc, .slice (some ⟨q, off, none⟩) n cap, .int .i64 h.kd, .int .i64 h.ho, .int .i64 h.tu]] wx fun e w' => ∃ a b k, e = .returned (.agg #[a, b, k, .int .i64 h.kd, .int .i64 h.ho, .int .i64 h.tu]) ∧ OwnR w' wx.heap.size a b k xs ys h.ks ∧ Below wx.heap.size wx w') := fun wx r1 r2 r3 => s12copy_any _ _ _ xs ys h wx r1 r2 r3 (by omega) (by omega) (by omega)
    go_upto_region 4 with fail
    go_region_held3 (fun w' => Sg gd w5 w') ((repeat' (first | with_reducible assumption | with_reducible exact Sg.refl _ _ | with_reducible refine Sg.dr ?_ | with_reducible refine Sg.set ?_ hn0 | with_reducible refine Sg.set ?_ hn1 | with_reducible refine Sg.put ?_ (by with_reducible assumption) hn1 | with_reducible refine Sg.put ?_ (by with_reducible assumption) hn0)))
      (first
        | (go_at_call 35; refine (CC.out _ (HD.out.readsU 2 rfl) (HD.out.readsV 2 rfl) (HD.out.get 1 rfl)).mono ?_; rintro e w6 ⟨a1, b1, k1, rfl, o6, b6⟩; obtain ⟨ao1, ac1, rfl⟩ := o6.1.1.reads.form; obtain ⟨bo1, bc1, rfl⟩ := o6.1.2.1.reads.form; obtain ⟨ko1, kc1, rfl⟩ := o6.2.1.reads.form; have H6 : Hid (Sta w w6 _) := HD.out.store o6 b6; have Y6 : Sg gd w5 w6 := Sg.of Z0.out (H6.out.get 1 rfl); have Z6 : Hid (StB w6 (w.heap.size + 1) 30 #[.slice none 0 0, .slice none 0 0, .slice none 0 0, .int .i64 0, .int .i64 0, .int .i64 0]) := H6.out.get 5 rfl; clear o6 b6; have r0 : w6.cell? ⟨w.heap.size, 0, none⟩ = some (.slice none 0 0) := Blk.cell (H6.out.get 6 rfl) 0 rfl; have f0 : w6.frozen? ⟨w.heap.size, 0, none⟩ = false := StB.frozen (H6.out.get 6 rfl) 0; have r1 : w6.cell? ⟨w.heap.size, 1, none⟩ = some (.slice none 0 0) := Blk.cell (H6.out.get 6 rfl) 1 rfl; have f1 : w6.frozen? ⟨w.heap.size, 1, none⟩ = false := StB.frozen (H6.out.get 6 rfl) 1; have r2 : w6.cell? ⟨w.heap.size, 2, none⟩ = some (.slice none 0 0) := Blk.cell (H6.out.get 6 rfl) 2 rfl; have f2 : w6.frozen? ⟨w.heap.size, 2, none⟩ = false := StB.frozen (H6.out.get 6 rfl) 2; have r3 : w6.cell? ⟨w.heap.size, 3, none⟩ = some (.int .i64 0) := Blk.cell (H6.out.get 6 rfl) 3 rfl; have f3 : w6.frozen? ⟨w.heap.size, 3, none⟩ = false := StB.frozen (H6.out.get 6 rfl) 3; have r4 : w6.cell? ⟨w.heap.size, 4, none⟩ = some (.int .i64 0) := Blk.cell (H6.out.get 6 rfl) 4 rfl; have f4 : w6.frozen? ⟨w.heap.size, 4, none⟩ = false := StB.frozen (H6.out.get 6 rfl) 4; have r5 : w6.cell? ⟨w.heap.size, 5, none⟩ = some (.int .i64 0) := Blk.cell (H6.out.get 6 rfl) 5 rfl; have f5 : w6.frozen? ⟨w.heap.size, 5, none⟩ = false := StB.frozen (H6.out.get 6 rfl) 5; have s0 : w6.cell? ⟨w.heap.size + 1, 0, none⟩ = some (.slice none 0 0) := Blk.cell (H6.out.get 5 rfl) 0 rfl; have e0 : w6.frozen? ⟨w.heap.size + 1, 0, none⟩ = false := StB.frozen (H6.out.get 5 rfl) 0; have s1 : w6.cell? ⟨w.heap.size + 1, 1, none⟩ = some (.slice none 0 0) := Blk.cell (H6.out.get 5 rfl) 1 rfl; have e1 : w6.frozen? ⟨w.heap.size + 1, 1, none⟩ = false := StB.frozen (H6.out.get 5 rfl) 1; have s2 : w6.cell? ⟨w.heap.size + 1, 2, none⟩ = some (.slice none 0 0) := Blk.cell (H6.out.get 5 rfl) 2 rfl; have e2 : w6.frozen? ⟨w.heap.size + 1, 2, none⟩ = false := StB.frozen (H6.out.get 5 rfl) 2; have s3 : w6.cell? ⟨w.heap.size + 1, 3, none⟩ = some (.int .i64 0) := Blk.cell (H6.out.get 5 rfl) 3 rfl; have e3 : w6.frozen? ⟨w.heap.size + 1, 3, none⟩ = false := StB.frozen (H6.out.get 5 rfl) 3; have s4 : w6.cell? ⟨w.heap.size + 1, 4, none⟩ = some (.int .i64 0) := Blk.cell (H6.out.get 5 rfl) 4 rfl; have e4 : w6.frozen? ⟨w.heap.size + 1, 4, none⟩ = false := StB.frozen (H6.out.get 5 rfl) 4; have s5 : w6.cell? ⟨w.heap.size + 1, 5, none⟩ = some (.int .i64 0) := Blk.cell (H6.out.get 5 rfl) 5 rfl; have e5 : w6.frozen? ⟨w.heap.size + 1, 5, none⟩ = false := StB.frozen (H6.out.get 5 rfl) 5))
    all_goals
      have q6 : StB w6 w.heap.size 30 #[.slice none 0 0, .slice none 0 0, .slice none 0 0, .int .i64 0, .int .i64 0, .int .i64 0] := H6.out.get 6 rfl
      have z6 : StB w6 (w.heap.size + 1) 30 #[.slice none 0 0, .slice none 0 0, .slice none 0 0, .int .i64 0, .int .i64 0, .int .i64 0] := H6.out.get 5 rfl
      have S6 := put6_st (.slice ao xs.length ac) (.slice bo ys.length bc) (.slice (some ⟨q, off, none⟩) n cap) h q6
      have G6 := put6_grown w6 w.heap.size (.slice ao xs.length ac) (.slice bo ys.length bc) (.slice (some ⟨q, off, none⟩) n cap) h
      have H7 := H6.out.turn 6 rfl (Turned.of_grown G6) (Blk w.heap.size 30 (srA (.slice ao xs.length ac) (.slice bo ys.length bc) (.slice (some ⟨q, off, none⟩) n cap) h)) rfl S6
      have S7 := put6_st (.slice ao1 xs.length ac1) (.slice bo1 ys.length bc1) (.slice ko1 h.ks.length kc1) h (z6.kept G6 (by simp))
      have G7 := put6_grown (put6 w6 w.heap.size (.slice ao xs.length ac) (.slice bo ys.length bc) (.slice (some ⟨q, off, none⟩) n cap) h) (w.heap.size + 1) (.slice ao1 xs.length ac1) (.slice bo1 ys.length bc1) (.slice ko1 h.ks.length kc1) h
      have H8 := H7.turn 5 rfl (Turned.of_grown G7) (Blk (w.heap.size + 1) 30 (srA (.slice ao1 xs.length ac1) (.slice bo1 ys.length bc1) (.slice ko1 h.ks.length kc1) h)) rfl S7
      have HZ : Hid (StB (put6 (put6 w6 w.heap.size (.slice ao xs.length ac) (.slice bo ys.length bc) (.slice (some ⟨q, off, none⟩) n cap) h) (w.heap.size + 1) (.slice ao1 xs.length ac1) (.slice bo1 ys.length bc1) (.slice ko1 h.ks.length kc1) h) w.heap.size 30 (srA (.slice ao xs.length ac) (.slice bo ys.length bc) (.slice (some ⟨q, off, none⟩) n cap) h) ∧ StB (put6 (put6 w6 w.heap.size (.slice ao xs.length ac) (.slice bo ys.length bc) (.slice (some ⟨q, off, none⟩) n cap) h) (w.heap.size + 1) (.slice ao1 xs.length ac1) (.slice bo1 ys.length bc1) (.slice ko1 h.ks.length kc1) h) (w.heap.size + 1) 30 (srA (.slice ao1 xs.length ac1) (.slice bo1 ys.length bc1) (.slice ko1 h.ks.length kc1) h) ∧ (Reads (put6 (put6 w6 w.heap.size (.slice ao xs.length ac) (.slice bo ys.length bc) (.slice (some ⟨q, off, none⟩) n cap) h) (w.heap.size + 1) (.slice ao1 xs.length ac1) (.slice bo1 ys.length bc1) (.slice ko1 h.ks.length kc1) h) (.slice ao xs.length ac) xs ∧ Reads (put6 (put6 w6 w.heap.size (.slice ao xs.length ac) (.slice bo ys.length bc) (.slice (some ⟨q, off, none⟩) n cap) h) (w.heap.size + 1) (.slice ao1 xs.length ac1) (.slice bo1 ys.length bc1) (.slice ko1 h.ks.length kc1) h) (.slice bo ys.length bc) ys ∧ Reads (put6 (put6 w6 w.heap.size (.slice ao xs.length ac) (.slice bo ys.length bc) (.slice (some ⟨q, off, none⟩) n cap) h) (w.heap.size + 1) (.slice ao1 xs.length ac1) (.slice bo1 ys.length bc1) (.slice ko1 h.ks.length kc1) h) (.slice (some ⟨q, off, none⟩) n cap) h.ks) ∧ (Reads (put6 (put6 w6 w.heap.size (.slice ao xs.length ac) (.slice bo ys.length bc) (.slice (some ⟨q, off, none⟩) n cap) h) (w.heap.size + 1) (.slice ao1 xs.length ac1) (.slice bo1 ys.length bc1) (.slice ko1 h.ks.length kc1) h) (.slice ao1 xs.length ac1) xs ∧ Reads (put6 (put6 w6 w.heap.size (.slice ao xs.length ac) (.slice bo ys.length bc) (.slice (some ⟨q, off, none⟩) n cap) h) (w.heap.size + 1) (.slice ao1 xs.length ac1) (.slice bo1 ys.length bc1) (.slice ko1 h.ks.length kc1) h) (.slice bo1 ys.length bc1) ys ∧ Reads (put6 (put6 w6 w.heap.size (.slice ao xs.length ac) (.slice bo ys.length bc) (.slice (some ⟨q, off, none⟩) n cap) h) (w.heap.size + 1) (.slice ao1 xs.length ac1) (.slice bo1 ys.length bc1) (.slice ko1 h.ks.length kc1) h) (.slice ko1 h.ks.length kc1) h.ks) ∧ Below w.heap.size w (put6 (put6 w6 w.heap.size (.slice ao xs.length ac) (.slice bo ys.length bc) (.slice (some ⟨q, off, none⟩) n cap) h) (w.heap.size + 1) (.slice ao1 xs.length ac1) (.slice bo1 ys.length bc1) (.slice ko1 h.ks.length kc1) h)) := ⟨S6.kept G7 (by simp), S7, ⟨H8.readsU 3 rfl, H8.readsV 3 rfl, H8.get 2 rfl⟩, ⟨H8.rA 0 rfl, H8.rB 0 rfl, H8.rK 0 rfl⟩, H8.below⟩
      obtain ⟨wz, hwz⟩ : ∃ wz, wz = (put6 (put6 w6 w.heap.size (.slice ao xs.length ac) (.slice bo ys.length bc) (.slice (some ⟨q, off, none⟩) n cap) h) (w.heap.size + 1) (.slice ao1 xs.length ac1) (.slice bo1 ys.length bc1) (.slice ko1 h.ks.length kc1) h) := ⟨_, rfl⟩
      rw [← hwz] at HZ
      unfold put6 at hwz
      rw [← hwz]
      clear hwz q6 z6 S6 G6 H7 S7 G7 H8
      go_wp2
      refine bodyPost_ret (results_SS rfl _ _ w.heap.size (w.heap.size + 1) (srA (.slice ao xs.length ac) (.slice bo ys.length bc) (.slice (some ⟨q, off, none⟩) n cap) h) (srA (.slice ao1 xs.length ac1) (.slice bo1 ys.length bc1) (.slice ko1 h.ks.length kc1) h) rfl rfl rfl rfl HZ.out.1 HZ.out.2.1) rfl ?_
      exact ⟨_, _, _, xs, ys, h, _, _, _, xs, ys, h, rfl, ⟨hx, hy, hk⟩, ⟨hx, hy, hk⟩, HZ.out.2.2⟩
  | false =>
    have HF := HD.out.front 3 rfl
    have HG : Hid (Sta w w5.drew _) := HF
    go_upto_region 5 with fail
    go_region_held3 (fun w' => Sg gd w5 w') ((repeat' (first | with_reducible assumption | with_reducible exact Sg.refl _ _ | with_reducible refine Sg.dr ?_ | with_reducible refine Sg.set ?_ hn0 | with_reducible refine Sg.set ?_ hn1 | with_reducible refine Sg.put ?_ (by with_reducible assumption) hn1 | with_reducible refine Sg.put ?_ (by with_reducible assumption) hn0)))
      (first
        | (go_at_call 30; refine (l12Draw_any HG.out).mono ?_; rintro e w6 ⟨a1, b1, q1, off1, n1, cap1, xt, yt, j, rfl, hx1, hy1, hk1, S6'⟩; have H6 : Hid (Sta w w6 _) := S6'; obtain ⟨ao1, ac1, rfl⟩ := (H6.out.readsU 1 rfl).form; obtain ⟨bo1, bc1, rfl⟩ := (H6.out.readsV 1 rfl).form; have Y6 : Sg gd w5 w6 := Sg.of Z0.out (H6.out.get 3 rfl); have Z6 : Hid (StB w6 (w.heap.size + 1) 30 #[.slice none 0 0, .slice none 0 0, .slice none 0 0, .int .i64 0, .int .i64 0, .int .i64 0]) := H6.out.get 6 rfl; unfold SRV srA; clear S6'; have r0 : w6.cell? ⟨w.heap.size, 0, none⟩ = some (.slice none 0 0) := Blk.cell (H6.out.get 7 rfl) 0 rfl; have f0 : w6.frozen? ⟨w.heap.size, 0, none⟩ = false := StB.frozen (H6.out.get 7 rfl) 0; have r1 : w6.cell? ⟨w.heap.size, 1, none⟩ = some (.slice none 0 0) := Blk.cell (H6.out.get 7 rfl) 1 rfl; have f1 : w6.frozen? ⟨w.heap.size, 1, none⟩ = false := StB.frozen (H6.out.get 7 rfl) 1; have r2 : w6.cell? ⟨w.heap.size, 2, none⟩ = some (.slice none 0 0) := Blk.cell (H6.out.get 7 rfl) 2 rfl; have f2 : w6.frozen? ⟨w.heap.size, 2, none⟩ = false := StB.frozen (H6.out.get 7 rfl) 2; have r3 : w6.cell? ⟨w.heap.size, 3, none⟩ = some (.int .i64 0) := Blk.cell (H6.out.get 7 rfl) 3 rfl; have f3 : w6.frozen? ⟨w.heap.size, 3, none⟩ = false := StB.frozen (H6.out.get 7 rfl) 3; have r4 : w6.cell? ⟨w.heap.size, 4, none⟩ = some (.int .i64 0) := Blk.cell (H6.out.get 7 rfl) 4 rfl; have f4 : w6.frozen? ⟨w.heap.size, 4, none⟩ = false := StB.frozen (H6.out.get 7 rfl) 4; have r5 : w6.cell? ⟨w.heap.size, 5, none⟩ = some (.int .i64 0) := Blk.cell (H6.out.get 7 rfl) 5 rfl; have f5 : w6.frozen? ⟨w.heap.size, 5, none⟩ = false := StB.frozen (H6.out.get 7 rfl) 5; have s0 : w6.cell? ⟨w.heap.size + 1, 0, none⟩ = some (.slice none 0 0) := Blk.cell (H6.out.get 6 rfl) 0 rfl; have e0 : w6.frozen? ⟨w.heap.size + 1, 0, none⟩ = false := StB.frozen (H6.out.get 6 rfl) 0; have s1 : w6.cell? ⟨w.heap.size + 1, 1, none⟩ = some (.slice none 0 0) := Blk.cell (H6.out.get 6 rfl) 1 rfl; have e1 : w6.frozen? ⟨w.heap.size + 1, 1, none⟩ = false := StB.frozen (H6.out.get 6 rfl) 1; have s2 : w6.cell? ⟨w.heap.size + 1, 2, none⟩ = some (.slice none 0 0) := Blk.cell (H6.out.get 6 rfl) 2 rfl; have e2 : w6.frozen? ⟨w.heap.size + 1, 2, none⟩ = false := StB.frozen (H6.out.get 6 rfl) 2; have s3 : w6.cell? ⟨w.heap.size + 1, 3, none⟩ = some (.int .i64 0) := Blk.cell (H6.out.get 6 rfl) 3 rfl; have e3 : w6.frozen? ⟨w.heap.size + 1, 3, none⟩ = false := StB.frozen (H6.out.get 6 rfl) 3; have s4 : w6.cell? ⟨w.heap.size + 1, 4, none⟩ = some (.int .i64 0) := Blk.cell (H6.out.get 6 rfl) 4 rfl; have e4 : w6.frozen? ⟨w.heap.size + 1, 4, none⟩ = false := StB.frozen (H6.out.get 6 rfl) 4; have s5 : w6.cell? ⟨w.heap.size + 1, 5, none⟩ = some (.int .i64 0) := Blk.cell (H6.out.get 6 rfl) 5 rfl; have e5 : w6.frozen? ⟨w.heap.size + 1, 5, none⟩ = false := StB.frozen (H6.out.get 6 rfl) 5))
    all_goals
      have q6 : StB w6 w.heap.size 30 #[.slice none 0 0, .slice none 0 0, .slice none 0 0, .int .i64 0, .int .i64 0, .int .i64 0] := H6.out.get 7 rfl
      have z6 : StB w6 (w.heap.size + 1) 30 #[.slice none 0 0, .slice none 0 0, .slice none 0 0, .int .i64 0, .int .i64 0, .int .i64 0] := H6.out.get 6 rfl
      have S6 := put6_st (.slice ao xs.length ac) (.slice bo ys.length bc) (.slice (some ⟨q, off, none⟩) n cap) h q6
      have G6 := put6_grown w6 w.heap.size (.slice ao xs.length ac) (.slice bo ys.length bc) (.slice (some ⟨q, off, none⟩) n cap) h
      have H7 := H6.out.turn 7 rfl (Turned.of_grown G6) (Blk w.heap.size 30 (srA (.slice ao xs.length ac) (.slice bo ys.length bc) (.slice (some ⟨q, off, none⟩) n cap) h)) rfl S6
      have S7 := put6_st (.slice ao1 xt.length ac1) (.slice bo1 yt.length bc1) (.slice (some ⟨q1, off1, none⟩) n1 cap1) j (z6.kept G6 (by simp))
      have G7 := put6_grown (put6 w6 w.heap.size (.slice ao xs.length ac) (.slice bo ys.length bc) (.slice (some ⟨q, off, none⟩) n cap) h) (w.heap.size + 1) (.slice ao1 xt.length ac1) (.slice bo1 yt.length bc1) (.slice (some ⟨q1, off1, none⟩) n1 cap1) j
      have H8 := H7.turn 6 rfl (Turned.of_grown G7) (Blk (w.heap.size + 1) 30 (srA (.slice ao1 xt.length ac1) (.slice bo1 yt.length bc1) (.slice (some ⟨q1, off1, none⟩) n1 cap1) j)) rfl S7
      have HZ : Hid (StB (put6 (put6 w6 w.heap.size (.slice ao xs.length ac) (.slice bo ys.length bc) (.slice (some ⟨q, off, none⟩) n cap) h) (w.heap.size + 1) (.slice ao1 xt.length ac1) (.slice bo1 yt.length bc1) (.slice (some ⟨q1, off1, none⟩) n1 cap1) j) w.heap.size 30 (srA (.slice ao xs.length ac) (.slice bo ys.length bc) (.slice (some ⟨q, off, none⟩) n cap) h) ∧ StB (put6 (put6 w6 w.heap.size (.slice ao xs.length ac) (.slice bo ys.length bc) (.slice (some ⟨q, off, none⟩) n cap) h) (w.heap.size + 1) (.slice ao1 xt.length ac1) (.slice bo1 yt.length bc1) (.slice (some ⟨q1, off1, none⟩) n1 cap1) j) (w.heap.size + 1) 30 (srA (.slice ao1 xt.length ac1) (.slice bo1 yt.length bc1) (.slice (some ⟨q1, off1, none⟩) n1 cap1) j) ∧ (Reads (put6 (put6 w6 w.heap.size (.slice ao xs.length ac) (.slice bo ys.length bc) (.slice (some ⟨q, off, none⟩) n cap) h) (w.heap.size + 1) (.slice ao1 xt.length ac1) (.slice bo1 yt.length bc1) (.slice (some ⟨q1, off1, none⟩) n1 cap1) j) (.slice ao xs.length ac) xs ∧ Reads (put6 (put6 w6 w.heap.size (.slice ao xs.length ac) (.slice bo ys.length bc) (.slice (some ⟨q, off, none⟩) n cap) h) (w.heap.size + 1) (.slice ao1 xt.length ac1) (.slice bo1 yt.length bc1) (.slice (some ⟨q1, off1, none⟩) n1 cap1) j) (.slice bo ys.length bc) ys ∧ Reads (put6 (put6 w6 w.heap.size (.slice ao xs.length ac) (.slice bo ys.length bc) (.slice (some ⟨q, off, none⟩) n cap) h) (w.heap.size + 1) (.slice ao1 xt.length ac1) (.slice bo1 yt.length bc1) (.slice (some ⟨q1, off1, none⟩) n1 cap1) j) (.slice (some ⟨q, off, none⟩) n cap) h.ks) ∧ (Reads (put6 (put6 w6 w.heap.size (.slice ao xs.length ac) (.slice bo ys.length bc) (.slice (some ⟨q, off, none⟩) n cap) h) (w.heap.size + 1) (.slice ao1 xt.length ac1) (.slice bo1 yt.length bc1) (.slice (some ⟨q1, off1, none⟩) n1 cap1) j) (.slice ao1 xt.length ac1) xt ∧ Reads (put6 (put6 w6 w.heap.size (.slice ao xs.length ac) (.slice bo ys.length bc) (.slice (some ⟨q, off, none⟩) n cap) h) (w.heap.size + 1) (.slice ao1 xt.length ac1) (.slice bo1 yt.length bc1) (.slice (some ⟨q1, off1, none⟩) n1 cap1) j) (.slice bo1 yt.length bc1) yt ∧ Reads (put6 (put6 w6 w.heap.size (.slice ao xs.length ac) (.slice bo ys.length bc) (.slice (some ⟨q, off, none⟩) n cap) h) (w.heap.size + 1) (.slice ao1 xt.length ac1) (.slice bo1 yt.length bc1) (.slice (some ⟨q1, off1, none⟩) n1 cap1) j) (.slice (some ⟨q1, off1, none⟩) n1 cap1) j.ks) ∧ Below w.heap.size w (put6 (put6 w6 w.heap.size (.slice ao xs.length ac) (.slice bo ys.length bc) (.slice (some ⟨q, off, none⟩) n cap) h) (w.heap.size + 1) (.slice ao1 xt.length ac1) (.slice bo1 yt.length bc1) (.slice (some ⟨q1, off1, none⟩) n1 cap1) j)) := ⟨S6.kept G7 (by simp), S7, ⟨H8.readsU 5 rfl, H8.readsV 5 rfl, H8.get 4 rfl⟩, ⟨H8.readsU 1 rfl, H8.readsV 1 rfl, H8.get 0 rfl⟩, H8.below⟩
      obtain ⟨wz, hwz⟩ : ∃ wz, wz = (put6 (put6 w6 w.heap.size (.slice ao xs.length ac) (.slice bo ys.length bc) (.slice (some ⟨q, off, none⟩) n cap) h) (w.heap.size + 1) (.slice ao1 xt.length ac1) (.slice bo1 yt.length bc1) (.slice (some ⟨q1, off1, none⟩) n1 cap1) j) := ⟨_, rfl⟩
      rw [← hwz] at HZ
      unfold put6 at hwz
      rw [← hwz]
      clear hwz q6 z6 S6 G6 H7 S7 G7 H8
      go_wp2
      refine bodyPost_ret (results_SS rfl _ _ w.heap.size (w.heap.size + 1) (srA (.slice ao xs.length ac) (.slice bo ys.length bc) (.slice (some ⟨q, off, none⟩) n cap) h) (srA (.slice ao1 xt.length ac1) (.slice bo1 yt.length bc1) (.slice (some ⟨q1, off1, none⟩) n1 cap1) j) rfl rfl rfl rfl HZ.out.1 HZ.out.2.1) rfl ?_
      exact ⟨_, _, _, xs, ys, h, _, _, _, xt, yt, j, rfl, ⟨hx, hy, hk⟩, ⟨hx1, hy1, hk1⟩, HZ.out.2.2⟩
end Go.Proofs.Ytpdggofaobmnlaa
