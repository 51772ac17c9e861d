/- Preempted, by the program. -/
import Derived.Test.YtppkncmlloelbaaIWish4
namespace Go.Proofs.Ytppkncmlloelbaa
open Go.ChangeShapes Go.WideShapes Go.ChangeAt Go.RowKit

def strF (f : Nat → Int) (i : Nat) (k : Int) (j : Nat) : Nat → Int := fun m => if m < j ∧ f m = k ∧ m ≠ i then 0 else f m
theorem strF_zero (f : Nat → Int) (i : Nat) (k : Int) : strF f i k 0 = f := by funext m; simp [strF]
theorem strF_yes (f : Nat → Int) (i : Nat) (k : Int) (j : Nat) (h : f j = k) (hn : j ≠ i) : updF (strF f i k j) j 0 = strF f i k (j + 1) := by
  funext m
  unfold updF strF
  by_cases e : m = j
  · subst e; simp [h, hn]
  · have : m < j + 1 ↔ m < j := by omega
    simp [e, this]
theorem strF_no (f : Nat → Int) (i : Nat) (k : Int) (j : Nat) (h : ¬ (f j = k ∧ j ≠ i)) : strF f i k j = strF f i k (j + 1) := by
  funext m
  unfold strF
  by_cases e : m = j
  · subst e
    rw [if_neg (by intro c; exact h c.2), if_neg (by intro c; exact h c.2)]
  · have : m < j + 1 ↔ m < j := by omega
    simp [this]
theorem idxK (f : Nat → Int) (j : Nat) (hj : j < 4) (w : World) : (Instr.index 66 (.agg (kA f)) (.int .i64 (j : Int))).run Try.prog w = .ok (.int .i64 (f j)) w := by
  obtain ⟨i0, hi, hz0, hz1, hz2⟩ := info_parts Try.infoI
  have h1 : (0 : Int) ≤ (j : Int) ∧ (j : Int) < ((4 : Nat) : Int) := by omega
  have h2 : ((j : Int)).toNat * 1 = j := by omega
  have hcells : Try.prog.cellsOf 2 = 1 := by kernel_rfl
  have hplain : Try.prog.plainKey 2 = true := by kernel_rfl
  simp only [Instr.index, asIntOf, run_underlying Try.underK, Sem.run_bind, Sem.run_pure, Result.andThen_ok, h1, and_self, if_true, run_sizeOf w hi, hcells, h2]
  exact run_part_plain w hplain (kA_at f j hj)

def fallsI (f : Nat → Int) (kd ho i k : Int) : Bool := (keyF f ho == k) || (allI kd && !anyF (updF (strF f i.toNat k 4) i.toNat 0))
set_option maxRecDepth 20000 in
set_option maxHeartbeats 4000000 in
theorem ipreempted_any (f : Nat → Int) (kd ho tu i k d : Int) (w : World) (t0 : 0 ≤ tu) (t1 : tu ≤ 1000000000) (i0 : 0 ≤ i) (i1 : i < 4) :
    Calls Try.prog 96 #[.agg (heA f kd ho tu), .agg (wiA i k d)] w fun e w' => e = .returned (.agg (heA (strF f i.toNat k 4) (if fallsI f kd ho i k then d else kd) (if fallsI f kd ho i k then (if allI d then -1 else i) else ho) (turnI tu))) ∧ Below w.heap.size w w' := by
  obtain ⟨n, hn, hn4⟩ : ∃ n : Nat, i = (n : Int) ∧ n < 4 := ⟨i.toNat, by omega, by omega⟩
  subst hn
  rw [Int.toNat_natCast]
  obtain ⟨w1, hw1⟩ : ∃ w1, w1 = ((w.alloc (.cells (heA f kd ho tu) 68)).alloc (.cells (wiA n k d) 55)).alloc (.cells he0A 68) := ⟨_, rfl⟩
  have HS : Hid (HW w w1 f kd ho tu n k d) := by rw [hw1]; exact HW.start _ _ _ _ _ _ _ _
  have HD : Hid (HW w w1.drew f kd ho tu n k d) := HS.out.drew
  have c1 := fun wx => ikeyof_any f ho wx
  have HE : Hid (fallsI f kd ho n k = ((keyF f ho == k) || (allI kd && !anyF (updF (strF f n k 4) n 0)))) := rfl
  obtain ⟨y, hy⟩ : ∃ y, y = keyF f ho := ⟨_, rfl⟩
  obtain ⟨r, hr⟩ : ∃ r, r = fallsI f kd ho n k := ⟨_, rfl⟩
  obtain ⟨A, hA⟩ : ∃ A, A = heA (strF f n k 4) (if fallsI f kd ho n k then d else kd) (if fallsI f kd ho n k then (if allI d then -1 else (n : Int)) else ho) (turnI tu) := ⟨_, rfl⟩
  rw [← hA]
  have HA : Hid (A = heA (strF f n k 4) (if r then d else kd) (if r then (if allI d then -1 else (n : Int)) else ho) (turnI tu)) := by rw [Hid, hr]; exact hA
  clear hA
  rw [← hr, ← hy] at HE
  simp only [← hy] at c1
  clear hy hr
  obtain ⟨p, hp⟩ : ∃ p, p = fun x => HW w x f kd ho tu n k d := ⟨_, rfl⟩
  have HP : Hid (∀ x, p x → HW w x f kd ho tu n k d) := by rw [hp]; exact fun _ h => h
  have HN : Hid (∀ x w', p x → Below x.heap.size x w' → p w') := by rw [hp]; exact fun _ _ h b => h.next b
  have H0 : Hid (p w1.drew) := by rw [hp]; exact HD.out
  have hne : Nonempty (Kin p) := ⟨⟨_, H0.out⟩⟩
  have m0 : ∀ q : Kin p, q.x.cell? ⟨w.heap.size, 0, none⟩ = some (.int .i64 (f 0)) := fun q => (HP.out _ q.h).1.cell 0 rfl
  have m1 : ∀ q : Kin p, q.x.cell? ⟨w.heap.size, 1, none⟩ = some (.int .i64 (f 1)) := fun q => (HP.out _ q.h).1.cell 1 rfl
  have m2 : ∀ q : Kin p, q.x.cell? ⟨w.heap.size, 2, none⟩ = some (.int .i64 (f 2)) := fun q => (HP.out _ q.h).1.cell 2 rfl
  have m3 : ∀ q : Kin p, q.x.cell? ⟨w.heap.size, 3, none⟩ = some (.int .i64 (f 3)) := fun q => (HP.out _ q.h).1.cell 3 rfl
  have m5 : ∀ q : Kin p, q.x.cell? ⟨w.heap.size, 5, none⟩ = some (.int .i64 ho) := fun q => (HP.out _ q.h).1.cell 5 rfl
  have p1 : ∀ q : Kin p, q.x.cell? ⟨w.heap.size + 1, 1, none⟩ = some (.int .i64 k) := fun q => (HP.out _ q.h).2.1.cell 1 rfl
  unfold kA at c1
  rw [heA, wiA, he0A, heA] at hw1
  conv in heA f kd ho tu => unfold heA
  rw [wiA]
  go_enter Try.func96, Try.ntmps96
  go_upto_region 1 with fail
  rw [← hw1]
  clear hw1 HS HD hp
  refine wp_region_kin p (by kernel_rfl) (by kernel_rfl) H0.out ?_
  repeat (quiet_step (first | (go_at_call 105; exact Kin.call (c1 _) HN.out)))
  refine wpQuiet_nil ?_
  intro w2 hw'
  have H2 : p w2 := by { obtain ⟨q, rfl⟩ := hw'; exact q.h }
  clear hw'
  have HS : Hid (HW w w2 f kd ho tu n k d) := HP.out _ H2
  clear H2 HP HN H0 hne m0 m1 m2 m3 m5 p1 c1
  obtain ⟨m0, m1, m2, m3, -, -, -⟩ := heA_cells HS.out.1
  have hix := fun j hj wx => idxK f j hj wx
  unfold kA at hix
  have HX : Hid _ := hix
  clear hix
  go_wp2_with fail
  clear m0 m1 m2 m3
  go_loopw [18] (fun v wr => ∃ j : Nat, j ≤ 4 ∧ v = .int .i64 j ∧ Hid (HW w wr (strF f n k j) kd ho tu n k d)) (fun v _ => 4 - (intOf v).toNat)
  case atStart => exact ⟨0, by omega, rfl, by rw [strF_zero]; exact HS⟩
  case round =>
    obtain ⟨j, hj, rfl, HR⟩ := hrel
    clear HS
    by_cases hlt : (j : Int) < 4
    · have ix := HX.out j (by omega) wr
      obtain ⟨z, hz⟩ : ∃ z, z = f j := ⟨_, rfl⟩
      rw [← hz] at ix
      have p0 : wr.cell? ⟨w.heap.size + 1, 0, none⟩ = some (.int .i64 n) := HR.out.2.1.cell 0 rfl
      have p1 : wr.cell? ⟨w.heap.size + 1, 1, none⟩ = some (.int .i64 k) := HR.out.2.1.cell 1 rfl
      by_cases ek : z = k
      · have ekb : (z == k) = true := by simpa using ek
        by_cases en : (j : Int) = n
        · have enb : ((j : Int) != (n : Int)) = false := by simpa using en
          have HR2 : Hid (HW w wr (strF f n k (j + 1)) kd ho tu n k d) := by rw [Hid, ← strF_no f n k j (by omega)]; exact HR.out
          clear hz ek en HR
          go_wp2
          go_roundw
          case rel => exact ⟨j + 1, by omega, by go_num, HR2⟩
          case measure => simp [intOf]; omega
        · have enb : ((j : Int) != (n : Int)) = true := by simpa using en
          have hcj := heA_at HR.out.1 j (by omega)
          have hfj := HR.out.1.frozen j
          have HR2 : Hid (HW w (wr.setCell ⟨w.heap.size, j, none⟩ (.int .i64 0)) (strF f n k (j + 1)) kd ho tu n k d) := by
            rw [Hid, ← strF_yes f n k j (by rw [← hz, ek]) (by omega)]
            exact HR.out.put j 0 (heA_set _ kd ho tu 0 j (by omega))
          clear hz ek en HR
          go_wp2
          go_roundw
          case rel => exact ⟨j + 1, by omega, by go_num, HR2⟩
          case measure => simp [intOf]; omega
      · have ekb : (z == k) = false := by simpa using ek
        have HR2 : Hid (HW w wr (strF f n k (j + 1)) kd ho tu n k d) := by rw [Hid, ← strF_no f n k j (by rw [← hz]; omega)]; exact HR.out
        clear hz ek HR p0
        go_wp2
        go_roundw
        case rel => exact ⟨j + 1, by omega, by go_num, HR2⟩
        case measure => simp [intOf]; omega
    · have e4 : j = 4 := by omega
      subst e4
      obtain ⟨g, hg⟩ : ∃ g, g = strF f n k 4 := ⟨_, rfl⟩
      have c2 := fun wx => iall_any kd wx
      have c3 := fun wx => ibeside_any g n wx i0 i1
      have c4 := fun wx => iheldby_any g kd ho tu n k d wx
      obtain ⟨h2, hh2⟩ : ∃ h2, h2 = if allI d then -1 else (n : Int) := ⟨_, rfl⟩
      have c5 := fun wx => iturned_any g d h2 tu wx t0 t1
      have c6 := fun wx => iturned_any g kd ho tu wx t0 t1
      rw [Int.toNat_natCast] at c3
      simp only [← hh2] at c4
      rw [← hg] at HE HR
      have HG : Hid (g = strF f n k 4) := hg
      have HH2 : Hid (h2 = if allI d then -1 else (n : Int)) := hh2
      obtain ⟨a1, ha1⟩ : ∃ a1, a1 = allI kd := ⟨_, rfl⟩
      obtain ⟨a2, ha2⟩ : ∃ a2, a2 = anyF (updF g n 0) := ⟨_, rfl⟩
      obtain ⟨b0, hb0⟩ : ∃ b0, b0 = (y == k) := ⟨_, rfl⟩
      rw [← ha1, ← ha2, ← hb0] at HE
      simp only [← ha1] at c2
      simp only [← ha2] at c3
      clear ha1 ha2 hg hh2 t0 t1 i0 i1 HX
      unfold kA at c3
      cases b0 with
      | true =>
        have hb : (y == k) = true := hb0.symm
        clear hb0 c2 c3
        clear c6
        go_upto_region 9 with fail
        go_upto_region 10 with (first | (refine wpList_getS Try.isHeld rfl _ rfl w.heap.size rfl (heA g kd ho tu) rfl HR.out.1 ?_) | (refine wpList_getS Try.isWish rfl _ rfl (w.heap.size + 1) rfl (wiA n k d) rfl HR.out.2.1 ?_) | (go_at_call 89; refine (c4 _).mono ?_; rintro e w6 ⟨rfl, b6⟩; have H6 : Hid (HW w w6 g kd ho tu n k d) := HR.out.next b6; clear b6) | (refine wpList_putS Try.isHeld rfl _ _ rfl w.heap.size (heA g d h2 tu) (heA g kd ho tu) rfl rfl rfl rfl (heA_one _ _ _ _) H6.out.1 ?_; intro w7 h7 g7; have H7 : Hid (HW w w7 g d h2 tu n k d) := H6.out.set h7 g7; clear h7 g7))
        clear c4
        go_wp2_with (first | (refine wpList_getS Try.isHeld rfl _ rfl w.heap.size rfl (heA g d h2 tu) rfl H7.out.1 ?_) | (go_at_call 103; refine (c5 _).mono ?_; rintro e w8 ⟨rfl, b8⟩; have H8 : Hid (HW w w8 g d h2 tu n k d) := H7.out.next b8; clear b8) | (refine wpList_putS Try.isHeld rfl _ _ rfl (w.heap.size + 2) (heA g d h2 (turnI tu)) he0A rfl rfl rfl rfl (heA_one _ _ _ _) H8.out.2.2.1 ?_; intro w9 h9 g9))
        refine bodyPost_ret (results_S Try.isHeld rfl _ _ (w.heap.size + 2) _ rfl rfl h9) rfl ?_
        exact ⟨by rw [HA.out, HE.out, ← HG.out, ← HH2.out]; rfl, H8.out.2.2.2.grown g9 H8.out.2.2.2.size (fun k e => by cases e; omega)⟩
      | false =>
        have hb : (y == k) = false := hb0.symm
        clear hb0
        have q4 : wr.cell? ⟨w.heap.size, 4, none⟩ = some (.int .i64 kd) := HR.out.1.cell 4 rfl
        go_wp2_with fail
        refine (c2 _).mono ?_
        rintro e w3 ⟨rfl, b3⟩
        have H3 : Hid (HW w w3 g kd ho tu n k d) := HR.out.next b3
        clear b3 HR q4 c2
        cases a1 with
        | false =>
          clear c3
          clear c4 c5
          go_upto_region 10 with fail
          go_wp2_with (first | (refine wpList_getS Try.isHeld rfl _ rfl w.heap.size rfl (heA g kd ho tu) rfl H3.out.1 ?_) | (go_at_call 103; refine (c6 _).mono ?_; rintro e w8 ⟨rfl, b8⟩; have H8 : Hid (HW w w8 g kd ho tu n k d) := H3.out.next b8; clear b8) | (refine wpList_putS Try.isHeld rfl _ _ rfl (w.heap.size + 2) (heA g kd ho (turnI tu)) he0A rfl rfl rfl rfl (heA_one _ _ _ _) H8.out.2.2.1 ?_; intro w9 h9 g9))
          refine bodyPost_ret (results_S Try.isHeld rfl _ _ (w.heap.size + 2) _ rfl rfl h9) rfl ?_
          exact ⟨by rw [HA.out, HE.out, ← HG.out, ← HH2.out]; rfl, H8.out.2.2.2.grown g9 H8.out.2.2.2.size (fun k e => by cases e; omega)⟩
        | true =>
          obtain ⟨m0, m1, m2, m3, -, -, -⟩ := heA_cells H3.out.1
          have p0 : w3.cell? ⟨w.heap.size + 1, 0, none⟩ = some (.int .i64 n) := H3.out.2.1.cell 0 rfl
          go_wp2_with fail
          refine (c3 _).mono ?_
          rintro e w4 ⟨rfl, b4⟩
          have H4 : Hid (HW w w4 g kd ho tu n k d) := H3.out.next b4
          clear b4 H3 c3 m0 m1 m2 m3 p0
          cases a2 with
          | true =>
            clear c4 c5
            go_upto_region 10 with fail
            go_wp2_with (first | (refine wpList_getS Try.isHeld rfl _ rfl w.heap.size rfl (heA g kd ho tu) rfl H4.out.1 ?_) | (go_at_call 103; refine (c6 _).mono ?_; rintro e w8 ⟨rfl, b8⟩; have H8 : Hid (HW w w8 g kd ho tu n k d) := H4.out.next b8; clear b8) | (refine wpList_putS Try.isHeld rfl _ _ rfl (w.heap.size + 2) (heA g kd ho (turnI tu)) he0A rfl rfl rfl rfl (heA_one _ _ _ _) H8.out.2.2.1 ?_; intro w9 h9 g9))
            refine bodyPost_ret (results_S Try.isHeld rfl _ _ (w.heap.size + 2) _ rfl rfl h9) rfl ?_
            exact ⟨by rw [HA.out, HE.out, ← HG.out, ← HH2.out]; rfl, H8.out.2.2.2.grown g9 H8.out.2.2.2.size (fun k e => by cases e; omega)⟩
          | false =>
            clear c6
            go_upto_region 9 with fail
            go_upto_region 10 with (first | (refine wpList_getS Try.isHeld rfl _ rfl w.heap.size rfl (heA g kd ho tu) rfl H4.out.1 ?_) | (refine wpList_getS Try.isWish rfl _ rfl (w.heap.size + 1) rfl (wiA n k d) rfl H4.out.2.1 ?_) | (go_at_call 89; refine (c4 _).mono ?_; rintro e w6 ⟨rfl, b6⟩; have H6 : Hid (HW w w6 g kd ho tu n k d) := H4.out.next b6; clear b6) | (refine wpList_putS Try.isHeld rfl _ _ rfl w.heap.size (heA g d h2 tu) (heA g kd ho tu) rfl rfl rfl rfl (heA_one _ _ _ _) H6.out.1 ?_; intro w7 h7 g7; have H7 : Hid (HW w w7 g d h2 tu n k d) := H6.out.set h7 g7; clear h7 g7))
            clear c4
            go_wp2_with (first | (refine wpList_getS Try.isHeld rfl _ rfl w.heap.size rfl (heA g d h2 tu) rfl H7.out.1 ?_) | (go_at_call 103; refine (c5 _).mono ?_; rintro e w8 ⟨rfl, b8⟩; have H8 : Hid (HW w w8 g d h2 tu n k d) := H7.out.next b8; clear b8) | (refine wpList_putS Try.isHeld rfl _ _ rfl (w.heap.size + 2) (heA g d h2 (turnI tu)) he0A rfl rfl rfl rfl (heA_one _ _ _ _) H8.out.2.2.1 ?_; intro w9 h9 g9))
            refine bodyPost_ret (results_S Try.isHeld rfl _ _ (w.heap.size + 2) _ rfl rfl h9) rfl ?_
            exact ⟨by rw [HA.out, HE.out, ← HG.out, ← HH2.out]; rfl, H8.out.2.2.2.grown g9 H8.out.2.2.2.size (fun k e => by cases e; omega)⟩
end Go.Proofs.Ytppkncmlloelbaa
