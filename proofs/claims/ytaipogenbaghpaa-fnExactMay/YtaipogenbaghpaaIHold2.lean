/- Holdings by the program, on: Holds, May, a new holding. -/
import Derived.Test.YtaipogenbaghpaaIHold
namespace Go.Proofs.Ytaipogenbaghpaa
open Go.ChangeShapes Go.WideShapes Go.ChangeAt Go.RowKit

theorem holdsF_ok {h : Hd} (hk : h.ok = true) (i : Int) : holdsF (KF h.ks) h.kd h.ho i = (inI i 0 3 && h.holds i) := by
  have hm : h.mid = true := by
    unfold Hd.ok at hk
    simp only [Bool.and_eq_true] at hk
    exact hk.2
  unfold holdsF Hd.holds
  rw [show decide (KF h.ks i.toNat ≠ 0) = regI h.ks i from rfl]
  unfold Hd.mid at hm
  cases hin : inI i 0 3
  · simp
  · have hi : 0 ≤ i ∧ i ≤ 3 := by simpa [inI] using hin
    simp only [Bool.true_and]
    by_cases h0 : h.kd = 0
    · rw [if_pos h0] at hm
      have ho : h.ho = -1 := by simpa using hm
      rw [h0, ho]
      simp [show allI 0 = false from rfl]
      intro _; omega
    · rw [if_neg h0] at hm
      cases ha : allI h.kd
      · rw [ha] at hm
        simp only [Bool.false_eq_true, if_false, Bool.and_eq_true] at hm
        by_cases he : i = h.ho
        · subst he
          simp [h0, hm.2]
        · simp [he, Ne.symm he]
      · rw [ha] at hm
        simp only [if_true, Bool.and_eq_true, decide_eq_true_eq] at hm
        have : h.ho ≠ i := by omega
        simp [h0, this]

set_option maxRecDepth 20000 in
set_option maxHeartbeats 1000000 in
theorem iHol_any (v : Value) (h : Hd) (i : Int) (w : World) (hr : Reads w v h.ks) (hl : h.ks.length ≤ 1099511627776) :
    Calls Try.prog 15 #[HV v h, .int .i64 i] w fun e w' => e = .returned (.bool (h.Hol i)) ∧ Below w.heap.size w w' := by
  have b1 : Below w.heap.size w (w.alloc (.cells (hdA v h) 26)) := (Below.refl _ _).alloc (Nat.le_refl _) _
  have c1 := iheldof_any v h _ (hr.below b1 (Nat.le_refl _)) hl
  obtain ⟨ao, cap, rfl⟩ := reads_form hr
  obtain ⟨f, x, y, z, hf, hfo⟩ := heldV_form h
  have c2 := fun wx => iheldholds_any f x y z i wx
  have HE : Hid (h.Hol i = (h.ok && holdsF f x y i)) := by
    unfold Hd.Hol
    rw [Hid]
    cases hk : h.ok
    · simp
    · rw [(hfo hk).1, (hfo hk).2.1, (hfo hk).2.2.1, holdsF_ok hk]; rfl
  obtain ⟨ok, hok⟩ : ∃ ok, ok = h.ok := ⟨_, rfl⟩
  obtain ⟨r, hr'⟩ : ∃ r, r = h.Hol i := ⟨_, rfl⟩
  obtain ⟨q, hq⟩ : ∃ q, q = holdsF f x y i := ⟨_, rfl⟩
  rw [← hok] at c1 HE
  rw [← hr'] at HE ⊢
  rw [← hq] at HE
  simp only [← hq] at c2
  rw [hf] at c1
  clear hok hf hfo hr hl hr' hq
  unfold HV hdA at *
  go_enter Try.func15, Try.ntmps15
  go_wp2_with fail
  refine c1.mono ?_
  rintro e w2 ⟨rfl, b2⟩
  have HB2 : Hid (Below w.heap.size w w2) := b1.trans (b2.mono b1.size)
  have z2 : Hid (StB (w2.alloc (.cells (heA (fun _ => 0) 0 0 0) 51)) w2.heap.size 51 (heA (fun _ => 0) 0 0 0)) := StB.new _ _ _
  clear c1 b1 b2
  go_upto_region 2 with (first | (refine wpList_putS Try.isHeld rfl _ _ rfl w2.heap.size (heA f x y z) _ rfl rfl rfl rfl (heA_one _ _ _ _) z2.out ?_; intro w3 h3 g3))
  have HB3 : Hid (Below w.heap.size w w3) := HB2.out.trans (((Below.refl _ _).alloc (Nat.le_refl _) _ |>.grown g3 (by simp) (fun k e => by cases e; exact Nat.le_refl _)).mono HB2.out.size)
  obtain ⟨m0, m1, m2, m3, m4, m5, m6⟩ := heA_cells h3
  clear HB2 z2 g3 h3
  unfold heA at c2
  cases ok with
  | false =>
    clear c2
    go_wp2
    go_ret
    exact ⟨ret_bool (by rw [HE.out]; simp), HB3.out⟩
  | true =>
    go_wp2_with fail
    refine (c2 _).mono ?_
    rintro e w4 ⟨rfl, b4⟩
    have HB4 : Hid (Below w.heap.size w w4) := HB3.out.trans (b4.mono HB3.out.size)
    clear b4 m0 m1 m2 m3 m4 m5 m6
    cases q <;>
    · go_wp2
      go_ret
      exact ⟨ret_bool (by rw [HE.out]; simp), HB4.out⟩

theorem heA_S {w : World} {g : Nat} {f : Nat → Int} {kd ho tu : Int} {w' : World} {B : Nat} (h : Hid (StB w g 51 (heA f kd ho tu))) (hb : Below B w w') (e : B = w.heap.size) : Hid (StB w' g 51 (heA f kd ho tu)) := by subst e; exact h.out.below hb
theorem HB_next {w w3 w4 : World} (h : Hid (Below w.heap.size w w3)) (b : Below w3.heap.size w3 w4) : Hid (Below w.heap.size w w4) := h.out.trans (b.mono h.out.size)

set_option maxRecDepth 20000 in
set_option maxHeartbeats 4000000 in
theorem iMay_any (v : Value) (h : Hd) (i : Int) (b : Bool) (w : World) (hr : Reads w v h.ks) (hl : h.ks.length ≤ 1099511627776) :
    Calls Try.prog 11 #[HV v h, .int .i64 i, .bool b] w fun e w' => e = .returned (.bool (h.May i b)) ∧ Below w.heap.size w w' := by
  have b1 : Below w.heap.size w (w.alloc (.cells (hdA v h) 26)) := (Below.refl _ _).alloc (Nat.le_refl _) _
  have c1 := iheldof_any v h _ (hr.below b1 (Nat.le_refl _)) hl
  obtain ⟨ao, cap, rfl⟩ := reads_form hr
  obtain ⟨f, x, y, z, hf, hfo⟩ := heldV_form h
  have c2 := fun wx => iheldholds_any f x y z i wx
  have c3 := fun wx => iregd_any f i wx
  have c4 := fun wx => iperson_any i wx
  have c5 := fun wx => imay_any x b (holdsF f x y i) (inI i 0 3 && decide (f i.toNat ≠ 0)) wx
  have HE : Hid (h.May i b = (h.ok && (inI i 0 3 && mayI x b (holdsF f x y i) (inI i 0 3 && decide (f i.toNat ≠ 0))))) := by
    unfold Hd.May
    rw [Hid]
    cases hk : h.ok
    · simp
    · rw [(hfo hk).1, (hfo hk).2.1, (hfo hk).2.2.1, holdsF_ok hk]
      cases inI i 0 3
      · simp
      · rfl
  obtain ⟨ok, hok⟩ : ∃ ok, ok = h.ok := ⟨_, rfl⟩
  obtain ⟨r, hr'⟩ : ∃ r, r = h.May i b := ⟨_, rfl⟩
  rw [← hok] at c1 HE
  rw [← hr'] at HE ⊢
  rw [hf] at c1
  obtain ⟨q1, hq1⟩ : ∃ q1, q1 = holdsF f x y i := ⟨_, rfl⟩
  obtain ⟨q2, hq2⟩ : ∃ q2, q2 = (inI i 0 3 && decide (f i.toNat ≠ 0)) := ⟨_, rfl⟩
  simp only [← hq1, ← hq2] at c2 c3 c5 HE
  obtain ⟨q3, hq3⟩ : ∃ q3, q3 = mayI x b q1 q2 := ⟨_, rfl⟩
  obtain ⟨q4, hq4⟩ : ∃ q4, q4 = inI i 0 3 := ⟨_, rfl⟩
  simp only [← hq3, ← hq4] at c5 c4 HE
  clear hok hf hfo hr hl hr' hq1 hq2 hq3 hq4
  unfold HV hdA at *
  go_enter Try.func11, Try.ntmps11
  go_wp2_with fail
  refine c1.mono ?_
  rintro e w2 ⟨rfl, b2⟩
  have HB2 : Hid (Below w.heap.size w w2) := b1.trans (b2.mono b1.size)
  have z2 : Hid (StB (w2.alloc (.cells (heA (fun _ => 0) 0 0 0) 51)) w2.heap.size 51 (heA (fun _ => 0) 0 0 0)) := StB.new _ _ _
  clear c1 b1 b2
  go_upto_region 2 with (first | (refine wpList_putS Try.isHeld rfl _ _ rfl w2.heap.size (heA f x y z) _ rfl rfl rfl rfl (heA_one _ _ _ _) z2.out ?_; intro w3 h3 g3))
  have HB3 : Hid (Below w.heap.size w w3) := HB2.out.trans (((Below.refl _ _).alloc (Nat.le_refl _) _ |>.grown g3 (by simp) (fun k e => by cases e; exact Nat.le_refl _)).mono HB2.out.size)
  have H3 : Hid (StB w3 w2.heap.size 51 (heA f x y z)) := h3
  obtain ⟨m0, m1, m2, m3, m4, m5, m6⟩ := heA_cells h3
  obtain ⟨g, hg⟩ : ∃ g, g = w2.heap.size := ⟨_, rfl⟩
  rw [← hg] at m0 m1 m2 m3 m4 m5 m6 H3 ⊢
  clear HB2 z2 g3 h3 hg
  unfold heA at c2
  unfold kA at c3
  cases ok with
  | false =>
    clear c2 c3 c4 c5
    go_quiet (fail)
    go_wp2
    go_ret
    exact ⟨ret_bool (by rw [HE.out]; simp), below_drewN HB3.out _⟩
  | true =>
    cases q4 with
    | false =>
      clear c2 c3 c5
      go_quiet ((go_at_call 32; exact Calls.quiet_of_same (c4 _)))
      go_wp2
      go_ret
      exact ⟨ret_bool (by rw [HE.out]; simp), below_drewN HB3.out _⟩
    | true =>
      have HD3 : Hid (Below w.heap.size w w3.drew) := HB3.out.drew
      have HH3 : Hid (StB w3.drew g 51 (heA f x y z)) := H3.out
      clear HB3 H3
      go_region_held3 (fun w' => w'.cell? ⟨g, 0, none⟩ = some (.int .i64 (f 0)) ∧ w'.cell? ⟨g, 1, none⟩ = some (.int .i64 (f 1)) ∧ w'.cell? ⟨g, 2, none⟩ = some (.int .i64 (f 2)) ∧ w'.cell? ⟨g, 3, none⟩ = some (.int .i64 (f 3)) ∧ w'.cell? ⟨g, 4, none⟩ = some (.int .i64 x) ∧ w'.cell? ⟨g, 5, none⟩ = some (.int .i64 y) ∧ w'.cell? ⟨g, 6, none⟩ = some (.int .i64 z)) (refine ⟨?_, ?_, ?_, ?_, ?_, ?_, ?_⟩ <;> assumption)
        (first
          | (go_at_call 32; refine (c4 _).mono ?_; rintro e w' ⟨rfl, hw⟩; subst w')
          | (go_at_call 34; refine (c2 _).mono ?_; rintro e w4 ⟨rfl, b4⟩; have HB4 := HB_next HD3 b4; have H4 := heA_S HH3 b4 rfl; obtain ⟨n0, n1, n2, n3, n4, n5, n6⟩ := heA_cells H4.out; clear b4)
          | (go_at_call 35; refine (c3 _).mono ?_; rintro e w5 ⟨rfl, b5⟩; have HB5 := HB_next HB4 b5; have H5 := heA_S H4 b5 rfl; obtain ⟨o0, o1, o2, o3, o4, o5, o6⟩ := heA_cells H5.out; clear b5)
          | (go_at_call 33; refine (c5 _).mono ?_; rintro e w6 ⟨rfl, b6⟩; have HB6 := HB_next HB5 b6; have H6 := heA_S H5 b6 rfl; obtain ⟨u0, u1, u2, u3, u4, u5, u6⟩ := heA_cells H6.out; clear b6))
      go_wp2
      go_ret
      exact ⟨ret_bool (by rw [HE.out]; simp), HB6.out⟩
end Go.Proofs.Ytaipogenbaghpaa
