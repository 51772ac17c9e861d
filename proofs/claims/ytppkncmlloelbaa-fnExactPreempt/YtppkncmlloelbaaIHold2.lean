/- Holdings by the program, on: Holds, May, a new holding. -/
import Derived.Test.YtppkncmlloelbaaIHold
namespace Go.Proofs.Ytppkncmlloelbaa
open Go.ChangeShapes Go.WideShapes Go.ChangeAt Go.RowKit

theorem holdsF_ok {h : Hd} (hk : h.ok = true) (i : Int) : holdsF (KF h.ks) h.kd h.ho i = (inI i 0 3 && h.holds i) := by
  have hm : h.mid = true := by
    unfold Hd.ok at hk
    simp only [Bool.and_eq_true] at hk
    exact hk.2
  unfold holdsF Hd.holds
  rw [show decide (KF h.ks i.toNat ≠ 0) = regI h.ks i from rfl]
  unfold Hd.mid at hm
  cases hin : inI i 0 3
  · simp
  · have hi : 0 ≤ i ∧ i ≤ 3 := by simpa [inI] using hin
    simp only [Bool.true_and]
    by_cases h0 : h.kd = 0
    · rw [if_pos h0] at hm
      have ho : h.ho = -1 := by simpa using hm
      rw [h0, ho]
      simp [show allI 0 = false from rfl]
      intro _; omega
    · rw [if_neg h0] at hm
      cases ha : allI h.kd
      · rw [ha] at hm
        simp only [Bool.false_eq_true, if_false, Bool.and_eq_true] at hm
        by_cases he : i = h.ho
        · subst he
          simp [h0, hm.2]
        · simp [he, Ne.symm he]
      · rw [ha] at hm
        simp only [if_true, Bool.and_eq_true, decide_eq_true_eq] at hm
        have : h.ho ≠ i := by omega
        simp [h0, this]

set_option maxRecDepth 20000 in
set_option maxHeartbeats 1000000 in
theorem iHol_any (v : Value) (h : Hd) (i : Int) (w : World) (hr : Reads w v h.ks) (hl : h.ks.length ≤ 1099511627776) :
    Calls Try.prog 33 #[HV v h, .int .i64 i] w fun e w' => e = .returned (.bool (h.Hol i)) ∧ Below w.heap.size w w' := by
  have b1 : Below w.heap.size w (w.alloc (.cells (hdA v h) 26)) := (Below.refl _ _).alloc (Nat.le_refl _) _
  have c1 := iheldof_any v h _ (hr.below b1 (Nat.le_refl _)) hl
  obtain ⟨ao, cap, rfl⟩ := reads_form hr
  obtain ⟨f, x, y, z, hf, hfo⟩ := heldV_form h
  have c2 := fun wx => iheldholds_any f x y z i wx
  have HE : Hid (h.Hol i = (h.ok && holdsF f x y i)) := by
    unfold Hd.Hol
    rw [Hid]
    cases hk : h.ok
    · simp
    · rw [(hfo hk).1, (hfo hk).2.1, (hfo hk).2.2.1, holdsF_ok hk]; rfl
  obtain ⟨ok, hok⟩ : ∃ ok, ok = h.ok := ⟨_, rfl⟩
  obtain ⟨r, hr'⟩ : ∃ r, r = h.Hol i := ⟨_, rfl⟩
  obtain ⟨q, hq⟩ : ∃ q, q = holdsF f x y i := ⟨_, rfl⟩
  rw [← hok] at c1 HE
  rw [← hr'] at HE ⊢
  rw [← hq] at HE
  simp only [← hq] at c2
  rw [hf] at c1
  clear hok hf hfo hr hl hr' hq
  unfold HV hdA at *
  go_enter Try.func33, Try.ntmps33
  go_wp2_with fail
  refine c1.mono ?_
  rintro e w2 ⟨rfl, b2⟩
  have HB2 : Hid (Below w.heap.size w w2) := b1.trans (b2.mono b1.size)
  have z2 : Hid (StB (w2.alloc (.cells (heA (fun _ => 0) 0 0 0) 68)) w2.heap.size 68 (heA (fun _ => 0) 0 0 0)) := StB.new _ _ _
  clear c1 b1 b2
  go_upto_region 2 with (first | (refine wpList_putS Try.isHeld rfl _ _ rfl w2.heap.size (heA f x y z) _ rfl rfl rfl rfl (heA_one _ _ _ _) z2.out ?_; intro w3 h3 g3))
  have HB3 : Hid (Below w.heap.size w w3) := HB2.out.trans (((Below.refl _ _).alloc (Nat.le_refl _) _ |>.grown g3 (by simp) (fun k e => by cases e; exact Nat.le_refl _)).mono HB2.out.size)
  obtain ⟨m0, m1, m2, m3, m4, m5, m6⟩ := heA_cells h3
  clear HB2 z2 g3 h3
  unfold heA at c2
  cases ok with
  | false =>
    clear c2
    go_wp2
    go_ret
    exact ⟨ret_bool (by rw [HE.out]; simp), HB3.out⟩
  | true =>
    go_wp2_with fail
    refine (c2 _).mono ?_
    rintro e w4 ⟨rfl, b4⟩
    have HB4 : Hid (Below w.heap.size w w4) := HB3.out.trans (b4.mono HB3.out.size)
    clear b4 m0 m1 m2 m3 m4 m5 m6
    cases q <;>
    · go_wp2
      go_ret
      exact ⟨ret_bool (by rw [HE.out]; simp), HB4.out⟩

theorem heA_S {w : World} {g : Nat} {f : Nat → Int} {kd ho tu : Int} {w' : World} {B : Nat} (h : Hid (StB w g 68 (heA f kd ho tu))) (hb : Below B w w') (e : B = w.heap.size) : Hid (StB w' g 68 (heA f kd ho tu)) := by subst e; exact h.out.below hb
theorem HB_next {w w3 w4 : World} (h : Hid (Below w.heap.size w w3)) (b : Below w3.heap.size w3 w4) : Hid (Below w.heap.size w w4) := h.out.trans (b.mono h.out.size)
end Go.Proofs.Ytppkncmlloelbaa
