/- What the program tells of a holding, on: HolderOf. -/
import Derived.Test.YtifffiekibdgnaaDoorITold
namespace Go.Proofs.YtifffiekibdgnaaDoor
open Go.ChangeShapes Go.WideShapes Go.ChangeAt Go.RowKit

theorem hold_key {h : Hd} (ok : h.ok = true) : h.holdN = [h.tu, h.kd, keyF (KF h.ks) h.ho] := by
  obtain ⟨hl, -, -, hm⟩ := Hd.ok_all ok
  have hho : h.ho < 4 := by
    unfold Hd.mid at hm
    split at hm
    · have : h.ho = -1 := by simpa using hm
      omega
    · split at hm
      · simp only [Bool.and_eq_true, decide_eq_true_eq] at hm; omega
      · simp only [Bool.and_eq_true] at hm
        have := (inI_iff _ _ _).1 hm.1.2
        omega
  unfold Hd.holdN keyF
  by_cases h0 : 0 ≤ h.ho
  · rw [if_pos h0, if_pos ((inI_iff _ _ _).2 (by omega))]; rfl
  · rw [if_neg h0, if_neg (by rw [inI_iff]; omega)]

set_option maxRecDepth 20000 in
set_option maxHeartbeats 2000000 in
theorem iholderof_any (v : Value) (h : Hd) (w : World) (hr : Reads w v h.ks) (hl : h.ks.length ≤ 1099511627776) (ht : Tab w) :
    Calls Tryd.prog 13 #[HV v h] w fun e w' => e = .returned (S h.holdT) ∧ Below w.heap.size w w' := by
  have b1 : Below w.heap.size w (w.alloc (.cells (hdA v h) 27)) := (Below.refl _ _).alloc (Nat.le_refl _) _
  have c1 := iheldof_any v h _ (hr.below b1 (Nat.le_refl _)) hl
  obtain ⟨ao, cap, rfl⟩ := reads_form hr
  obtain ⟨ok, hok⟩ : ∃ ok, ok = h.ok := ⟨_, rfl⟩
  obtain ⟨f, x, y, z, hf, hfo⟩ := heldV_form h
  have HE : Hid (h.holdT = if ok then intsB h.holdN else []) := by rw [Hid, hok]; rfl
  have HF : Hid (ok = true → Fits64 [z, x, keyF f y] ∧ h.holdN = [z, x, keyF f y]) := fun e => by
    rw [hok] at e
    obtain ⟨rfl, rfl, rfl, rfl⟩ := hfo e
    have h1 := hold_key e
    have h2 := Hd.ok_fitsH e
    rw [h1] at h2
    exact ⟨h2, h1⟩
  rw [← hok] at c1
  rw [hf] at c1
  have HT : Hid (Tab w) := ht
  clear hok hf hfo hr hl ht
  unfold HV hdA at *
  unfold S
  go_enter Tryd.func13, Tryd.ntmps13
  go_wp2_with fail
  refine c1.mono ?_
  rintro e w2 ⟨rfl, b2⟩
  have HB2 : Hid (Below w.heap.size w w2) := b1.trans (b2.mono b1.size)
  have z2 : Hid (StB (w2.alloc (.cells (heA (fun _ => 0) 0 0 0) 41)) w2.heap.size 41 (heA (fun _ => 0) 0 0 0)) := StB.new _ _ _
  clear c1 b1 b2
  cases ok with
  | false =>
    go_wp2_with (first | (refine wpList_putS Tryd.isHeld rfl _ _ rfl w2.heap.size (heA f x y z) _ rfl rfl rfl rfl (heA_one _ _ _ _) z2.out ?_; intro w3 h3 g3))
    go_ret
    rw [HE.out]
    exact ⟨rfl, HB2.out.trans (((Below.refl _ _).alloc (Nat.le_refl _) _ |>.grown g3 (by simp) (fun k e => by cases e; exact Nat.le_refl _)).mono HB2.out.size)⟩
  | true =>
    obtain ⟨fk, hn⟩ := HF.out rfl
    rw [if_pos rfl, hn] at HE
    have FK : Hid (Fits64 [z, x, keyF f y]) := fk
    clear HF fk hn
    go_upto_region 4 with (first | (refine wpList_putS Tryd.isHeld rfl _ _ rfl w2.heap.size (heA f x y z) _ rfl rfl rfl rfl (heA_one _ _ _ _) z2.out ?_; intro w3 h3 g3))
    have HB3 : Hid (Below w.heap.size w w3.drew) := (HB2.out.trans (((Below.refl _ _).alloc (Nat.le_refl _) _ |>.grown g3 (by simp) (fun k e => by cases e; exact Nat.le_refl _)).mono HB2.out.size)).drew
    have D3 : Hid (StB w3.drew w2.heap.size 41 (heA f x y z)) := h3
    have ck := fun wx => ikeyof_any f y wx
    have cn : ∀ u w', Reads w' u [z, x, keyF f y] → Tab w' → _ := fun u w' hr ht => ishowN_any u [z, x, keyF f y] w' hr (by simp) (by simp) FK.out ht
    obtain ⟨k, hk⟩ : ∃ k, k = keyF f y := ⟨_, rfl⟩
    simp only [← hk] at ck cn HE
    have CN : Hid _ := cn
    obtain ⟨g, hg⟩ : ∃ g, g = w2.heap.size := ⟨_, rfl⟩
    rw [← hg] at D3 h3 ⊢
    obtain ⟨m0, m1, m2, m3, m4, m5, m6⟩ := heA_cells h3
    obtain ⟨d0, d1, d2, d3, d4, d5, d6⟩ := heA_cells D3.out
    clear h3 g3 z2 hk FK cn hg HB2
    unfold kA at ck
    go_region_held3 (fun w' => w'.cell? ⟨g, 0, none⟩ = some (.int .i64 (f 0)) ∧ w'.cell? ⟨g, 1, none⟩ = some (.int .i64 (f 1)) ∧ w'.cell? ⟨g, 2, none⟩ = some (.int .i64 (f 2)) ∧ w'.cell? ⟨g, 3, none⟩ = some (.int .i64 (f 3)) ∧ w'.cell? ⟨g, 4, none⟩ = some (.int .i64 x) ∧ w'.cell? ⟨g, 5, none⟩ = some (.int .i64 y) ∧ w'.cell? ⟨g, 6, none⟩ = some (.int .i64 z)) (refine ⟨?_, ?_, ?_, ?_, ?_, ?_, ?_⟩ <;> first | with_reducible assumption | (with_reducible refine cell_later ?_; with_reducible assumption))
      (first
        | (go_at_call 28; refine (ck _).mono ?_; rintro e w4 ⟨rfl, b4⟩; have B4 : Hid (Below w.heap.size w w4) := HB3.out.trans (b4.mono HB3.out.size); have H4 : Hid (StB w4 g 41 (heA f x y z)) := D3.out.below b4; obtain ⟨n0, n1, n2, n3, n4, n5, n6⟩ := heA_cells H4.out; clear b4)
        | (go_at_call 25; refine (CN.out _ _ (own_three w4 z x k).reads (HT.out.below (B4.out.alloc B4.out.size _))).mono ?_; rintro e w5 ⟨rfl, b5⟩; have B5 : Hid (Below w.heap.size w w5) := (B4.out.alloc B4.out.size _).trans (b5.mono (B4.out.alloc B4.out.size _).size); have H5 : Hid (StB w5 g 41 (heA f x y z)) := (H4.out.alloc _).below b5; obtain ⟨o0, o1, o2, o3, o4, o5, o6⟩ := heA_cells H5.out; clear b5; unfold S))
    all_goals
      go_wp2
      go_ret
      exact ⟨by rw [HE.out]; rfl, B5.out⟩
end Go.Proofs.YtifffiekibdgnaaDoor
