/- Holdings by the program, on: Holds, May, a new holding. -/
import Derived.Test.YtpdggofaobmnlaaM29
namespace Go.Proofs.Ytpdggofaobmnlaa
open Go.ChangeShapes Go.WideShapes Go.ChangeAt Go.RowKit

theorem holdsF_ok {h : Hd} (hk : h.ok = true) (i : Int) : holdsF (KF h.ks) h.kd h.ho i = (inI i 0 3 && h.holds i) := by
  have hm : h.mid = true := by
    unfold Hd.ok at hk
    simp only [Bool.and_eq_true] at hk
    exact hk.2
  unfold holdsF Hd.holds
  rw [show decide (KF h.ks i.toNat ≠ 0) = regI h.ks i from rfl]
  unfold Hd.mid at hm
  cases hin : inI i 0 3
  · simp
  · have hi : 0 ≤ i ∧ i ≤ 3 := by simpa [inI] using hin
    simp only [Bool.true_and]
    by_cases h0 : h.kd = 0
    · rw [if_pos h0] at hm
      have ho : h.ho = -1 := by simpa using hm
      rw [h0, ho]
      simp [show allI 0 = false from rfl]
      intro _; omega
    · rw [if_neg h0] at hm
      cases ha : allI h.kd
      · rw [ha] at hm
        simp only [Bool.false_eq_true, if_false, Bool.and_eq_true] at hm
        by_cases he : i = h.ho
        · subst he
          simp [h0, hm.2]
        · simp [he, Ne.symm he]
      · rw [ha] at hm
        simp only [if_true, Bool.and_eq_true, decide_eq_true_eq] at hm
        have : h.ho ≠ i := by omega
        simp [h0, this]

theorem heA_S {w : World} {g : Nat} {f : Nat → Int} {kd ho tu : Int} {w' : World} {B : Nat} (h : Hid (StB w g 92 (heA f kd ho tu))) (hb : Below B w w') (e : B = w.heap.size) : Hid (StB w' g 92 (heA f kd ho tu)) := by subst e; exact h.out.below hb
theorem HB_next {w w3 w4 : World} (h : Hid (Below w.heap.size w w3)) (b : Below w3.heap.size w3 w4) : Hid (Below w.heap.size w w4) := h.out.trans (b.mono h.out.size)
end Go.Proofs.Ytpdggofaobmnlaa
/- Holdings by the program, on: a new holding. -/
namespace Go.Proofs.Ytpdggofaobmnlaa
open Go.ChangeShapes Go.WideShapes Go.ChangeAt Go.RowKit

theorem ilistK4_any (f : Nat → Int) (w : World) :
    Calls Try.prog 103 #[.agg (kA f)] w fun e w' => ∃ ao cap, e = .returned (.slice ao 4 cap) ∧ Own w' w.heap.size (.slice ao 4 cap) (listK f) ∧ Below w.heap.size w w' := by
  refine (ilistK_any f w).mono ?_
  rintro e w' ⟨u, rfl, o, b⟩
  obtain ⟨ao, cap, rfl⟩ := reads_form o.reads
  exact ⟨ao, cap, rfl, o, b⟩

theorem cell_put4 {w : World} {g k : Nat} (hne : g ≠ k) {j : Nat} {a b c d x : Value} (h : w.cell? ⟨g, j, none⟩ = some x) :
    ((((w.setCell ⟨k, 0, none⟩ a).setCell ⟨k, 1, none⟩ b).setCell ⟨k, 2, none⟩ c).setCell ⟨k, 3, none⟩ d).cell? ⟨g, j, none⟩ = some x := by
  rw [World.cell?_setCell_far _ _ _ _ (Ne.symm hne), World.cell?_setCell_far _ _ _ _ (Ne.symm hne), World.cell?_setCell_far _ _ _ _ (Ne.symm hne), World.cell?_setCell_far _ _ _ _ (Ne.symm hne), h]

set_option maxRecDepth 20000 in
set_option maxHeartbeats 600000 in
theorem iholding_any (f : Nat → Int) (kd ho tu : Int) (w : World) :
    Calls Try.prog 89 #[.agg (heA f kd ho tu)] w fun e w' => ∃ u, e = .returned (HV u ⟨listK f, kd, ho, tu⟩) ∧ Own w' w.heap.size u (listK f) ∧ Below w.heap.size w w' := by
  obtain ⟨w1, hw1⟩ : ∃ w1, w1 = (w.alloc (.cells (heA f kd ho tu) 92)).alloc (.cells #[.slice none 0 0, .int .i64 0, .int .i64 0, .int .i64 0] 28) := ⟨_, rfl⟩
  have HB : Hid (Below w.heap.size w w1.drew) := by rw [hw1]; exact (((Below.refl _ _).alloc (Nat.le_refl _) _).alloc (by simp) _).drew
  have H1 : Hid (StB w1 w.heap.size 92 (heA f kd ho tu)) := by rw [hw1]; exact (StB.new _ _ _).alloc _
  have HH1 : Hid (StB w1.drew w.heap.size 92 (heA f kd ho tu)) := H1.out
  have R1 : Hid (StB w1.drew (w.heap.size + 1) 28 #[.slice none 0 0, .int .i64 0, .int .i64 0, .int .i64 0]) := by
    rw [hw1]
    have := StB.new (w.alloc (.cells (heA f kd ho tu) 92)) 28 #[.slice none 0 0, .int .i64 0, .int .i64 0, .int .i64 0]
    rw [World.size_alloc] at this
    exact this
  obtain ⟨m0, m1, m2, m3, m4, m5, m6⟩ := heA_cells H1.out
  have c1 := fun wx => ilistK4_any f wx
  have hs : w.heap.size + 1 < w1.drew.heap.size := R1.out.lt
  clear H1
  unfold heA at hw1 ⊢
  unfold kA at c1
  go_enter Try.func89, Try.ntmps89
  go_upto_region 1 with fail
  rw [← hw1]
  obtain ⟨k, hk⟩ : ∃ k, k = w.heap.size + 1 := ⟨_, rfl⟩
  rw [← hk] at R1 hs ⊢
  have hne : w.heap.size ≠ k := by omega
  have HK : Hid (k = w.heap.size + 1) := hk
  obtain ⟨g, hg⟩ : ∃ g, g = w.heap.size := ⟨_, rfl⟩
  rw [← hg] at m0 m1 m2 m3 m4 m5 m6 HH1 hne ⊢
  have HG : Hid (g = w.heap.size) := hg
  have HS : Hid (k < w1.drew.heap.size) := hs
  obtain ⟨d0, d1, d2, d3, d4, d5, d6⟩ := heA_cells HH1.out
  clear hw1 hk hg hs
  go_region_held3 (fun w' => w'.cell? ⟨g, 0, none⟩ = some (.int .i64 (f 0)) ∧ w'.cell? ⟨g, 1, none⟩ = some (.int .i64 (f 1)) ∧ w'.cell? ⟨g, 2, none⟩ = some (.int .i64 (f 2)) ∧ w'.cell? ⟨g, 3, none⟩ = some (.int .i64 (f 3)) ∧ w'.cell? ⟨g, 4, none⟩ = some (.int .i64 kd) ∧ w'.cell? ⟨g, 5, none⟩ = some (.int .i64 ho) ∧ w'.cell? ⟨g, 6, none⟩ = some (.int .i64 tu)) (refine ⟨?_, ?_, ?_, ?_, ?_, ?_, ?_⟩ <;> first | with_reducible assumption | (with_reducible refine cell_put4 hne ?_; with_reducible assumption))
    (first
      | (go_at_call 103; refine (c1 _).mono ?_; rintro e w2 ⟨ao, cap, rfl, o2, b2⟩; have HB2 := HB_next HB b2; have H2 := heA_S HH1 b2 rfl; have R2 : Hid (StB w2 k 28 #[.slice none 0 0, .int .i64 0, .int .i64 0, .int .i64 0]) := R1.out.below b2; have O2 : Hid (Own w2 w1.drew.heap.size (.slice ao 4 cap) (listK f)) := o2; obtain ⟨n0, n1, n2, n3, n4, n5, n6⟩ := heA_cells H2.out; clear b2 o2; have q0 : w2.cell? ⟨k, 0, none⟩ = some (.slice none 0 0) := R2.out.cell 0 rfl; have q1 : w2.cell? ⟨k, 1, none⟩ = some (.int .i64 0) := R2.out.cell 1 rfl; have q2 : w2.cell? ⟨k, 2, none⟩ = some (.int .i64 0) := R2.out.cell 2 rfl; have q3 : w2.cell? ⟨k, 3, none⟩ = some (.int .i64 0) := R2.out.cell 3 rfl; have f0 := R2.out.frozen 0; have f1 := R2.out.frozen 1; have f2 := R2.out.frozen 2; have f3 := R2.out.frozen 3))
  have SE := (((R2.out.put 0 (.slice ao 4 cap) rfl).put 1 (.int .i64 kd) rfl).put 2 (.int .i64 ho) rfl).put 3 (.int .i64 tu) (ds := hdA (.slice ao 4 cap) ⟨listK f, kd, ho, tu⟩) rfl
  have GE := (((grownSet w2 k 0 (.slice ao 4 cap)).trans (grownSet _ k 1 (.int .i64 kd))).trans (grownSet _ k 2 (.int .i64 ho))).trans (grownSet _ k 3 (.int .i64 tu))
  have HF : Hid (_ ∧ _) := ⟨SE, GE⟩
  clear SE GE H2 R2 n0 n1 n2 n3 n4 n5 n6 q0 q1 q2 q3 f0 f1 f2 f3 d0 d1 d2 d3 d4 d5 d6 m0 m1 m2 m3 m4 m5 m6
  go_wp2
  refine bodyPost_ret (results_S Try.isH rfl _ _ k _ rfl rfl HF.out.1) rfl ?_
  have h1 := HB.out.size
  have h2 := HK.out
  exact ⟨_, rfl, (O2.out.keptLt HF.out.2 HS.out).mono h1, HB2.out.grown HF.out.2 HB2.out.size (fun x e => by cases e; omega)⟩

set_option maxRecDepth 20000 in
set_option maxHeartbeats 1000000 in
theorem inewH_any (w : World) :
    Calls Try.prog 57 #[] w fun e w' => ∃ u, e = .returned (HV u Hd.new) ∧ Own w' w.heap.size u Hd.new.ks ∧ Below w.heap.size w w' := by
  obtain ⟨w1, hw1⟩ : ∃ w1, w1 = w.alloc (.cells #[.slice none 0 0, .int .i64 0, .int .i64 0, .int .i64 0] 28) := ⟨_, rfl⟩
  have p0 : Hid (StB w1 w.heap.size 28 #[.slice none 0 0, .int .i64 0, .int .i64 0, .int .i64 0]) := by rw [hw1]; exact StB.new w _ _
  have b1 : Hid (Below w.heap.size w w1) := by rw [hw1]; exact (Below.refl _ _).alloc (Nat.le_refl _) _
  have c1 := iholding_any (fun _ => 0) 0 (-1) 0 w1
  unfold heA at c1
  go_enter Try.func57, Try.ntmps57
  go_wp2_with fail
  rw [← hw1]
  refine c1.mono ?_
  rintro e w2 ⟨u, rfl, o2, b2⟩
  obtain ⟨ao, cap, rfl⟩ := reads_form o2.reads
  have P2 : Hid (StB w2 w.heap.size 28 #[.slice none 0 0, .int .i64 0, .int .i64 0, .int .i64 0]) := p0.out.below b2
  have B2 := HB_next b1 b2
  have O2 : Hid (Own w2 w1.heap.size (.slice ao 4 cap) (listK fun _ => 0)) := o2
  have HS : Hid (w.heap.size < w1.heap.size) := p0.out.lt
  clear hw1 c1 o2 b2 p0
  go_wp2_with (first | (refine wpList_putS Try.isH rfl _ _ rfl w.heap.size (hdA (.slice ao 4 cap) Hd.new) _ rfl rfl rfl rfl (hdA_one _ rfl) P2.out ?_; intro w3 s3 g3))
  refine bodyPost_ret (results_S Try.isH rfl _ _ w.heap.size _ rfl rfl s3) rfl ?_
  exact ⟨_, rfl, (O2.out.keptLt g3 HS.out).mono b1.out.size, B2.out.grown g3 B2.out.size (fun k e => by cases e; exact Nat.le_refl _)⟩
end Go.Proofs.Ytpdggofaobmnlaa
