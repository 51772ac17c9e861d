/- A new copier by the model. -/
import Derived.Test.YtelfpdjidppblaaSCop4
namespace Go.Proofs.Ytelfpdjidppblaa
open Go.ChangeShapes Go.WideShapes Go.ChangeAt Go.RowKit

set_option maxRecDepth 20000 in
set_option maxHeartbeats 400000 in
theorem upon_makeI {o : Oper} {a : Act} {w : World} {K : Act → World → Prop} {Q : Exit → Act → World → Prop} (k : Nat) (hk : k ≤ 1000)
    (h : ∀ w', Own w' w.heap.size (.slice (some ⟨w.heap.size, 0, none⟩) k k) (List.replicate k 0) → w.grownBy w' none → Oper.upon Try.prog o a K Q (.ok (.value (.slice (some ⟨w.heap.size, 0, none⟩) k k)) w')) :
    Oper.upon Try.prog o a K Q (((Instr.makeSlice 24 (.int .i64 (k : Int)) (.int .i64 (k : Int))).run Try.prog w).andThen fun v w' => .ok (.value v) w') := by
  obtain ⟨i0, hi, hz0, hz1, hz2⟩ := info_parts Try.infoI
  obtain ⟨w', hrun, h1, h2⟩ := run_makeSlice_full (P := Try.prog) w w.heap.size 24 2 i0 (.int .i64 0) 1 Try.underlying24 hi hz0 hz1 .i64 .i64 k (by omega) (by rw [hz2]; omega) (by unfold maxLen; omega) (Nat.le_refl _)
  rw [hrun]
  refine h w' ?_ h2
  have e := zeros_eq k
  rw [Nat.mul_one] at h1
  rw [show Value.cells (.int .i64 0) = #[.int .i64 0] from rfl, e] at h1
  unfold Own
  simpa using h1
theorem made_own {w w1 w2 : World} {v : Value} {xs : List Int} (HB : Below w.heap.size w w1) (hlt : w.heap.size < w1.heap.size) (o2 : Own w2 w1.drew.heap.size v xs) (g2 : w1.drew.grownBy w2 none) : Own w2 (w.heap.size + 1) v xs ∧ Below w.heap.size w w2 :=
  ⟨o2.mono hlt, HB.grown (show w1.grownBy w2 none from ⟨g2.os, g2.tape, g2.output, g2.size, g2.block⟩) HB.size (fun k e => by cases e)⟩
def putC5 (w : World) (g : Nat) (v : Value) (c : Cp) : World := ((((w.setCell ⟨g, 0, none⟩ (.int .i64 c.tr)).setCell ⟨g, 1, none⟩ (.bool c.op)).setCell ⟨g, 2, none⟩ (.int .i64 c.di)).setCell ⟨g, 3, none⟩ (.int .i64 c.wa)).setCell ⟨g, 4, none⟩ v
theorem putC5_st {w : World} {g : Nat} {t : TypeId} (v : Value) (c : Cp) (h : StB w g t zeroCp) : StB (putC5 w g v c) g t (cpA v c) :=
  ((((h.put 0 _ rfl).put 1 _ rfl).put 2 _ rfl).put 3 _ rfl).put 4 _ rfl
theorem putC5_grown (w : World) (g : Nat) (v : Value) (c : Cp) : w.grownBy (putC5 w g v c) (some g) :=
  ((((grownSet w g 0 _).trans (grownSet _ g 1 _)).trans (grownSet _ g 2 _)).trans (grownSet _ g 3 _)).trans (grownSet _ g 4 _)

set_option maxRecDepth 20000 in
set_option maxHeartbeats 2000000 in
theorem snewC_any (n t : Int) (w : World) :
    Calls Try.prog 24 #[.int .i64 n, .int .i64 t] w fun e w' => ∃ u, e = .returned (.tuple #[CpV u (Cp.new n t), .bool (Cp.made n t)]) ∧ Own w' w.heap.size u (Cp.new n t).ts ∧ Below w.heap.size w w' := by
  obtain ⟨i0, hi, hz0, hz1, hz2⟩ := info_parts Try.infoI
  have HE : Hid (Cp.made n t = (inI n 1 8 && inI t 1 100000)) := rfl
  have HN : Hid (Cp.new n t = if Cp.made n t then ⟨t, false, fullI n, 0, List.replicate n.toNat 0⟩ else Cp.zero) := rfl
  obtain ⟨m, hm⟩ : ∃ m, m = Cp.made n t := ⟨_, rfl⟩
  rw [← hm] at HE HN ⊢
  obtain ⟨c, hc⟩ : ∃ c, c = Cp.new n t := ⟨_, rfl⟩
  rw [← hc] at HN ⊢
  have c1 := fun wx => sin6_any n 1 8 wx
  have c2 := fun wx => sin6_any t 1 100000 wx
  have c3 := fun wx => sfull_any n wx
  have HI : Hid (inI n 1 8 = true → 1 ≤ n ∧ n ≤ 8) := (inI_iff n 1 8).1
  obtain ⟨b1, hb1⟩ : ∃ b1, b1 = inI n 1 8 := ⟨_, rfl⟩
  rw [← hb1] at HE HI
  simp only [← hb1] at c1
  obtain ⟨b2, hb2⟩ : ∃ b2, b2 = inI t 1 100000 := ⟨_, rfl⟩
  rw [← hb2] at HE
  simp only [← hb2] at c2
  clear hm hc hb1 hb2
  obtain ⟨w1, hw1⟩ : ∃ w1, w1 = w.alloc (.cells zeroCp 26) := ⟨_, rfl⟩
  have p0 : StB w1 w.heap.size 26 zeroCp := by rw [hw1]; exact StB.new w _ _
  have HB : Hid (Below w.heap.size w w1) := by rw [hw1]; exact (Below.refl _ _).alloc (Nat.le_refl _) _
  unfold zeroCp at hw1
  go_enter Try.func24, Try.ntmps24
  go_upto_region 1 with fail
  rw [← hw1]
  clear hw1
  go_wp2_with fail
  refine (c1 _).mono ?_
  rintro e w' ⟨rfl, hw⟩; subst w'
  clear c1
  cases b1 with
  | false =>
    have HM : Hid (m = false) := by rw [Hid, HE.out]; rfl
    have HC : Hid (c = Cp.zero) := by rw [Hid, HN.out, HM.out]; rfl
    clear HE HN c2 c3 HI
    go_wp2_with (refine wpList_putS Try.isCp rfl _ _ rfl w.heap.size zeroCp zeroCp rfl rfl rfl rfl zeroCp_one p0 ?_; intro w8 s8 g8)
    refine bodyPost_ret (results_S2 Try.isCp rfl _ _ w.heap.size _ _ rfl rfl rfl s8) rfl ?_
    refine ⟨.slice none 0 0, by rw [HC.out, HM.out]; rfl, by rw [HC.out]; exact Own.nil _ _, HB.out.grown g8 HB.out.size (fun k e => by cases e; omega)⟩
  | true =>
    go_wp2_with fail
    refine (c2 _).mono ?_
    rintro e w' ⟨rfl, hw⟩; subst w'
    clear c2
    cases b2 with
    | false =>
      have HM : Hid (m = false) := by rw [Hid, HE.out]; rfl
      have HC : Hid (c = Cp.zero) := by rw [Hid, HN.out, HM.out]; rfl
      clear HE HN c3 HI
      go_wp2_with (refine wpList_putS Try.isCp rfl _ _ rfl w.heap.size zeroCp zeroCp rfl rfl rfl rfl zeroCp_one p0 ?_; intro w8 s8 g8)
      refine bodyPost_ret (results_S2 Try.isCp rfl _ _ w.heap.size _ _ rfl rfl rfl s8) rfl ?_
      refine ⟨.slice none 0 0, by rw [HC.out, HM.out]; rfl, by rw [HC.out]; exact Own.nil _ _, HB.out.grown g8 HB.out.size (fun k e => by cases e; omega)⟩
    | true =>
      obtain ⟨hn1, hn8⟩ := HI.out trivial
      obtain ⟨k, rfl⟩ := nat_of (show 0 ≤ n by omega)
      have HM : Hid (m = true) := by rw [Hid, HE.out]; rfl
      have HC : Hid (c = ⟨t, false, fullI k, 0, List.replicate k 0⟩) := by rw [Hid, HN.out, HM.out]; simp
      obtain ⟨f, hf⟩ : ∃ f, f = fullI k := ⟨_, rfl⟩
      rw [← hf] at HC
      simp only [← hf] at c3
      clear HE HN HI hf
      have hk8 : k ≤ 1000 := by omega
      go_upto_region 3 with fail
      go_region_held3 (fun _ => True) (trivial)
        (first
          | (go_at_call 25; refine (c3 _).mono ?_; rintro e w' ⟨rfl, hw⟩; subst w')
          | (refine upon_makeI k hk8 ?_; intro w2 o2 g2; have S2 := (show StB w1.drew w.heap.size 26 zeroCp from p0).kept g2 (by simp); have HO : Hid (Own w2 (w.heap.size + 1) (.slice (some ⟨w1.heap.size, 0, none⟩) k k) (List.replicate k 0) ∧ Below w.heap.size w w2) := made_own HB.out p0.lt o2 g2; have r0 : w2.cell? ⟨w.heap.size, 0, none⟩ = some (.int .i64 0) := S2.cell 0 rfl; have f0 := S2.frozen 0; have r1 : w2.cell? ⟨w.heap.size, 1, none⟩ = some (.bool false) := S2.cell 1 rfl; have f1 := S2.frozen 1; have r2 : w2.cell? ⟨w.heap.size, 2, none⟩ = some (.int .i64 0) := S2.cell 2 rfl; have f2 := S2.frozen 2; have r3 : w2.cell? ⟨w.heap.size, 3, none⟩ = some (.int .i64 0) := S2.cell 3 rfl; have f3 := S2.frozen 3; have r4 : w2.cell? ⟨w.heap.size, 4, none⟩ = some (.slice none 0 0) := S2.cell 4 rfl; have f4 := S2.frozen 4; clear o2 g2))
      all_goals
        go_wp2
        have G5 := putC5_grown w2 w.heap.size (.slice (some ⟨w1.heap.size, 0, none⟩) k k) ⟨t, false, f, 0, List.replicate k 0⟩
        refine bodyPost_ret (results_S2 Try.isCp rfl _ _ w.heap.size _ _ rfl rfl rfl (putC5_st (.slice (some ⟨w1.heap.size, 0, none⟩) k k) ⟨t, false, f, 0, List.replicate k 0⟩ S2)) rfl ?_
        exact ⟨.slice (some ⟨w1.heap.size, 0, none⟩) k k, by rw [HC.out, HM.out]; rfl, by rw [HC.out]; exact (HO.out.1.keptLt G5 (by omega)).mono (by omega), HO.out.2.grown G5 HO.out.2.size (fun k e => by cases e; omega)⟩
end Go.Proofs.Ytelfpdjidppblaa
