/- The program's copiers, on: what is new (NewCopier), what is copied (fresh, freshCopier). -/
import Derived.Test.YtelfpdjidppblaaICopA
import Derived.Test.YtelfpdjidppblaaIFresh
import Derived.ArgAppend
namespace Go.Proofs.Ytelfpdjidppblaa
open Go.ChangeShapes Go.WideShapes Go.ChangeAt Go.RowKit

set_option maxRecDepth 20000 in
set_option maxHeartbeats 2000000 in
theorem inewC_any (n t : Int) (w : World) :
    Calls Try.prog 18 #[.int .i64 n, .int .i64 t] w fun e w' => ∃ u, e = .returned (.tuple #[CpV u (Cp.new n t), .bool (Cp.made n t)]) ∧ Own w' w.heap.size u (Cp.new n t).ts ∧ Below w.heap.size w w' := by
  obtain ⟨i0, hi, hz0, hz1, hz2⟩ := info_parts Try.infoI
  have HE : Hid (Cp.made n t = (inI n 1 8 && inI t 1 100000)) := rfl
  have HN : Hid (Cp.new n t = if Cp.made n t then ⟨t, false, fullI n, 0, List.replicate n.toNat 0⟩ else Cp.zero) := rfl
  obtain ⟨m, hm⟩ : ∃ m, m = Cp.made n t := ⟨_, rfl⟩
  rw [← hm] at HE HN ⊢
  obtain ⟨c, hc⟩ : ∃ c, c = Cp.new n t := ⟨_, rfl⟩
  rw [← hc] at HN ⊢
  have c1 := fun wx => icount_any n wx
  have c2 := fun wx => itry_any t wx
  have c3 := fun wx => full_any n wx
  have HI : Hid (inI n 1 8 = true → 1 ≤ n ∧ n ≤ 8) := (inI_iff n 1 8).1
  obtain ⟨b1, hb1⟩ : ∃ b1, b1 = inI n 1 8 := ⟨_, rfl⟩
  rw [← hb1] at HE HI
  simp only [← hb1] at c1
  obtain ⟨b2, hb2⟩ : ∃ b2, b2 = inI t 1 100000 := ⟨_, rfl⟩
  rw [← hb2] at HE
  simp only [← hb2] at c2
  clear hm hc hb1 hb2
  obtain ⟨w1, hw1⟩ : ∃ w1, w1 = w.alloc (.cells zeroCp 26) := ⟨_, rfl⟩
  have p0 : StB w1 w.heap.size 26 zeroCp := by rw [hw1]; exact StB.new w _ _
  have HB : Hid (Below w.heap.size w w1) := by rw [hw1]; exact (Below.refl _ _).alloc (Nat.le_refl _) _
  unfold zeroCp at hw1
  go_enter Try.func18, Try.ntmps18
  go_upto_region 1 with fail
  rw [← hw1]
  clear hw1
  go_wp2_with fail
  refine (c1 _).mono ?_
  rintro e w' ⟨rfl, hw⟩; subst w'
  clear c1
  cases b1 with
  | false =>
    have HM : Hid (m = false) := by rw [Hid, HE.out]; rfl
    have HC : Hid (c = Cp.zero) := by rw [Hid, HN.out, HM.out]; rfl
    clear HE HN c2 c3 HI
    go_wp2_with (refine wpList_putS Try.isCp rfl _ _ rfl w.heap.size zeroCp zeroCp rfl rfl rfl rfl zeroCp_one p0 ?_; intro w8 s8 g8)
    refine bodyPost_ret (results_S2 Try.isCp rfl _ _ w.heap.size _ _ rfl rfl rfl s8) rfl ?_
    refine ⟨.slice none 0 0, by rw [HC.out, HM.out]; rfl, by rw [HC.out]; exact Own.nil _ _, HB.out.grown g8 HB.out.size (fun k e => by cases e; omega)⟩
  | true =>
    go_wp2_with fail
    refine (c2 _).mono ?_
    rintro e w' ⟨rfl, hw⟩; subst w'
    clear c2
    cases b2 with
    | false =>
      have HM : Hid (m = false) := by rw [Hid, HE.out]; rfl
      have HC : Hid (c = Cp.zero) := by rw [Hid, HN.out, HM.out]; rfl
      clear HE HN c3 HI
      go_wp2_with (refine wpList_putS Try.isCp rfl _ _ rfl w.heap.size zeroCp zeroCp rfl rfl rfl rfl zeroCp_one p0 ?_; intro w8 s8 g8)
      refine bodyPost_ret (results_S2 Try.isCp rfl _ _ w.heap.size _ _ rfl rfl rfl s8) rfl ?_
      refine ⟨.slice none 0 0, by rw [HC.out, HM.out]; rfl, by rw [HC.out]; exact Own.nil _ _, HB.out.grown g8 HB.out.size (fun k e => by cases e; omega)⟩
    | true =>
      obtain ⟨hn1, hn8⟩ := HI.out trivial
      obtain ⟨k, rfl⟩ := nat_of (show 0 ≤ n by omega)
      have HM : Hid (m = true) := by rw [Hid, HE.out]; rfl
      have HC : Hid (c = ⟨t, false, fullI k, 0, List.replicate k 0⟩) := by rw [Hid, HN.out, HM.out]; simp
      obtain ⟨f, hf⟩ : ∃ f, f = fullI k := ⟨_, rfl⟩
      rw [← hf] at HC
      simp only [← hf] at c3
      clear HE HN HI hf
      have hk8 : k ≤ 1000 := by omega
      go_upto_region 3 with fail
      go_region_held3 (fun _ => True) (trivial)
        (first
          | (go_at_call 63; refine (c3 _).mono ?_; rintro e w' ⟨rfl, hw⟩; subst w')
          | (refine upon_makeI k hk8 ?_; intro w2 o2 g2; have S2 := (show StB w1.drew w.heap.size 26 zeroCp from p0).kept g2 (by simp); have HO : Hid (Own w2 (w.heap.size + 1) (.slice (some ⟨w1.heap.size, 0, none⟩) k k) (List.replicate k 0) ∧ Below w.heap.size w w2) := made_own HB.out p0.lt o2 g2; have r0 : w2.cell? ⟨w.heap.size, 0, none⟩ = some (.int .i64 0) := S2.cell 0 rfl; have f0 := S2.frozen 0; have r1 : w2.cell? ⟨w.heap.size, 1, none⟩ = some (.bool false) := S2.cell 1 rfl; have f1 := S2.frozen 1; have r2 : w2.cell? ⟨w.heap.size, 2, none⟩ = some (.int .i64 0) := S2.cell 2 rfl; have f2 := S2.frozen 2; have r3 : w2.cell? ⟨w.heap.size, 3, none⟩ = some (.int .i64 0) := S2.cell 3 rfl; have f3 := S2.frozen 3; have r4 : w2.cell? ⟨w.heap.size, 4, none⟩ = some (.slice none 0 0) := S2.cell 4 rfl; have f4 := S2.frozen 4; clear o2 g2))
      all_goals
        go_wp2
        have G5 := putC5_grown w2 w.heap.size (.slice (some ⟨w1.heap.size, 0, none⟩) k k) ⟨t, false, f, 0, List.replicate k 0⟩
        refine bodyPost_ret (results_S2 Try.isCp rfl _ _ w.heap.size _ _ rfl rfl rfl (putC5_st (.slice (some ⟨w1.heap.size, 0, none⟩) k k) ⟨t, false, f, 0, List.replicate k 0⟩ S2)) rfl ?_
        exact ⟨.slice (some ⟨w1.heap.size, 0, none⟩) k k, by rw [HC.out, HM.out]; rfl, by rw [HC.out]; exact (HO.out.1.keptLt G5 (by omega)).mono (by omega), HO.out.2.grown G5 HO.out.2.size (fun k e => by cases e; omega)⟩

set_option maxRecDepth 20000 in
set_option maxHeartbeats 2000000 in
theorem ifreshC_any (v : Value) (c : Cp) (w : World) (hr : Reads w v c.ts) (hl : c.ts.length ≤ 1099511627776) :
    Calls Try.prog 45 #[CpV v c] w fun e w' => ∃ u, e = .returned (CpV u c) ∧ Mine w' w.heap.size u c.ts ∧ Below w.heap.size w w' := by
  obtain ⟨w1, hw1⟩ : ∃ w1, w1 = (w.alloc (.cells (cpA v c) 26)).alloc (.cells zeroCp 26) := ⟨_, rfl⟩
  have p0 : StB w1 w.heap.size 26 (cpA v c) := by rw [hw1]; exact (StB.new w _ _).alloc _
  have q0 : StB w1 (w.heap.size + 1) 26 zeroCp := by
    rw [hw1]
    have := StB.new (w.alloc (.cells (cpA v c) 26)) 26 zeroCp
    rwa [World.size_alloc] at this
  have b1 : Below w.heap.size w w1 := by rw [hw1]; exact ((Below.refl _ _).alloc (Nat.le_refl _) _).alloc (by simp) _
  have c1 := ifresh_any v c.ts w1 (hr.below b1 (Nat.le_refl _)) hl
  have hs1 := q0.lt
  obtain ⟨ao, cap, rfl⟩ := reads_form hr
  have HW : Hid (w1 = (w.alloc (.cells #[.int .i64 c.tr, .bool c.op, .int .i64 c.di, .int .i64 c.wa, .slice ao c.ts.length cap] 26)).alloc (.cells #[.int .i64 0, .bool false, .int .i64 0, .int .i64 0, .slice none 0 0] 26)) := hw1
  have k4 : w1.cell? ⟨w.heap.size, 4, none⟩ = some (.slice ao c.ts.length cap) := p0.cell 4 rfl
  clear hw1 hr hl
  unfold CpV cpA
  go_enter Try.func45, Try.ntmps45
  go_wp2_with fail
  rw [← HW.out]
  clear HW
  refine c1.mono ?_
  rintro e w3 ⟨u, rfl, o3, b3⟩
  replace p0 := p0.below b3
  replace q0 := q0.below b3
  have B3 := b1.trans (b3.mono b1.size)
  obtain ⟨ab, cb, rfl⟩ := reads_form o3.reads
  have k0 : w3.cell? ⟨w.heap.size, 4, none⟩ = some (.slice ao c.ts.length cap) := p0.cell 4 rfl
  have f0 := p0.frozen 4
  have r4 := p0.put 4 (.slice ab c.ts.length cb) (ds := cpA (.slice ab c.ts.length cb) c) rfl
  have q4 := q0.other ⟨w.heap.size, 4, none⟩ (.slice ab c.ts.length cb) (by simp)
  have HP : Hid (Mine (w3.setCell ⟨w.heap.size, 4, none⟩ (.slice ab c.ts.length cb)) w1.heap.size (.slice ab c.ts.length cb) c.ts ∧ Below w.heap.size w (w3.setCell ⟨w.heap.size, 4, none⟩ (.slice ab c.ts.length cb))) := ⟨o3.setLt (by omega) 4 _, B3.setCell (Nat.le_refl _) _⟩
  clear k4 p0 q0 c1 o3 b3 b1 B3
  go_upto_region 2 with fail
  obtain ⟨w4, hw4⟩ : ∃ w4, w4 = w3.setCell ⟨w.heap.size, 4, none⟩ (.slice ab c.ts.length cb) := ⟨_, rfl⟩
  rw [← hw4] at r4 q4 HP ⊢
  clear hw4 k0 f0
  go_wp2_with (first | (refine wpList_getS Try.isCp rfl _ rfl w.heap.size rfl (cpA (.slice ab c.ts.length cb) c) rfl r4 ?_) | (refine wpList_putS Try.isCp rfl _ _ rfl (w.heap.size + 1) (cpA (.slice ab c.ts.length cb) c) zeroCp rfl rfl rfl rfl (cpA_one c rfl) q4 ?_; intro w8 s8 g8))
  refine bodyPost_ret (results_S Try.isCp rfl _ _ (w.heap.size + 1) _ rfl rfl s8) rfl ?_
  exact ⟨_, rfl, (HP.out.1.keptLt g8 (by omega)).mono (by omega), HP.out.2.grown g8 HP.out.2.size (fun k e => by cases e; omega)⟩

end Go.Proofs.Ytelfpdjidppblaa
