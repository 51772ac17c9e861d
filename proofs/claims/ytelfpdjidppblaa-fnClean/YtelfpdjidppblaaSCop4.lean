/- Copiers by the model: Marked, Next, Acked, Again, Clean, NewCopier. -/
import Derived.Test.YtelfpdjidppblaaSCop3
namespace Go.Proofs.Ytelfpdjidppblaa
open Go.ChangeShapes Go.WideShapes Go.ChangeAt Go.RowKit

set_option maxRecDepth 20000 in
set_option maxHeartbeats 2000000 in
theorem smarked_any (v : Value) (c : Cp) (i : Int) (w : World) (hr : Reads w v c.ts) (hl : c.ts.length ≤ 1099511627776) :
    Calls Try.prog 35 #[CpV v c, .int .i64 i] w fun e w' => ∃ u, e = .returned (CpV u (c.Mark i)) ∧ Own w' w.heap.size u (c.Mark i).ts ∧ Below w.heap.size w w' := by
  obtain ⟨w1, hw1⟩ : ∃ w1, w1 = (w.alloc (.cells (cpA v c) 26)).alloc (.cells zeroCp 26) := ⟨_, rfl⟩
  have p0 : StB w1 w.heap.size 26 (cpA v c) := by rw [hw1]; exact (StB.new w _ _).alloc _
  have q0 : StB w1 (w.heap.size + 1) 26 zeroCp := by
    rw [hw1]
    have := StB.new (w.alloc (.cells (cpA v c) 26)) 26 zeroCp
    rwa [World.size_alloc] at this
  have b1 : Below w.heap.size w w1 := by rw [hw1]; exact ((Below.refl _ _).alloc (Nat.le_refl _) _).alloc (by simp) _
  have r1 := hr.below b1 (Nat.le_refl _)
  have c1 := scopok_any v c w1 r1 hl
  obtain ⟨ao, cap, rfl⟩ := reads_form hr
  have HW : Hid (w1 = (w.alloc (.cells #[.int .i64 c.tr, .bool c.op, .int .i64 c.di, .int .i64 c.wa, .slice ao c.ts.length cap] 26)).alloc (.cells #[.int .i64 0, .bool false, .int .i64 0, .int .i64 0, .slice none 0 0] 26)) := hw1
  have hs1 := q0.lt
  clear hw1 hr
  have k0 : w1.cell? ⟨w.heap.size, 0, none⟩ = some (.int .i64 c.tr) := p0.cell 0 rfl
  have k1 : w1.cell? ⟨w.heap.size, 1, none⟩ = some (.bool c.op) := p0.cell 1 rfl
  have k2 : w1.cell? ⟨w.heap.size, 2, none⟩ = some (.int .i64 c.di) := p0.cell 2 rfl
  have k3 : w1.cell? ⟨w.heap.size, 3, none⟩ = some (.int .i64 c.wa) := p0.cell 3 rfl
  have k4 : w1.cell? ⟨w.heap.size, 4, none⟩ = some (.slice ao c.ts.length cap) := p0.cell 4 rfl
  cases ok : c.ok with
  | false =>
    have e0 : c.Mark i = Cp.zero := by unfold Cp.Mark; rw [ok]; rfl
    rw [e0]
    rw [ok] at c1
    unfold CpV at c1 ⊢
    conv in cpA (.slice ao c.ts.length cap) c => unfold cpA
    conv at c1 in cpA (.slice ao c.ts.length cap) c => unfold cpA
    have HP : Hid (StB w1 (w.heap.size + 1) 26 zeroCp) := q0
    have HB : Hid (Below w.heap.size w w1) := b1
    clear p0 q0 b1 r1 e0
    go_enter Try.func35, Try.ntmps35
    go_wp2_with fail
    rw [← HW.out]
    refine c1.mono ?_
    rintro e w2 ⟨rfl, b2⟩
    have q2 := HP.out.below b2
    have HB2 : Hid (Below w.heap.size w w2) := HB.out.trans (b2.mono HB.out.size)
    have HS2 := b2.size
    clear HW HP HB c1 k0 k1 k2 k3 k4 b2
    go_wp2_with (refine wpList_putS Try.isCp rfl _ _ rfl (w.heap.size + 1) zeroCp zeroCp rfl rfl rfl rfl zeroCp_one q2 ?_; intro w8 s8 g8)
    refine bodyPost_ret (results_S Try.isCp rfl _ _ (w.heap.size + 1) _ rfl rfl s8) rfl ?_
    exact ⟨.slice none 0 0, rfl, Own.nil _ _, HB2.out.grown g8 HB2.out.size (fun k e => by cases e; omega)⟩
  | true =>
    have e0 : c.Mark i = c.mark i := by unfold Cp.Mark; rw [ok]; rfl
    rw [e0]
    rw [ok] at c1
    have HC : Hid (∀ w2, Below w1.heap.size w1 w2 → Calls Try.prog 64 #[CpV (.slice ao c.ts.length cap) c] w2 fun e w' => ∃ u, e = .returned (CpV u c) ∧ Own w' w2.heap.size u c.ts ∧ Below w2.heap.size w2 w') := fun w2 b2 => scopyC_any _ c w2 (r1.below b2 (Nat.le_refl _)) hl
    unfold CpV at c1 HC ⊢
    conv in cpA (.slice ao c.ts.length cap) c => unfold cpA
    conv at c1 in cpA (.slice ao c.ts.length cap) c => unfold cpA
    conv at HC in cpA (.slice ao c.ts.length cap) c => unfold cpA
    have HP : Hid (StB w1 w.heap.size 26 (cpA (.slice ao c.ts.length cap) c) ∧ StB w1 (w.heap.size + 1) 26 zeroCp) := ⟨p0, q0⟩
    have HB : Hid (Below w.heap.size w w1) := b1
    clear p0 q0 b1 r1 e0
    go_enter Try.func35, Try.ntmps35
    go_wp2_with fail
    rw [← HW.out]
    refine c1.mono ?_
    rintro e w2 ⟨rfl, b2⟩
    have p2 := HP.out.1.below b2
    have q2 := HP.out.2.below b2
    have B2 : Below w.heap.size w w2 := HB.out.trans (b2.mono HB.out.size)
    have c2 := HC.out w2 b2
    have hs2 := b2.size
    clear HW HP HB HC c1 k0 k1 k2 k3 k4 b2
    have k0 : w2.cell? ⟨w.heap.size, 0, none⟩ = some (.int .i64 c.tr) := p2.cell 0 rfl
    have k1 : w2.cell? ⟨w.heap.size, 1, none⟩ = some (.bool c.op) := p2.cell 1 rfl
    have k2 : w2.cell? ⟨w.heap.size, 2, none⟩ = some (.int .i64 c.di) := p2.cell 2 rfl
    have k3 : w2.cell? ⟨w.heap.size, 3, none⟩ = some (.int .i64 c.wa) := p2.cell 3 rfl
    have k4 : w2.cell? ⟨w.heap.size, 4, none⟩ = some (.slice ao c.ts.length cap) := p2.cell 4 rfl
    clear p2
    have HQ : Hid (StB w2 (w.heap.size + 1) 26 zeroCp ∧ Below w.heap.size w w2) := ⟨q2, B2⟩
    clear q2 B2
    go_wp2_with fail
    refine c2.mono ?_
    rintro e w3 ⟨u, rfl, o3, b3⟩
    have q3 := HQ.out.1.below b3
    have B3 : Below w.heap.size w w3 := HQ.out.2.trans (b3.mono HQ.out.2.size)
    obtain ⟨ab, cb, rfl⟩ := reads_form o3.reads
    obtain ⟨w4, hw4⟩ : ∃ w4, w4 = w3.alloc (.cells (cpA (.slice ab c.ts.length cb) c) 26) := ⟨_, rfl⟩
    have s4 : StB w4 w3.heap.size 26 (cpA (.slice ab c.ts.length cb) c) := by rw [hw4]; exact StB.new _ _ _
    have b4 : Below w3.heap.size w3 w4 := by rw [hw4]; exact (Below.refl _ _).alloc (Nat.le_refl _) _
    have hu := o3.lt
    have hs3 := b3.size
    have D4 : CpB w4 w3.heap.size 0 26 (cpA (.slice ab c.ts.length cb) c) (.slice ab c.ts.length cb) c := ⟨s4, rfl, rfl, rfl, rfl, rfl, (o3.mono (Nat.zero_le _)).below b4, fun e => by have := (hu _ e).2; omega⟩
    have c4 := smark_any w3.heap.size 0 26 _ _ c i w4 D4
    have HW4 : Hid (w4 = w3.alloc (.cells #[.int .i64 c.tr, .bool c.op, .int .i64 c.di, .int .i64 c.wa, .slice ab c.ts.length cb] 26)) := hw4
    have HQ4 : Hid (StB w4 (w.heap.size + 1) 26 zeroCp ∧ Below w.heap.size w w4 ∧ w1.heap.size ≤ w2.heap.size ∧ ∀ k, (Value.slice ab c.ts.length cb).ownBlock = some k → w2.heap.size ≤ k ∧ k < w3.heap.size) := ⟨q3.below b4, B3.trans (b4.mono B3.size), hs2, hu⟩
    have hq3 := q3.lt
    clear q3 B3 s4 b4 o3 D4 hw4 c2 HQ b3 hu
    unfold cpA
    go_wp2_with fail
    rw [← HW4.out]
    refine c4.mono ?_
    rintro e w5 ⟨rfl, D5, T5⟩
    clear c4 HW4
    have hn : w.heap.size + 1 ∉ (w3.heap.size :: (Value.slice ab c.ts.length cb).ownBlock.toList) := by
      intro h
      rcases List.mem_cons.1 h with h | h
      · omega
      · have := HQ4.out.2.2.2 _ (by simpa using h); omega
    have q5 := HQ4.out.1.turned T5 hn
    have B5 : Below w.heap.size w w5 := HQ4.out.2.1.trans (T5.belowAt (fun b hb => by
      rcases List.mem_cons.1 hb with h | h
      · omega
      · have := HQ4.out.2.2.2 _ (by simpa using h); omega) HQ4.out.2.1.size)
    have s5 := D5.st
    have ea : cpPut (cpA (.slice ab c.ts.length cb) c) 0 (c.mark i).di (c.mark i).wa = cpA (.slice ab c.ts.length cb) (c.mark i) := by
      unfold Cp.mark
      split <;> rfl
    rw [ea] at s5
    have HO : Hid (Own w5 w.heap.size (.slice ab c.ts.length cb) (c.mark i).ts ∧ Below w.heap.size w w5 ∧ ∀ k, (Value.slice ab c.ts.length cb).ownBlock = some k → w.heap.size + 1 < k) := ⟨D5.own.up (fun k hk => by have := HQ4.out.2.2.2 k hk; omega), B5, fun k hk => by have := HQ4.out.2.2.2 k hk; omega⟩
    clear D5 T5 B5 HQ4 ea hn
    obtain ⟨m, hm⟩ : ∃ m, m = c.mark i := ⟨_, rfl⟩
    rw [← hm] at s5 HO
    have HM : Hid (m = c.mark i) := hm
    clear hm
    go_wp2_with (first | (refine wpList_getS Try.isCp rfl _ rfl w3.heap.size rfl (cpA (.slice ab c.ts.length cb) m) rfl s5 ?_) | (refine wpList_putS Try.isCp rfl _ _ rfl (w.heap.size + 1) (cpA (.slice ab c.ts.length cb) m) zeroCp rfl rfl rfl rfl (cpA_one _ rfl) q5 ?_; intro w8 s8 g8))
    refine bodyPost_ret (results_S Try.isCp rfl _ _ (w.heap.size + 1) _ rfl rfl s8) rfl ?_
    exact ⟨.slice ab c.ts.length cb, by rw [← HM.out], by rw [← HM.out]; exact HO.out.1.kept g8 (.inr (fun e => by have := HO.out.2.2 _ e; omega)), HO.out.2.1.grown g8 HO.out.2.1.size (fun k e => by cases e; omega)⟩

set_option maxRecDepth 20000 in
set_option maxHeartbeats 2000000 in
theorem sagained_any (v : Value) (c : Cp) (w : World) (hr : Reads w v c.ts) (hl : c.ts.length ≤ 1099511627776) :
    Calls Try.prog 36 #[CpV v c] w fun e w' => ∃ u, e = .returned (CpV u (c.Again)) ∧ Own w' w.heap.size u (c.Again).ts ∧ Below w.heap.size w w' := by
  obtain ⟨w1, hw1⟩ : ∃ w1, w1 = (w.alloc (.cells (cpA v c) 26)).alloc (.cells zeroCp 26) := ⟨_, rfl⟩
  have p0 : StB w1 w.heap.size 26 (cpA v c) := by rw [hw1]; exact (StB.new w _ _).alloc _
  have q0 : StB w1 (w.heap.size + 1) 26 zeroCp := by
    rw [hw1]
    have := StB.new (w.alloc (.cells (cpA v c) 26)) 26 zeroCp
    rwa [World.size_alloc] at this
  have b1 : Below w.heap.size w w1 := by rw [hw1]; exact ((Below.refl _ _).alloc (Nat.le_refl _) _).alloc (by simp) _
  have r1 := hr.below b1 (Nat.le_refl _)
  have c1 := scopok_any v c w1 r1 hl
  obtain ⟨ao, cap, rfl⟩ := reads_form hr
  have HW : Hid (w1 = (w.alloc (.cells #[.int .i64 c.tr, .bool c.op, .int .i64 c.di, .int .i64 c.wa, .slice ao c.ts.length cap] 26)).alloc (.cells #[.int .i64 0, .bool false, .int .i64 0, .int .i64 0, .slice none 0 0] 26)) := hw1
  have hs1 := q0.lt
  clear hw1 hr
  have k0 : w1.cell? ⟨w.heap.size, 0, none⟩ = some (.int .i64 c.tr) := p0.cell 0 rfl
  have k1 : w1.cell? ⟨w.heap.size, 1, none⟩ = some (.bool c.op) := p0.cell 1 rfl
  have k2 : w1.cell? ⟨w.heap.size, 2, none⟩ = some (.int .i64 c.di) := p0.cell 2 rfl
  have k3 : w1.cell? ⟨w.heap.size, 3, none⟩ = some (.int .i64 c.wa) := p0.cell 3 rfl
  have k4 : w1.cell? ⟨w.heap.size, 4, none⟩ = some (.slice ao c.ts.length cap) := p0.cell 4 rfl
  cases ok : c.ok with
  | false =>
    have e0 : c.Again = Cp.zero := by unfold Cp.Again; rw [ok]; rfl
    rw [e0]
    rw [ok] at c1
    unfold CpV at c1 ⊢
    conv in cpA (.slice ao c.ts.length cap) c => unfold cpA
    conv at c1 in cpA (.slice ao c.ts.length cap) c => unfold cpA
    have HP : Hid (StB w1 (w.heap.size + 1) 26 zeroCp) := q0
    have HB : Hid (Below w.heap.size w w1) := b1
    clear p0 q0 b1 r1 e0
    go_enter Try.func36, Try.ntmps36
    go_wp2_with fail
    rw [← HW.out]
    refine c1.mono ?_
    rintro e w2 ⟨rfl, b2⟩
    have q2 := HP.out.below b2
    have HB2 : Hid (Below w.heap.size w w2) := HB.out.trans (b2.mono HB.out.size)
    have HS2 := b2.size
    clear HW HP HB c1 k0 k1 k2 k3 k4 b2
    go_wp2_with (refine wpList_putS Try.isCp rfl _ _ rfl (w.heap.size + 1) zeroCp zeroCp rfl rfl rfl rfl zeroCp_one q2 ?_; intro w8 s8 g8)
    refine bodyPost_ret (results_S Try.isCp rfl _ _ (w.heap.size + 1) _ rfl rfl s8) rfl ?_
    exact ⟨.slice none 0 0, rfl, Own.nil _ _, HB2.out.grown g8 HB2.out.size (fun k e => by cases e; omega)⟩
  | true =>
    have e0 : c.Again = c.again := by unfold Cp.Again; rw [ok]; rfl
    rw [e0]
    rw [ok] at c1
    have HC : Hid (∀ w2, Below w1.heap.size w1 w2 → Calls Try.prog 64 #[CpV (.slice ao c.ts.length cap) c] w2 fun e w' => ∃ u, e = .returned (CpV u c) ∧ Own w' w2.heap.size u c.ts ∧ Below w2.heap.size w2 w') := fun w2 b2 => scopyC_any _ c w2 (r1.below b2 (Nat.le_refl _)) hl
    unfold CpV at c1 HC ⊢
    conv in cpA (.slice ao c.ts.length cap) c => unfold cpA
    conv at c1 in cpA (.slice ao c.ts.length cap) c => unfold cpA
    conv at HC in cpA (.slice ao c.ts.length cap) c => unfold cpA
    have HP : Hid (StB w1 w.heap.size 26 (cpA (.slice ao c.ts.length cap) c) ∧ StB w1 (w.heap.size + 1) 26 zeroCp) := ⟨p0, q0⟩
    have HB : Hid (Below w.heap.size w w1) := b1
    clear p0 q0 b1 r1 e0
    go_enter Try.func36, Try.ntmps36
    go_wp2_with fail
    rw [← HW.out]
    refine c1.mono ?_
    rintro e w2 ⟨rfl, b2⟩
    have p2 := HP.out.1.below b2
    have q2 := HP.out.2.below b2
    have B2 : Below w.heap.size w w2 := HB.out.trans (b2.mono HB.out.size)
    have c2 := HC.out w2 b2
    have hs2 := b2.size
    clear HW HP HB HC c1 k0 k1 k2 k3 k4 b2
    have k0 : w2.cell? ⟨w.heap.size, 0, none⟩ = some (.int .i64 c.tr) := p2.cell 0 rfl
    have k1 : w2.cell? ⟨w.heap.size, 1, none⟩ = some (.bool c.op) := p2.cell 1 rfl
    have k2 : w2.cell? ⟨w.heap.size, 2, none⟩ = some (.int .i64 c.di) := p2.cell 2 rfl
    have k3 : w2.cell? ⟨w.heap.size, 3, none⟩ = some (.int .i64 c.wa) := p2.cell 3 rfl
    have k4 : w2.cell? ⟨w.heap.size, 4, none⟩ = some (.slice ao c.ts.length cap) := p2.cell 4 rfl
    clear p2
    have HQ : Hid (StB w2 (w.heap.size + 1) 26 zeroCp ∧ Below w.heap.size w w2) := ⟨q2, B2⟩
    clear q2 B2
    go_wp2_with fail
    refine c2.mono ?_
    rintro e w3 ⟨u, rfl, o3, b3⟩
    have q3 := HQ.out.1.below b3
    have B3 : Below w.heap.size w w3 := HQ.out.2.trans (b3.mono HQ.out.2.size)
    obtain ⟨ab, cb, rfl⟩ := reads_form o3.reads
    obtain ⟨w4, hw4⟩ : ∃ w4, w4 = w3.alloc (.cells (cpA (.slice ab c.ts.length cb) c) 26) := ⟨_, rfl⟩
    have s4 : StB w4 w3.heap.size 26 (cpA (.slice ab c.ts.length cb) c) := by rw [hw4]; exact StB.new _ _ _
    have b4 : Below w3.heap.size w3 w4 := by rw [hw4]; exact (Below.refl _ _).alloc (Nat.le_refl _) _
    have hu := o3.lt
    have hs3 := b3.size
    have D4 : CpB w4 w3.heap.size 0 26 (cpA (.slice ab c.ts.length cb) c) (.slice ab c.ts.length cb) c := ⟨s4, rfl, rfl, rfl, rfl, rfl, (o3.mono (Nat.zero_le _)).below b4, fun e => by have := (hu _ e).2; omega⟩
    have c4 := sagain_any w3.heap.size 0 26 _ _ c w4 D4 (Cp.fit ok)
    have HW4 : Hid (w4 = w3.alloc (.cells #[.int .i64 c.tr, .bool c.op, .int .i64 c.di, .int .i64 c.wa, .slice ab c.ts.length cb] 26)) := hw4
    have HQ4 : Hid (StB w4 (w.heap.size + 1) 26 zeroCp ∧ Below w.heap.size w w4 ∧ w1.heap.size ≤ w2.heap.size ∧ ∀ k, (Value.slice ab c.ts.length cb).ownBlock = some k → w2.heap.size ≤ k ∧ k < w3.heap.size) := ⟨q3.below b4, B3.trans (b4.mono B3.size), hs2, hu⟩
    have hq3 := q3.lt
    clear q3 B3 s4 b4 o3 D4 hw4 c2 HQ b3 hu
    unfold cpA
    go_wp2_with fail
    rw [← HW4.out]
    refine c4.mono ?_
    rintro e w5 ⟨rfl, D5, T5⟩
    clear c4 HW4
    have hn : w.heap.size + 1 ∉ (w3.heap.size :: (Value.slice ab c.ts.length cb).ownBlock.toList) := by
      intro h
      rcases List.mem_cons.1 h with h | h
      · omega
      · have := HQ4.out.2.2.2 _ (by simpa using h); omega
    have q5 := HQ4.out.1.turned T5 hn
    have B5 : Below w.heap.size w w5 := HQ4.out.2.1.trans (T5.belowAt (fun b hb => by
      rcases List.mem_cons.1 hb with h | h
      · omega
      · have := HQ4.out.2.2.2 _ (by simpa using h); omega) HQ4.out.2.1.size)
    have s5 := D5.st
    have ea : cpPut (cpA (.slice ab c.ts.length cb) c) 0 (c.again).di (c.again).wa = cpA (.slice ab c.ts.length cb) (c.again) := by
      unfold Cp.again
      rfl
    rw [ea] at s5
    have HO : Hid (Own w5 w.heap.size (.slice ab c.ts.length cb) (c.again).ts ∧ Below w.heap.size w w5 ∧ ∀ k, (Value.slice ab c.ts.length cb).ownBlock = some k → w.heap.size + 1 < k) := ⟨D5.own.up (fun k hk => by have := HQ4.out.2.2.2 k hk; omega), B5, fun k hk => by have := HQ4.out.2.2.2 k hk; omega⟩
    clear D5 T5 B5 HQ4 ea hn
    obtain ⟨m, hm⟩ : ∃ m, m = c.again := ⟨_, rfl⟩
    rw [← hm] at s5 HO
    have HM : Hid (m = c.again) := hm
    clear hm
    go_wp2_with (first | (refine wpList_getS Try.isCp rfl _ rfl w3.heap.size rfl (cpA (.slice ab c.ts.length cb) m) rfl s5 ?_) | (refine wpList_putS Try.isCp rfl _ _ rfl (w.heap.size + 1) (cpA (.slice ab c.ts.length cb) m) zeroCp rfl rfl rfl rfl (cpA_one _ rfl) q5 ?_; intro w8 s8 g8))
    refine bodyPost_ret (results_S Try.isCp rfl _ _ (w.heap.size + 1) _ rfl rfl s8) rfl ?_
    exact ⟨.slice ab c.ts.length cb, by rw [← HM.out], by rw [← HM.out]; exact HO.out.1.kept g8 (.inr (fun e => by have := HO.out.2.2 _ e; omega)), HO.out.2.1.grown g8 HO.out.2.1.size (fun k e => by cases e; omega)⟩

set_option maxRecDepth 20000 in
set_option maxHeartbeats 2000000 in
theorem sacked_any (v : Value) (c : Cp) (i : Int) (tn : Int) (w : World) (hr : Reads w v c.ts) (hl : c.ts.length ≤ 1099511627776) :
    Calls Try.prog 21 #[CpV v c, .int .i64 i, .int .i64 tn] w fun e w' => ∃ u, e = .returned (CpV u (c.Ack i tn)) ∧ Own w' w.heap.size u (c.Ack i tn).ts ∧ Below w.heap.size w w' := by
  obtain ⟨w1, hw1⟩ : ∃ w1, w1 = (w.alloc (.cells (cpA v c) 26)).alloc (.cells zeroCp 26) := ⟨_, rfl⟩
  have p0 : StB w1 w.heap.size 26 (cpA v c) := by rw [hw1]; exact (StB.new w _ _).alloc _
  have q0 : StB w1 (w.heap.size + 1) 26 zeroCp := by
    rw [hw1]
    have := StB.new (w.alloc (.cells (cpA v c) 26)) 26 zeroCp
    rwa [World.size_alloc] at this
  have b1 : Below w.heap.size w w1 := by rw [hw1]; exact ((Below.refl _ _).alloc (Nat.le_refl _) _).alloc (by simp) _
  have r1 := hr.below b1 (Nat.le_refl _)
  have c1 := scopok_any v c w1 r1 hl
  obtain ⟨ao, cap, rfl⟩ := reads_form hr
  have HW : Hid (w1 = (w.alloc (.cells #[.int .i64 c.tr, .bool c.op, .int .i64 c.di, .int .i64 c.wa, .slice ao c.ts.length cap] 26)).alloc (.cells #[.int .i64 0, .bool false, .int .i64 0, .int .i64 0, .slice none 0 0] 26)) := hw1
  have hs1 := q0.lt
  clear hw1 hr
  have k0 : w1.cell? ⟨w.heap.size, 0, none⟩ = some (.int .i64 c.tr) := p0.cell 0 rfl
  have k1 : w1.cell? ⟨w.heap.size, 1, none⟩ = some (.bool c.op) := p0.cell 1 rfl
  have k2 : w1.cell? ⟨w.heap.size, 2, none⟩ = some (.int .i64 c.di) := p0.cell 2 rfl
  have k3 : w1.cell? ⟨w.heap.size, 3, none⟩ = some (.int .i64 c.wa) := p0.cell 3 rfl
  have k4 : w1.cell? ⟨w.heap.size, 4, none⟩ = some (.slice ao c.ts.length cap) := p0.cell 4 rfl
  cases ok : c.ok with
  | false =>
    have e0 : c.Ack i tn = Cp.zero := by unfold Cp.Ack; rw [ok]; rfl
    rw [e0]
    rw [ok] at c1
    unfold CpV at c1 ⊢
    conv in cpA (.slice ao c.ts.length cap) c => unfold cpA
    conv at c1 in cpA (.slice ao c.ts.length cap) c => unfold cpA
    have HP : Hid (StB w1 (w.heap.size + 1) 26 zeroCp) := q0
    have HB : Hid (Below w.heap.size w w1) := b1
    clear p0 q0 b1 r1 e0
    go_enter Try.func21, Try.ntmps21
    go_wp2_with fail
    rw [← HW.out]
    refine c1.mono ?_
    rintro e w2 ⟨rfl, b2⟩
    have q2 := HP.out.below b2
    have HB2 : Hid (Below w.heap.size w w2) := HB.out.trans (b2.mono HB.out.size)
    have HS2 := b2.size
    clear HW HP HB c1 k0 k1 k2 k3 k4 b2
    go_wp2_with (refine wpList_putS Try.isCp rfl _ _ rfl (w.heap.size + 1) zeroCp zeroCp rfl rfl rfl rfl zeroCp_one q2 ?_; intro w8 s8 g8)
    refine bodyPost_ret (results_S Try.isCp rfl _ _ (w.heap.size + 1) _ rfl rfl s8) rfl ?_
    exact ⟨.slice none 0 0, rfl, Own.nil _ _, HB2.out.grown g8 HB2.out.size (fun k e => by cases e; omega)⟩
  | true =>
    have e0 : c.Ack i tn = c.ack i tn := by unfold Cp.Ack; rw [ok]; rfl
    rw [e0]
    rw [ok] at c1
    have HC : Hid (∀ w2, Below w1.heap.size w1 w2 → Calls Try.prog 64 #[CpV (.slice ao c.ts.length cap) c] w2 fun e w' => ∃ u, e = .returned (CpV u c) ∧ Own w' w2.heap.size u c.ts ∧ Below w2.heap.size w2 w') := fun w2 b2 => scopyC_any _ c w2 (r1.below b2 (Nat.le_refl _)) hl
    unfold CpV at c1 HC ⊢
    conv in cpA (.slice ao c.ts.length cap) c => unfold cpA
    conv at c1 in cpA (.slice ao c.ts.length cap) c => unfold cpA
    conv at HC in cpA (.slice ao c.ts.length cap) c => unfold cpA
    have HP : Hid (StB w1 w.heap.size 26 (cpA (.slice ao c.ts.length cap) c) ∧ StB w1 (w.heap.size + 1) 26 zeroCp) := ⟨p0, q0⟩
    have HB : Hid (Below w.heap.size w w1) := b1
    clear p0 q0 b1 r1 e0
    go_enter Try.func21, Try.ntmps21
    go_wp2_with fail
    rw [← HW.out]
    refine c1.mono ?_
    rintro e w2 ⟨rfl, b2⟩
    have p2 := HP.out.1.below b2
    have q2 := HP.out.2.below b2
    have B2 : Below w.heap.size w w2 := HB.out.trans (b2.mono HB.out.size)
    have c2 := HC.out w2 b2
    have hs2 := b2.size
    clear HW HP HB HC c1 k0 k1 k2 k3 k4 b2
    have k0 : w2.cell? ⟨w.heap.size, 0, none⟩ = some (.int .i64 c.tr) := p2.cell 0 rfl
    have k1 : w2.cell? ⟨w.heap.size, 1, none⟩ = some (.bool c.op) := p2.cell 1 rfl
    have k2 : w2.cell? ⟨w.heap.size, 2, none⟩ = some (.int .i64 c.di) := p2.cell 2 rfl
    have k3 : w2.cell? ⟨w.heap.size, 3, none⟩ = some (.int .i64 c.wa) := p2.cell 3 rfl
    have k4 : w2.cell? ⟨w.heap.size, 4, none⟩ = some (.slice ao c.ts.length cap) := p2.cell 4 rfl
    clear p2
    have HQ : Hid (StB w2 (w.heap.size + 1) 26 zeroCp ∧ Below w.heap.size w w2) := ⟨q2, B2⟩
    clear q2 B2
    go_wp2_with fail
    refine c2.mono ?_
    rintro e w3 ⟨u, rfl, o3, b3⟩
    have q3 := HQ.out.1.below b3
    have B3 : Below w.heap.size w w3 := HQ.out.2.trans (b3.mono HQ.out.2.size)
    obtain ⟨ab, cb, rfl⟩ := reads_form o3.reads
    obtain ⟨w4, hw4⟩ : ∃ w4, w4 = w3.alloc (.cells (cpA (.slice ab c.ts.length cb) c) 26) := ⟨_, rfl⟩
    have s4 : StB w4 w3.heap.size 26 (cpA (.slice ab c.ts.length cb) c) := by rw [hw4]; exact StB.new _ _ _
    have b4 : Below w3.heap.size w3 w4 := by rw [hw4]; exact (Below.refl _ _).alloc (Nat.le_refl _) _
    have hu := o3.lt
    have hs3 := b3.size
    have D4 : CpB w4 w3.heap.size 0 26 (cpA (.slice ab c.ts.length cb) c) (.slice ab c.ts.length cb) c := ⟨s4, rfl, rfl, rfl, rfl, rfl, (o3.mono (Nat.zero_le _)).below b4, fun e => by have := (hu _ e).2; omega⟩
    have c4 := sack_any w3.heap.size 0 26 _ _ c i tn w4 D4
    have HW4 : Hid (w4 = w3.alloc (.cells #[.int .i64 c.tr, .bool c.op, .int .i64 c.di, .int .i64 c.wa, .slice ab c.ts.length cb] 26)) := hw4
    have HQ4 : Hid (StB w4 (w.heap.size + 1) 26 zeroCp ∧ Below w.heap.size w w4 ∧ w1.heap.size ≤ w2.heap.size ∧ ∀ k, (Value.slice ab c.ts.length cb).ownBlock = some k → w2.heap.size ≤ k ∧ k < w3.heap.size) := ⟨q3.below b4, B3.trans (b4.mono B3.size), hs2, hu⟩
    have hq3 := q3.lt
    clear q3 B3 s4 b4 o3 D4 hw4 c2 HQ b3 hu
    unfold cpA
    go_wp2_with fail
    rw [← HW4.out]
    refine c4.mono ?_
    rintro e w5 ⟨rfl, D5, T5⟩
    clear c4 HW4
    have hn : w.heap.size + 1 ∉ (w3.heap.size :: (Value.slice ab c.ts.length cb).ownBlock.toList) := by
      intro h
      rcases List.mem_cons.1 h with h | h
      · omega
      · have := HQ4.out.2.2.2 _ (by simpa using h); omega
    have q5 := HQ4.out.1.turned T5 hn
    have B5 : Below w.heap.size w w5 := HQ4.out.2.1.trans (T5.belowAt (fun b hb => by
      rcases List.mem_cons.1 hb with h | h
      · omega
      · have := HQ4.out.2.2.2 _ (by simpa using h); omega) HQ4.out.2.1.size)
    have s5 := D5.st
    have ea : cpPut (cpA (.slice ab c.ts.length cb) c) 0 (c.ack i tn).di (c.ack i tn).wa = cpA (.slice ab c.ts.length cb) (c.ack i tn) := by
      unfold Cp.ack
      split <;> rfl
    rw [ea] at s5
    have HO : Hid (Own w5 w.heap.size (.slice ab c.ts.length cb) (c.ack i tn).ts ∧ Below w.heap.size w w5 ∧ ∀ k, (Value.slice ab c.ts.length cb).ownBlock = some k → w.heap.size + 1 < k) := ⟨D5.own.up (fun k hk => by have := HQ4.out.2.2.2 k hk; omega), B5, fun k hk => by have := HQ4.out.2.2.2 k hk; omega⟩
    clear D5 T5 B5 HQ4 ea hn
    obtain ⟨m, hm⟩ : ∃ m, m = c.ack i tn := ⟨_, rfl⟩
    rw [← hm] at s5 HO
    have HM : Hid (m = c.ack i tn) := hm
    clear hm
    go_wp2_with (first | (refine wpList_getS Try.isCp rfl _ rfl w3.heap.size rfl (cpA (.slice ab c.ts.length cb) m) rfl s5 ?_) | (refine wpList_putS Try.isCp rfl _ _ rfl (w.heap.size + 1) (cpA (.slice ab c.ts.length cb) m) zeroCp rfl rfl rfl rfl (cpA_one _ rfl) q5 ?_; intro w8 s8 g8))
    refine bodyPost_ret (results_S Try.isCp rfl _ _ (w.heap.size + 1) _ rfl rfl s8) rfl ?_
    exact ⟨.slice ab c.ts.length cb, by rw [← HM.out], by rw [← HM.out]; exact HO.out.1.kept g8 (.inr (fun e => by have := HO.out.2.2 _ e; omega)), HO.out.2.1.grown g8 HO.out.2.1.size (fun k e => by cases e; omega)⟩

set_option maxRecDepth 20000 in
set_option maxHeartbeats 2000000 in
theorem snexted_any (v : Value) (c : Cp) (w : World) (hr : Reads w v c.ts) (hl : c.ts.length ≤ 1099511627776) :
    Calls Try.prog 19 #[CpV v c] w fun e w' => ∃ u, e = .returned (.tuple #[CpV u (c.Next), .int .i64 c.Nx]) ∧ Own w' w.heap.size u (c.Next).ts ∧ Below w.heap.size w w' := by
  obtain ⟨w1, hw1⟩ : ∃ w1, w1 = (w.alloc (.cells (cpA v c) 26)).alloc (.cells zeroCp 26) := ⟨_, rfl⟩
  have p0 : StB w1 w.heap.size 26 (cpA v c) := by rw [hw1]; exact (StB.new w _ _).alloc _
  have q0 : StB w1 (w.heap.size + 1) 26 zeroCp := by
    rw [hw1]
    have := StB.new (w.alloc (.cells (cpA v c) 26)) 26 zeroCp
    rwa [World.size_alloc] at this
  have b1 : Below w.heap.size w w1 := by rw [hw1]; exact ((Below.refl _ _).alloc (Nat.le_refl _) _).alloc (by simp) _
  have r1 := hr.below b1 (Nat.le_refl _)
  have c1 := scopok_any v c w1 r1 hl
  obtain ⟨ao, cap, rfl⟩ := reads_form hr
  have HW : Hid (w1 = (w.alloc (.cells #[.int .i64 c.tr, .bool c.op, .int .i64 c.di, .int .i64 c.wa, .slice ao c.ts.length cap] 26)).alloc (.cells #[.int .i64 0, .bool false, .int .i64 0, .int .i64 0, .slice none 0 0] 26)) := hw1
  have hs1 := q0.lt
  clear hw1 hr
  have k0 : w1.cell? ⟨w.heap.size, 0, none⟩ = some (.int .i64 c.tr) := p0.cell 0 rfl
  have k1 : w1.cell? ⟨w.heap.size, 1, none⟩ = some (.bool c.op) := p0.cell 1 rfl
  have k2 : w1.cell? ⟨w.heap.size, 2, none⟩ = some (.int .i64 c.di) := p0.cell 2 rfl
  have k3 : w1.cell? ⟨w.heap.size, 3, none⟩ = some (.int .i64 c.wa) := p0.cell 3 rfl
  have k4 : w1.cell? ⟨w.heap.size, 4, none⟩ = some (.slice ao c.ts.length cap) := p0.cell 4 rfl
  cases ok : c.ok with
  | false =>
    have e0 : c.Next = Cp.zero := by unfold Cp.Next; rw [ok]; rfl
    rw [e0]
    have HX : Hid (c.Nx = -1) := by rw [Hid]; unfold Cp.Nx; rw [ok]; rfl
    rw [ok] at c1
    unfold CpV at c1 ⊢
    conv in cpA (.slice ao c.ts.length cap) c => unfold cpA
    conv at c1 in cpA (.slice ao c.ts.length cap) c => unfold cpA
    have HP : Hid (StB w1 (w.heap.size + 1) 26 zeroCp) := q0
    have HB : Hid (Below w.heap.size w w1) := b1
    clear p0 q0 b1 r1 e0
    go_enter Try.func19, Try.ntmps19
    go_wp2_with fail
    rw [← HW.out]
    refine c1.mono ?_
    rintro e w2 ⟨rfl, b2⟩
    have q2 := HP.out.below b2
    have HB2 : Hid (Below w.heap.size w w2) := HB.out.trans (b2.mono HB.out.size)
    have HS2 := b2.size
    clear HW HP HB c1 k0 k1 k2 k3 k4 b2
    go_wp2_with (refine wpList_putS Try.isCp rfl _ _ rfl (w.heap.size + 1) zeroCp zeroCp rfl rfl rfl rfl zeroCp_one q2 ?_; intro w8 s8 g8)
    refine bodyPost_ret (results_S2 Try.isCp rfl _ _ (w.heap.size + 1) _ (.int .i64 (-1)) rfl rfl rfl s8) rfl ?_
    exact ⟨.slice none 0 0, by rw [HX.out]; rfl, Own.nil _ _, HB2.out.grown g8 HB2.out.size (fun k e => by cases e; omega)⟩
  | true =>
    have e0 : c.Next = c.next := by unfold Cp.Next; rw [ok]; rfl
    rw [e0]
    have HX : Hid (c.Nx = c.nx) := by rw [Hid]; unfold Cp.Nx; rw [ok]; rfl
    rw [ok] at c1
    have HC : Hid (∀ w2, Below w1.heap.size w1 w2 → Calls Try.prog 64 #[CpV (.slice ao c.ts.length cap) c] w2 fun e w' => ∃ u, e = .returned (CpV u c) ∧ Own w' w2.heap.size u c.ts ∧ Below w2.heap.size w2 w') := fun w2 b2 => scopyC_any _ c w2 (r1.below b2 (Nat.le_refl _)) hl
    unfold CpV at c1 HC ⊢
    conv in cpA (.slice ao c.ts.length cap) c => unfold cpA
    conv at c1 in cpA (.slice ao c.ts.length cap) c => unfold cpA
    conv at HC in cpA (.slice ao c.ts.length cap) c => unfold cpA
    have HP : Hid (StB w1 w.heap.size 26 (cpA (.slice ao c.ts.length cap) c) ∧ StB w1 (w.heap.size + 1) 26 zeroCp) := ⟨p0, q0⟩
    have HB : Hid (Below w.heap.size w w1) := b1
    clear p0 q0 b1 r1 e0
    go_enter Try.func19, Try.ntmps19
    go_wp2_with fail
    rw [← HW.out]
    refine c1.mono ?_
    rintro e w2 ⟨rfl, b2⟩
    have p2 := HP.out.1.below b2
    have q2 := HP.out.2.below b2
    have B2 : Below w.heap.size w w2 := HB.out.trans (b2.mono HB.out.size)
    have c2 := HC.out w2 b2
    have hs2 := b2.size
    clear HW HP HB HC c1 k0 k1 k2 k3 k4 b2
    have k0 : w2.cell? ⟨w.heap.size, 0, none⟩ = some (.int .i64 c.tr) := p2.cell 0 rfl
    have k1 : w2.cell? ⟨w.heap.size, 1, none⟩ = some (.bool c.op) := p2.cell 1 rfl
    have k2 : w2.cell? ⟨w.heap.size, 2, none⟩ = some (.int .i64 c.di) := p2.cell 2 rfl
    have k3 : w2.cell? ⟨w.heap.size, 3, none⟩ = some (.int .i64 c.wa) := p2.cell 3 rfl
    have k4 : w2.cell? ⟨w.heap.size, 4, none⟩ = some (.slice ao c.ts.length cap) := p2.cell 4 rfl
    clear p2
    have HQ : Hid (StB w2 (w.heap.size + 1) 26 zeroCp ∧ Below w.heap.size w w2) := ⟨q2, B2⟩
    clear q2 B2
    go_wp2_with fail
    refine c2.mono ?_
    rintro e w3 ⟨u, rfl, o3, b3⟩
    have q3 := HQ.out.1.below b3
    have B3 : Below w.heap.size w w3 := HQ.out.2.trans (b3.mono HQ.out.2.size)
    obtain ⟨ab, cb, rfl⟩ := reads_form o3.reads
    obtain ⟨w4, hw4⟩ : ∃ w4, w4 = w3.alloc (.cells (cpA (.slice ab c.ts.length cb) c) 26) := ⟨_, rfl⟩
    have s4 : StB w4 w3.heap.size 26 (cpA (.slice ab c.ts.length cb) c) := by rw [hw4]; exact StB.new _ _ _
    have b4 : Below w3.heap.size w3 w4 := by rw [hw4]; exact (Below.refl _ _).alloc (Nat.le_refl _) _
    have hu := o3.lt
    have hs3 := b3.size
    have D4 : CpB w4 w3.heap.size 0 26 (cpA (.slice ab c.ts.length cb) c) (.slice ab c.ts.length cb) c := ⟨s4, rfl, rfl, rfl, rfl, rfl, (o3.mono (Nat.zero_le _)).below b4, fun e => by have := (hu _ e).2; omega⟩
    have c4 := snext_any w3.heap.size 0 26 _ _ c w4 D4 (Cp.fit ok)
    have HW4 : Hid (w4 = w3.alloc (.cells #[.int .i64 c.tr, .bool c.op, .int .i64 c.di, .int .i64 c.wa, .slice ab c.ts.length cb] 26)) := hw4
    have HQ4 : Hid (StB w4 (w.heap.size + 1) 26 zeroCp ∧ Below w.heap.size w w4 ∧ w1.heap.size ≤ w2.heap.size ∧ ∀ k, (Value.slice ab c.ts.length cb).ownBlock = some k → w2.heap.size ≤ k ∧ k < w3.heap.size) := ⟨q3.below b4, B3.trans (b4.mono B3.size), hs2, hu⟩
    have hq3 := q3.lt
    clear q3 B3 s4 b4 o3 D4 hw4 c2 HQ b3 hu
    unfold cpA
    go_wp2_with fail
    rw [← HW4.out]
    refine c4.mono ?_
    rintro e w5 ⟨rfl, D5, T5⟩
    clear c4 HW4
    have hn : w.heap.size + 1 ∉ (w3.heap.size :: (Value.slice ab c.ts.length cb).ownBlock.toList) := by
      intro h
      rcases List.mem_cons.1 h with h | h
      · omega
      · have := HQ4.out.2.2.2 _ (by simpa using h); omega
    have q5 := HQ4.out.1.turned T5 hn
    have B5 : Below w.heap.size w w5 := HQ4.out.2.1.trans (T5.belowAt (fun b hb => by
      rcases List.mem_cons.1 hb with h | h
      · omega
      · have := HQ4.out.2.2.2 _ (by simpa using h); omega) HQ4.out.2.1.size)
    have s5 := D5.st
    have ea : cpPut (cpA (.slice ab c.ts.length cb) c) 0 (c.next).di (c.next).wa = cpA (.slice ab c.ts.length cb) (c.next) := by
      unfold Cp.next
      split <;> rfl
    rw [ea] at s5
    have HO : Hid (Own w5 w.heap.size (.slice ab c.ts.length cb) (c.next).ts ∧ Below w.heap.size w w5 ∧ ∀ k, (Value.slice ab c.ts.length cb).ownBlock = some k → w.heap.size + 1 < k) := ⟨D5.own.up (fun k hk => by have := HQ4.out.2.2.2 k hk; omega), B5, fun k hk => by have := HQ4.out.2.2.2 k hk; omega⟩
    clear D5 T5 B5 HQ4 ea hn
    obtain ⟨m, hm⟩ : ∃ m, m = c.next := ⟨_, rfl⟩
    rw [← hm] at s5 HO
    have HM : Hid (m = c.next) := hm
    clear hm
    go_wp2_with (first | (refine wpList_getS Try.isCp rfl _ rfl w3.heap.size rfl (cpA (.slice ab c.ts.length cb) m) rfl s5 ?_) | (refine wpList_putS Try.isCp rfl _ _ rfl (w.heap.size + 1) (cpA (.slice ab c.ts.length cb) m) zeroCp rfl rfl rfl rfl (cpA_one _ rfl) q5 ?_; intro w8 s8 g8))
    refine bodyPost_ret (results_S2 Try.isCp rfl _ _ (w.heap.size + 1) _ _ rfl rfl rfl s8) rfl ?_
    exact ⟨.slice ab c.ts.length cb, by rw [HX.out, ← HM.out]; rfl, by rw [← HM.out]; exact HO.out.1.kept g8 (.inr (fun e => by have := HO.out.2.2 _ e; omega)), HO.out.2.1.grown g8 HO.out.2.1.size (fun k e => by cases e; omega)⟩

set_option maxRecDepth 20000 in
set_option maxHeartbeats 1000000 in
theorem sclean_any (v : Value) (c : Cp) (w : World) (hr : Reads w v c.ts) (hl : c.ts.length ≤ 1099511627776) :
    Calls Try.prog 37 #[CpV v c] w fun e w' => e = .returned (.bool c.clean) ∧ Below w.heap.size w w' := by
  have HE : Hid (c.clean = (c.ok && c.op && decide (c.di = 0) && decide (c.wa = 0))) := rfl
  obtain ⟨x, hx⟩ : ∃ x, x = c.clean := ⟨_, rfl⟩
  rw [← hx] at HE ⊢
  clear hx
  obtain ⟨w1, hw1⟩ : ∃ w1, w1 = w.alloc (.cells (cpA v c) 26) := ⟨_, rfl⟩
  have p0 : StB w1 w.heap.size 26 (cpA v c) := by rw [hw1]; exact StB.new w _ _
  have HB : Hid (Below w.heap.size w w1) := by rw [hw1]; exact (Below.refl _ _).alloc (Nat.le_refl _) _
  have c1 := scopok_any v c w1 (hr.below HB.out (Nat.le_refl _)) hl
  obtain ⟨ao, cap, rfl⟩ := reads_form hr
  have HW : Hid (w1 = w.alloc (.cells #[.int .i64 c.tr, .bool c.op, .int .i64 c.di, .int .i64 c.wa, .slice ao c.ts.length cap] 26)) := hw1
  have HP : Hid (StB w1 w.heap.size 26 (cpA (.slice ao c.ts.length cap) c)) := p0
  have k0 : w1.cell? ⟨w.heap.size, 0, none⟩ = some (.int .i64 c.tr) := p0.cell 0 rfl
  have k1 : w1.cell? ⟨w.heap.size, 1, none⟩ = some (.bool c.op) := p0.cell 1 rfl
  have k2 : w1.cell? ⟨w.heap.size, 2, none⟩ = some (.int .i64 c.di) := p0.cell 2 rfl
  have k3 : w1.cell? ⟨w.heap.size, 3, none⟩ = some (.int .i64 c.wa) := p0.cell 3 rfl
  have k4 : w1.cell? ⟨w.heap.size, 4, none⟩ = some (.slice ao c.ts.length cap) := p0.cell 4 rfl
  obtain ⟨b, hb⟩ : ∃ b, b = c.ok := ⟨_, rfl⟩
  rw [← hb] at c1 HE
  unfold CpV cpA at c1
  unfold CpV cpA
  clear hw1 hr hl p0 hb
  go_enter Try.func37, Try.ntmps37
  go_wp2_with fail
  rw [← HW.out]
  refine c1.mono ?_
  rintro e w2 ⟨rfl, b2⟩
  have p2 := HP.out.below b2
  have HB2 : Hid (Below w.heap.size w w2) := HB.out.trans (b2.mono HB.out.size)
  clear HW HP HB c1 k0 k1 k2 k3 k4 b2
  have k1 : w2.cell? ⟨w.heap.size, 1, none⟩ = some (.bool c.op) := p2.cell 1 rfl
  have k2 : w2.cell? ⟨w.heap.size, 2, none⟩ = some (.int .i64 c.di) := p2.cell 2 rfl
  have k3 : w2.cell? ⟨w.heap.size, 3, none⟩ = some (.int .i64 c.wa) := p2.cell 3 rfl
  clear p2
  obtain ⟨o, ho⟩ : ∃ o, o = c.op := ⟨_, rfl⟩
  rw [← ho] at k1 HE
  obtain ⟨d, hd⟩ : ∃ d, d = c.di := ⟨_, rfl⟩
  rw [← hd] at k2 HE
  obtain ⟨q, hq⟩ : ∃ q, q = c.wa := ⟨_, rfl⟩
  rw [← hq] at k3 HE
  clear ho hd hq
  cases b with
  | false =>
    have HX : Hid (x = false) := by rw [Hid, HE.out]; rfl
    go_wp2
    go_ret
    exact ⟨ret_bool HX.out.symm, HB2.out⟩
  | true =>
    cases o with
    | false =>
      have HX : Hid (x = false) := by rw [Hid, HE.out]; rfl
      go_wp2
      go_ret
      exact ⟨ret_bool HX.out.symm, HB2.out⟩
    | true =>
      by_cases h0 : d = 0
      · by_cases h1 : q = 0
        · have HX : Hid (x = true) := by rw [Hid, HE.out, h0, h1]; rfl
          subst h0 h1
          go_wp2
          go_ret
          exact ⟨ret_bool HX.out.symm, HB2.out⟩
        · have HX : Hid (x = false) := by rw [Hid, HE.out, decide_eq_false h1]; simp
          have h1' : (q == 0) = false := by simpa using h1
          subst h0
          clear h1
          go_wp2
          go_ret
          exact ⟨ret_bool HX.out.symm, HB2.out⟩
      · have HX : Hid (x = false) := by rw [Hid, HE.out, decide_eq_false h0]; simp
        have h0' : (d == 0) = false := by simpa using h0
        clear h0
        go_wp2
        go_ret
        exact ⟨ret_bool HX.out.symm, HB2.out⟩

end Go.Proofs.Ytelfpdjidppblaa
