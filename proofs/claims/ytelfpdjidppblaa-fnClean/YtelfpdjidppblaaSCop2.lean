/- Copiers by the model: l13Copy, l13Has, and the hands on one that lies behind a pointer: l13Mark, l13Next, l13Ack, l13Again. -/
import Derived.Test.YtelfpdjidppblaaSCop
namespace Go.Proofs.Ytelfpdjidppblaa
open Go.ChangeShapes Go.WideShapes Go.ChangeAt Go.RowKit

set_option maxRecDepth 20000 in
set_option maxHeartbeats 2000000 in
theorem scopyC_any (v : Value) (c : Cp) (w : World) (hr : Reads w v c.ts) (hl : c.ts.length ≤ 1099511627776) :
    Calls Try.prog 64 #[CpV v c] w fun e w' => ∃ u, e = .returned (CpV u c) ∧ Own w' w.heap.size u c.ts ∧ Below w.heap.size w w' := by
  obtain ⟨w1, hw1⟩ : ∃ w1, w1 = (w.alloc (.cells (cpA v c) 26)).alloc (.cells zeroCp 26) := ⟨_, rfl⟩
  have p0 : StB w1 w.heap.size 26 (cpA v c) := by rw [hw1]; exact (StB.new w _ _).alloc _
  have q0 : StB w1 (w.heap.size + 1) 26 zeroCp := by
    rw [hw1]
    have := StB.new (w.alloc (.cells (cpA v c) 26)) 26 zeroCp
    rwa [World.size_alloc] at this
  have b1 : Below w.heap.size w w1 := by rw [hw1]; exact ((Below.refl _ _).alloc (Nat.le_refl _) _).alloc (by simp) _
  have c1 := copy_any v c.ts w1 (hr.below b1 (Nat.le_refl _)) hl
  have hs1 := q0.lt
  obtain ⟨ao, cap, rfl⟩ := reads_form hr
  have HW : Hid (w1 = (w.alloc (.cells #[.int .i64 c.tr, .bool c.op, .int .i64 c.di, .int .i64 c.wa, .slice ao c.ts.length cap] 26)).alloc (.cells #[.int .i64 0, .bool false, .int .i64 0, .int .i64 0, .slice none 0 0] 26)) := hw1
  have k4 : w1.cell? ⟨w.heap.size, 4, none⟩ = some (.slice ao c.ts.length cap) := p0.cell 4 rfl
  clear hw1 hr hl
  unfold CpV cpA
  go_enter Try.func64, Try.ntmps64
  go_wp2_with fail
  rw [← HW.out]
  clear HW
  refine c1.mono ?_
  rintro e w3 ⟨u, rfl, o3, b3⟩
  replace p0 := p0.below b3
  replace q0 := q0.below b3
  have B3 := b1.trans (b3.mono b1.size)
  obtain ⟨ab, cb, rfl⟩ := reads_form o3.reads
  have k0 : w3.cell? ⟨w.heap.size, 4, none⟩ = some (.slice ao c.ts.length cap) := p0.cell 4 rfl
  have f0 := p0.frozen 4
  have r4 := p0.put 4 (.slice ab c.ts.length cb) (ds := cpA (.slice ab c.ts.length cb) c) rfl
  have q4 := q0.other ⟨w.heap.size, 4, none⟩ (.slice ab c.ts.length cb) (by simp)
  have HP : Hid (Own (w3.setCell ⟨w.heap.size, 4, none⟩ (.slice ab c.ts.length cb)) w1.heap.size (.slice ab c.ts.length cb) c.ts ∧ Below w.heap.size w (w3.setCell ⟨w.heap.size, 4, none⟩ (.slice ab c.ts.length cb))) := ⟨o3.setLt (by omega) 4 _, B3.setCell (Nat.le_refl _) _⟩
  clear k4 p0 q0 c1 o3 b3 b1 B3
  go_upto_region 2 with fail
  obtain ⟨w4, hw4⟩ : ∃ w4, w4 = w3.setCell ⟨w.heap.size, 4, none⟩ (.slice ab c.ts.length cb) := ⟨_, rfl⟩
  rw [← hw4] at r4 q4 HP ⊢
  clear hw4 k0 f0
  go_wp2_with (first | (refine wpList_getS Try.isCp rfl _ rfl w.heap.size rfl (cpA (.slice ab c.ts.length cb) c) rfl r4 ?_) | (refine wpList_putS Try.isCp rfl _ _ rfl (w.heap.size + 1) (cpA (.slice ab c.ts.length cb) c) zeroCp rfl rfl rfl rfl (cpA_one c rfl) q4 ?_; intro w8 s8 g8))
  refine bodyPost_ret (results_S Try.isCp rfl _ _ (w.heap.size + 1) _ rfl rfl s8) rfl ?_
  exact ⟨_, rfl, (HP.out.1.keptLt g8 (by omega)).mono (by omega), HP.out.2.grown g8 HP.out.2.size (fun k e => by cases e; omega)⟩

set_option maxRecDepth 20000 in
set_option maxHeartbeats 1000000 in
theorem shas_any (v : Value) (c : Cp) (i : Int) (w : World) (hr : Reads w v c.ts) :
    Calls Try.prog 55 #[CpV v c, .int .i64 i] w fun e w' => e = .returned (.bool (c.has i)) ∧ Below w.heap.size w w' := by
  have HE : Hid (c.has i = (decide (0 ≤ i) && decide (i < (c.ts.length : Int)))) := rfl
  obtain ⟨ao, cap, rfl⟩ := reads_form hr
  obtain ⟨x, hx⟩ : ∃ x, x = c.has i := ⟨_, rfl⟩
  rw [← hx] at HE ⊢
  unfold CpV cpA
  clear hr hx
  by_cases h0 : 0 ≤ i
  · by_cases h1 : i < (c.ts.length : Int)
    · go_enter Try.func55, Try.ntmps55
      go_wp2
      go_ret
      exact ⟨ret_bool (by rw [HE.out]; simp [h0, h1]), (Below.refl _ _).alloc (Nat.le_refl _) _⟩
    · go_enter Try.func55, Try.ntmps55
      go_wp2
      go_ret
      exact ⟨ret_bool (by rw [HE.out]; simp [h1]), (Below.refl _ _).alloc (Nat.le_refl _) _⟩
  · have HF : Hid (x = false) := by rw [Hid, HE.out]; simp [h0]
    go_enter Try.func55, Try.ntmps55
    go_wp2
    go_ret
    exact ⟨ret_bool (by rw [HF.out]), (Below.refl _ _).alloc (Nat.le_refl _) _⟩
end Go.Proofs.Ytelfpdjidppblaa
