/- How the laws take a copier over, compare two, mark one and look at the marks. -/
import Derived.Test.YtelfpdjidppblaaSCop
import Derived.Test.YtelfpdjidppblaaM4
namespace Go.Proofs.Ytelfpdjidppblaa
open Go.ChangeShapes Go.WideShapes Go.ChangeAt Go.RowKit

theorem Try.isLCp : IsS 45 5 := ⟨⟨_, Try.underlying45⟩, by kernel_rfl⟩

set_option maxRecDepth 20000 in
set_option maxHeartbeats 1000000 in
theorem szCopier_any (v : Value) (c : Cp) (k : Int) (w : World) (hr : Reads w v c.ts) (h0 : 0 ≤ k) (h1 : k ≤ 1048576) :
    Calls Try.prog 39 #[CpV v c, .int .i64 k] w fun e w' => e = .returned (.int .i64 (szI k c.ts.length)) ∧ Below w.heap.size w w' := by
  have B1 : Below w.heap.size w (w.alloc (.cells (cpA v c) 45)) := (Below.refl _ _).alloc (Nat.le_refl _) _
  have c1 := sz_any v c.ts k _ (hr.below B1 (Nat.le_refl _)) h0 h1
  have hs : szI k c.ts.length = -1 ∨ 0 ≤ szI k c.ts.length := by unfold szI; split <;> omega
  obtain ⟨x, hx⟩ : ∃ x, x = szI k c.ts.length := ⟨_, rfl⟩
  rw [← hx] at c1 hs ⊢
  obtain ⟨ao, cap, rfl⟩ := reads_form hr
  clear hx hr
  unfold CpV cpA at *
  rcases hs with hs | hs
  · subst hs
    go_enter Try.func39, Try.ntmps39
    go_wp2_with fail
    refine c1.mono ?_
    rintro e w' ⟨rfl, hw⟩; subst w'
    go_wp2
    go_ret
    exact ⟨rfl, B1⟩
  · go_enter Try.func39, Try.ntmps39
    go_wp2_with fail
    refine c1.mono ?_
    rintro e w' ⟨rfl, hw⟩; subst w'
    go_wp2
    go_ret
    exact ⟨rfl, B1⟩

set_option maxRecDepth 20000 in
set_option maxHeartbeats 2000000 in
theorem toCopier_any (v : Value) (c : Cp) (w : World) (hr : Reads w v c.ts) (hl : c.ts.length ≤ 1099511627776) :
    Calls Try.prog 40 #[CpV v c] w fun e w' => ∃ u, e = .returned (CpV u c) ∧ Own w' w.heap.size u c.ts ∧ Below w.heap.size w w' := by
  obtain ⟨w1, hw1⟩ : ∃ w1, w1 = ((w.alloc (.cells (cpA v c) 45)).alloc (.cells zeroCp 26)).alloc (.cells #[.int .i64 c.tr, .bool c.op, .int .i64 c.di, .int .i64 c.wa, .slice none 0 0] 26) := ⟨_, rfl⟩
  have q0 : StB w1 (w.heap.size + 1) 26 zeroCp := by
    rw [hw1]
    have := (StB.new (w.alloc (.cells (cpA v c) 45)) 26 zeroCp).alloc (.cells #[.int .i64 c.tr, .bool c.op, .int .i64 c.di, .int .i64 c.wa, .slice none 0 0] 26)
    rwa [World.size_alloc] at this
  have r0 : StB w1 (w.heap.size + 1 + 1) 26 #[.int .i64 c.tr, .bool c.op, .int .i64 c.di, .int .i64 c.wa, .slice none 0 0] := by
    rw [hw1]
    have := StB.new ((w.alloc (.cells (cpA v c) 45)).alloc (.cells zeroCp 26)) 26 #[.int .i64 c.tr, .bool c.op, .int .i64 c.di, .int .i64 c.wa, .slice none 0 0]
    rwa [World.size_alloc, World.size_alloc] at this
  have b1 : Below w.heap.size w w1 := by rw [hw1]; exact (((Below.refl _ _).alloc (Nat.le_refl _) _).alloc (by simp) _).alloc (by simp; omega) _
  have c1 := to_any v c.ts w1 (hr.below b1 (Nat.le_refl _)) hl
  have hs1 := r0.lt
  obtain ⟨ao, cap, rfl⟩ := reads_form hr
  have HW : Hid (w1 = ((w.alloc (.cells #[.int .i64 c.tr, .bool c.op, .int .i64 c.di, .int .i64 c.wa, .slice ao c.ts.length cap] 45)).alloc (.cells #[.int .i64 0, .bool false, .int .i64 0, .int .i64 0, .slice none 0 0] 26)).alloc (.cells #[.int .i64 c.tr, .bool c.op, .int .i64 c.di, .int .i64 c.wa, .slice none 0 0] 26)) := hw1
  clear hw1 hr hl
  unfold CpV
  conv in cpA (.slice ao c.ts.length cap) c => unfold cpA
  go_enter Try.func40, Try.ntmps40
  go_wp2_with fail
  rw [← HW.out]
  clear HW
  refine c1.mono ?_
  rintro e w3 ⟨u, rfl, o3, b3⟩
  replace q0 := q0.below b3
  replace r0 := r0.below b3
  have B3 := b1.trans (b3.mono b1.size)
  obtain ⟨ab, cb, rfl⟩ := reads_form o3.reads
  have m4 : w3.cell? ⟨w.heap.size + 1 + 1, 4, none⟩ = some (.slice none 0 0) := r0.cell 4 rfl
  have f4 := r0.frozen 4
  have R4 := r0.put 4 (.slice ab c.ts.length cb) (ds := cpA (.slice ab c.ts.length cb) c) rfl
  have Q4 := q0.other ⟨w.heap.size + 1 + 1, 4, none⟩ (.slice ab c.ts.length cb) (by simp)
  have HP : Hid (Own (w3.setCell ⟨w.heap.size + 1 + 1, 4, none⟩ (.slice ab c.ts.length cb)) w1.heap.size (.slice ab c.ts.length cb) c.ts ∧ Below w.heap.size w (w3.setCell ⟨w.heap.size + 1 + 1, 4, none⟩ (.slice ab c.ts.length cb))) := ⟨o3.setLt (by omega) 4 _, B3.setCell (by simp; omega) _⟩
  clear q0 r0 c1 o3 b3 b1 B3
  go_upto_region 7 with fail
  obtain ⟨w4, hw4⟩ : ∃ w4, w4 = w3.setCell ⟨w.heap.size + 1 + 1, 4, none⟩ (.slice ab c.ts.length cb) := ⟨_, rfl⟩
  rw [← hw4] at R4 Q4 HP ⊢
  clear hw4 m4 f4
  go_wp2_with (first | (refine wpList_getS Try.isCp rfl _ rfl (w.heap.size + 1 + 1) rfl (cpA (.slice ab c.ts.length cb) c) rfl R4 ?_) | (refine wpList_putS Try.isCp rfl _ _ rfl (w.heap.size + 1) (cpA (.slice ab c.ts.length cb) c) zeroCp rfl rfl rfl rfl (cpA_one c rfl) Q4 ?_; intro w8 s8 g8))
  refine bodyPost_ret (results_S Try.isCp rfl _ _ (w.heap.size + 1) _ rfl rfl s8) rfl ?_
  exact ⟨_, rfl, (HP.out.1.keptLt g8 (by omega)).mono (by omega), HP.out.2.grown g8 HP.out.2.size (fun k e => by cases e; omega)⟩

set_option maxRecDepth 20000 in
set_option maxHeartbeats 1000000 in
theorem eqCopier_any (u v : Value) (c : Cp) (w : World) (hu : Reads w u c.ts) (hv : Reads w v c.ts) (hl : c.ts.length ≤ 1099511627776) :
    Calls Try.prog 41 #[CpV u c, CpV v c] w fun e w' => e = .returned (.bool true) ∧ Below w.heap.size w w' := by
  obtain ⟨w1, hw1⟩ : ∃ w1, w1 = (w.alloc (.cells (cpA u c) 26)).alloc (.cells (cpA v c) 26) := ⟨_, rfl⟩
  have HB : Hid (Below w.heap.size w w1) := by rw [hw1]; exact ((Below.refl _ _).alloc (Nat.le_refl _) _).alloc (by simp) _
  have c1 := eq_any u v c.ts c.ts w1 (hu.below HB.out (Nat.le_refl _)) (hv.below HB.out (Nat.le_refl _)) hl
  rw [show decide (c.ts = c.ts) = true by simp] at c1
  obtain ⟨ao, ca, rfl⟩ := reads_form hu
  obtain ⟨bo, cb, rfl⟩ := reads_form hv
  have HW : Hid (w1 = (w.alloc (.cells #[.int .i64 c.tr, .bool c.op, .int .i64 c.di, .int .i64 c.wa, .slice ao c.ts.length ca] 26)).alloc (.cells #[.int .i64 c.tr, .bool c.op, .int .i64 c.di, .int .i64 c.wa, .slice bo c.ts.length cb] 26)) := hw1
  clear hw1 hu hv hl
  unfold CpV cpA
  go_enter Try.func41, Try.ntmps41
  go_wp2_with fail
  rw [← HW.out]
  clear HW
  refine c1.mono ?_
  rintro e w3 ⟨rfl, n3, hw3⟩
  have B3 : Hid (Below w.heap.size w w3) := by rw [hw3]; exact below_drewN HB.out n3
  clear hw3 c1 HB
  go_wp2
  go_ret
  exact ⟨rfl, B3.out⟩

set_option maxRecDepth 20000 in
set_option maxHeartbeats 1000000 in
theorem likeC_any (u v : Value) (c : Cp) (w : World) (hu : Reads w u c.ts) (hv : Reads w v c.ts) (hl : c.ts.length ≤ 1099511627776) :
    Calls Try.prog 20 #[CpV u c, CpV v c] w fun e w' => e = .returned (.bool true) ∧ Below w.heap.size w w' := by
  obtain ⟨w1, hw1⟩ : ∃ w1, w1 = (w.alloc (.cells (cpA u c) 26)).alloc (.cells (cpA v c) 26) := ⟨_, rfl⟩
  have HB : Hid (Below w.heap.size w w1) := by rw [hw1]; exact ((Below.refl _ _).alloc (Nat.le_refl _) _).alloc (by simp) _
  have c1 := like_any u v c.ts c.ts w1 (hu.below HB.out (Nat.le_refl _)) (hv.below HB.out (Nat.le_refl _)) hl
  rw [show decide (c.ts = c.ts) = true by simp] at c1
  obtain ⟨ao, ca, rfl⟩ := reads_form hu
  obtain ⟨bo, cb, rfl⟩ := reads_form hv
  have HW : Hid (w1 = (w.alloc (.cells #[.int .i64 c.tr, .bool c.op, .int .i64 c.di, .int .i64 c.wa, .slice ao c.ts.length ca] 26)).alloc (.cells #[.int .i64 c.tr, .bool c.op, .int .i64 c.di, .int .i64 c.wa, .slice bo c.ts.length cb] 26)) := hw1
  have e1 : ∀ x : Int, (x == x) = true := by simp
  have e2 : ∀ x : Bool, (x == x) = true := by simp
  clear hw1 hu hv hl
  unfold CpV cpA
  go_enter Try.func20, Try.ntmps20
  go_wp2_with fail
  rw [← HW.out]
  clear HW
  refine c1.mono ?_
  rintro e w3 ⟨rfl, n3, hw3⟩
  have B3 : Hid (Below w.heap.size w w3) := by rw [hw3]; exact below_drewN HB.out n3
  clear hw3 c1 HB
  go_wp2
  go_ret
  exact ⟨rfl, B3.out⟩

set_option maxRecDepth 20000 in
set_option maxHeartbeats 1000000 in
theorem markCopier_any (v : Value) (c : Cp) (k : Int) (w : World) (base : Nat) (ho : Own w base v c.ts) (hl : c.ts.length ≤ 1048576) (h0 : 0 ≤ k) (h1 : k ≤ 4194304) :
    Calls Try.prog 42 #[CpV v c, .int .i64 k] w fun e w' => e = .returned (.int .i64 (k + c.ts.length)) ∧ Own w' base v (marks k c.ts.length) ∧ w.grownBy w' v.ownBlock := by
  have B1 : Below w.heap.size w (w.alloc (.cells (cpA v c) 26)) := (Below.refl _ _).alloc (Nat.le_refl _) _
  have G1 : w.grownBy (w.alloc (.cells (cpA v c) 26)) v.ownBlock := World.grownBy_alloc w _ _
  have c1 := mark_any v c.ts k _ base (ho.below B1) (by omega) h0 (by omega)
  obtain ⟨ao, cap, rfl⟩ := reads_form ho.reads
  have hl' : (c.ts.length : Int) ≤ 1048576 := by omega
  clear ho hl
  unfold CpV cpA at *
  go_enter Try.func42, Try.ntmps42
  go_wp2_with fail
  refine c1.mono ?_
  rintro e w2 ⟨rfl, o2, g2⟩
  have HC : Hid (Own w2 base (.slice ao c.ts.length cap) (marks k c.ts.length) ∧ w.grownBy w2 (Value.slice ao c.ts.length cap).ownBlock) := ⟨o2, G1.trans g2⟩
  clear o2 g2 G1 B1 c1
  go_wp2
  go_ret
  exact ⟨rfl, HC.out⟩

set_option maxRecDepth 20000 in
set_option maxHeartbeats 1000000 in
theorem heldCopier_any (v : Value) (c : Cp) (n : Nat) (k : Int) (w : World) (hn : n = c.ts.length) (hr : Reads w v (marks k n)) (hl : n ≤ 1048576) (h0 : 0 ≤ k) (h1 : k ≤ 4194304) :
    Calls Try.prog 43 #[CpV v c, .int .i64 k] w fun e w' => e = .returned (.int .i64 (k + n)) ∧ Below w.heap.size w w' := by
  have B1 : Below w.heap.size w (w.alloc (.cells (cpA v c) 26)) := (Below.refl _ _).alloc (Nat.le_refl _) _
  have c1 := held_marks v n k _ (hr.below B1 (Nat.le_refl _)) (by omega) h0 (by omega)
  obtain ⟨ao, cap, rfl⟩ := reads_form hr
  have hl' : (n : Int) ≤ 1048576 := by omega
  clear hr hl hn
  unfold CpV cpA at *
  go_enter Try.func43, Try.ntmps43
  go_wp2_with fail
  refine c1.mono ?_
  rintro e w' ⟨rfl, hw⟩; subst w'
  go_wp2
  go_ret
  exact ⟨rfl, B1⟩
end Go.Proofs.Ytelfpdjidppblaa
