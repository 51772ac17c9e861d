/- The program's commands that read and those that write: Reads, Writes. -/
import Derived.Test.YtnnmcjgmnjokiaaICmOk
import Derived.Test.YtnnmcjgmnjokiaaRw
namespace Go.Proofs.Ytnnmcjgmnjokiaa
open Go.ChangeShapes Go.WideShapes Go.ChangeAt Go.RowKit

set_option maxRecDepth 20000 in
set_option maxHeartbeats 1000000 in
theorem ireads_any (c : Cm) (w : World) :
    Calls Try.prog 7 #[CV c] w fun e w' => e = .returned (.bool c.rd) ∧ Below w.heap.size w w' := by
  have c1 := fun wx => icmdok_any c wx
  have b0 : Below w.heap.size w (w.alloc (.cells (cmA c) 25)) := (Below.refl _ _).alloc (Nat.le_refl _) _
  have P0 := CmB.new w 25 c
  have HE : Hid (c.rd = (c.ok && decide (c.o = 1))) := rfl
  obtain ⟨x, hx⟩ : ∃ x, x = c.rd := ⟨_, rfl⟩
  rw [← hx] at HE ⊢
  obtain ⟨b, hb⟩ : ∃ b, b = c.ok := ⟨_, rfl⟩
  rw [← hb] at HE
  simp only [← hb] at c1
  clear hx hb
  unfold CV cmA at *
  go_enter Try.func7, Try.ntmps7
  go_wp2_with fail
  refine (c1 _).mono ?_
  rintro e w1 ⟨rfl, b1⟩
  have P1 : CmB w1 w.heap.size 25 c := CmB.below (c := c) P0 b1
  have B1 := b0.trans (b1.mono b0.size)
  have k0 : w1.cell? ⟨w.heap.size, 0, none⟩ = some (.int .i64 c.o) := P1.cell 0 rfl
  clear b1 b0 P0 c1
  cases b with
  | false =>
    go_wp2
    go_ret
    exact ⟨ret_bool (by rw [HE.out]; rfl), B1⟩
  | true =>
    by_cases h2 : c.o = 1
    · go_wp2
      go_ret
      exact ⟨ret_bool (by rw [HE.out]; simp [h2]), B1⟩
    · go_wp2
      go_ret
      exact ⟨ret_bool (by rw [HE.out]; simp [h2]), B1⟩

theorem wr_chg (c : Cm) : c.wr = (c.chg || (c.ok && decide (c.o = 5))) := by
  have e : c.chg = (c.ok && inI c.o 2 4) := rfl
  unfold Cm.wr
  rw [e]
  cases c.ok
  · rfl
  · rw [Bool.eq_iff_iff]
    simp only [Bool.true_and, Bool.or_eq_true, inI_iff, decide_eq_true_eq]
    omega

set_option maxRecDepth 20000 in
set_option maxHeartbeats 1000000 in
theorem iwrites_any (c : Cm) (w : World) :
    Calls Try.prog 9 #[CV c] w fun e w' => e = .returned (.bool c.wr) ∧ Below w.heap.size w w' := by
  have c1 := fun wx => icmdok_any c wx
  have c0 := fun wx => ichg_any c wx
  have b0 : Below w.heap.size w (w.alloc (.cells (cmA c) 25)) := (Below.refl _ _).alloc (Nat.le_refl _) _
  have P0 := CmB.new w 25 c
  have HE : Hid (c.wr = (c.chg || (c.ok && decide (c.o = 5)))) := wr_chg c
  obtain ⟨x, hx⟩ : ∃ x, x = c.wr := ⟨_, rfl⟩
  rw [← hx] at HE ⊢
  obtain ⟨b, hb⟩ : ∃ b, b = c.ok := ⟨_, rfl⟩
  obtain ⟨g, hg⟩ : ∃ g, g = c.chg := ⟨_, rfl⟩
  rw [← hb, ← hg] at HE
  simp only [← hb] at c1
  simp only [← hg] at c0
  clear hx hb hg
  have C1 : Hid _ := c1
  clear c1
  unfold CV cmA at *
  go_enter Try.func9, Try.ntmps9
  go_wp2_with fail
  refine (c0 _).mono ?_
  rintro e w1 ⟨rfl, b1⟩
  have P1 : CmB w1 w.heap.size 25 c := CmB.below (c := c) P0 b1
  have B1 := b0.trans (b1.mono b0.size)
  have k0 : w1.cell? ⟨w.heap.size, 0, none⟩ = some (.int .i64 c.o) := P1.cell 0 rfl
  have k1 : w1.cell? ⟨w.heap.size, 1, none⟩ = some (.int .i64 c.p) := P1.cell 1 rfl
  have k2 : w1.cell? ⟨w.heap.size, 2, none⟩ = some (.int .i64 c.a) := P1.cell 2 rfl
  have k3 : w1.cell? ⟨w.heap.size, 3, none⟩ = some (.int .i64 c.b) := P1.cell 3 rfl
  have k4 : w1.cell? ⟨w.heap.size, 4, none⟩ = some (.int .i64 c.k) := P1.cell 4 rfl
  clear b1 b0 P0 c0
  cases g with
  | true =>
    go_wp2
    go_ret
    exact ⟨ret_bool (by rw [HE.out]; rfl), B1⟩
  | false =>
    go_wp2_with fail
    refine (C1.out _).mono ?_
    rintro e w2 ⟨rfl, b2⟩
    have B2 := B1.trans (b2.mono B1.size)
    have P2 : CmB w2 w.heap.size 25 c := CmB.below (c := c) P1 b2
    have m0 : w2.cell? ⟨w.heap.size, 0, none⟩ = some (.int .i64 c.o) := P2.cell 0 rfl
    clear b2 k0 k1 k2 k3 k4 P1 B1
    cases b with
    | false =>
      go_wp2
      go_ret
      exact ⟨ret_bool (by rw [HE.out]; rfl), B2⟩
    | true =>
      by_cases h2 : c.o = 5
      · go_wp2
        go_ret
        exact ⟨ret_bool (by rw [HE.out]; simp [h2]), B2⟩
      · go_wp2
        go_ret
        exact ⟨ret_bool (by rw [HE.out]; simp [h2]), B2⟩
end Go.Proofs.Ytnnmcjgmnjokiaa
