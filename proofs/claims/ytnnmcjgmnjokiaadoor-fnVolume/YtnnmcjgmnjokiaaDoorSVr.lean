/- The model's commands that read and those that write: Reads, Writes. -/
import Derived.Test.YtnnmcjgmnjokiaaDoorCmOk
import Derived.Test.YtnnmcjgmnjokiaaDoorRw
namespace Go.Proofs.YtnnmcjgmnjokiaaDoor
open Go.ChangeShapes Go.WideShapes Go.ChangeAt Go.RowKit

set_option maxRecDepth 20000 in
set_option maxHeartbeats 1000000 in
theorem sreads_any (c : Cm) (w : World) :
    Calls Tryd.prog 11 #[CV c] w fun e w' => e = .returned (.bool c.rd) ∧ Below w.heap.size w w' := by
  have c1 := fun wx => scmdok_any c wx
  have HC : Hid (c.rd = (c.ok && decide (c.o = 1))) := rfl
  obtain ⟨b1, h1⟩ : ∃ b1, b1 = c.ok := ⟨_, rfl⟩
  rw [← h1] at HC
  simp only [← h1] at c1
  clear h1
  have hb : Below w.heap.size w (w.alloc (.cells (cmA c) 28)) := (Below.refl _ _).alloc (Nat.le_refl _) _
  have hq : CmB (w.alloc (.cells (cmA c) 28)) w.heap.size 28 c := CmB.new _ _ _
  unfold CV at *
  unfold cmA at c1 hb ⊢
  unfold cmA at hq
  go_enter Tryd.func11, Tryd.ntmps11
  go_wp2_with fail
  refine (c1 _).mono ?_
  rintro e w1 ⟨rfl, b3⟩
  have hc0 : w1.cell? ⟨w.heap.size, 0, none⟩ = some (.int .i64 c.o) := (hq.below b3).cell 0 rfl
  have B1 : Hid (Below w.heap.size w w1) := hb.trans (b3.mono hb.size)
  clear b3 hb c1 hq
  cases b1 with
  | false =>
    go_wp2_with fail
    go_ret
    rw [HC.out]
    exact ⟨rfl, B1.out⟩
  | true =>
    by_cases h : c.o = 1
    · have he : (c.o == 1) = true := by simpa using h
      have HD : Hid (decide (c.o = 1) = true) := by simpa [Hid] using h
      clear h
      go_wp2_with fail
      go_ret
      rw [HC.out, HD.out]
      exact ⟨ret_bool (by simp), B1.out⟩
    · have he : (c.o == 1) = false := by simpa using h
      have HD : Hid (decide (c.o = 1) = false) := by simpa [Hid] using h
      clear h
      go_wp2_with fail
      go_ret
      rw [HC.out, HD.out]
      exact ⟨ret_bool (by simp), B1.out⟩

set_option maxRecDepth 20000 in
set_option maxHeartbeats 1000000 in
theorem swrites_any (c : Cm) (w : World) :
    Calls Tryd.prog 13 #[CV c] w fun e w' => e = .returned (.bool c.wr) ∧ Below w.heap.size w w' := by
  have c1 := fun wx => scmdok_any c wx
  have c2 := fun wx => sin6_any c.o 2 5 wx
  have hch : c.wr = (c.ok && inI c.o 2 5) := rfl
  rw [hch]
  clear hch
  obtain ⟨b1, h1⟩ : ∃ b1, b1 = c.ok := ⟨_, rfl⟩
  obtain ⟨b2, h2⟩ : ∃ b2, b2 = inI c.o 2 5 := ⟨_, rfl⟩
  simp only [← h1] at c1 ⊢
  simp only [← h2] at c2 ⊢
  clear h1 h2
  have hb : Below w.heap.size w (w.alloc (.cells (cmA c) 28)) := (Below.refl _ _).alloc (Nat.le_refl _) _
  have hq : CmB (w.alloc (.cells (cmA c) 28)) w.heap.size 28 c := CmB.new _ _ _
  unfold CV at *
  unfold cmA at c1 hb ⊢
  unfold cmA at hq
  go_enter Tryd.func13, Tryd.ntmps13
  go_wp2_with fail
  refine (c1 _).mono ?_
  rintro e w1 ⟨rfl, b3⟩
  have hc0 : w1.cell? ⟨w.heap.size, 0, none⟩ = some (.int .i64 c.o) := (hq.below b3).cell 0 rfl
  have B1 := hb.trans (b3.mono hb.size)
  clear b3 hb c1 hq
  cases b1 with
  | false =>
    go_wp2_with fail
    go_ret
    exact ⟨rfl, B1⟩
  | true =>
    go_wp2_with fail
    refine (c2 _).mono ?_
    rintro e w' ⟨rfl, hw⟩; subst w'
    go_wp2_with fail
    go_ret
    exact ⟨rfl, B1⟩
end Go.Proofs.YtnnmcjgmnjokiaaDoor
