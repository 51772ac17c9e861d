/- The key of one, as the program asks it of its row: keyOf. -/
import Derived.Test.YtifffiekibdgnaaDoorIKeys2
namespace Go.Proofs.YtifffiekibdgnaaDoor
open Go.ChangeShapes Go.WideShapes Go.ChangeAt Go.RowKit

def keyF (f : Nat → Int) (i : Int) : Int := if inI i 0 3 then f i.toNat else 0
set_option maxRecDepth 20000 in
set_option maxHeartbeats 400000 in
theorem ikeyof_any (f : Nat → Int) (i : Int) (w : World) :
    Calls Tryd.prog 28 #[.agg (kA f), .int .i64 i] w fun e w' => e = .returned (.int .i64 (keyF f i)) ∧ Below w.heap.size w w' := by
  have b1 : Below w.heap.size w (w.alloc (.cells (kA f) 39)) := (Below.refl _ _).alloc (Nat.le_refl _) _
  have H1 : StB (w.alloc (.cells (kA f) 39)) w.heap.size 39 (kA f) := StB.new _ _ _
  have c1 := fun wx => iperson_any i wx
  by_cases h : 0 ≤ i ∧ i < 4
  · have hin : inI i 0 3 = true := by simp [inI]; omega
    have HK : Hid (keyF f i = f i.toNat) := by simp [Hid, keyF, hin]
    simp only [hin] at c1
    obtain ⟨j, hj, hj4⟩ : ∃ j : Nat, i = (j : Int) ∧ j < 4 := ⟨i.toNat, by omega, by omega⟩
    subst hj
    obtain ⟨y, hy⟩ : ∃ y, y = f j := ⟨_, rfl⟩
    have hc : (w.alloc (.cells (kA f) 39)).cell? ⟨w.heap.size, j, none⟩ = some (.int .i64 y) := by
      rw [hy]; exact H1.cell j (kA_at f j hj4)
    have HY : Hid (y = keyF f j) := by rw [Hid, HK.out, hy]; rfl
    rw [← HY.out]
    have hl : (j : Int) < 4 := by omega
    clear hin hy h H1
    unfold kA at *
    go_enter Tryd.func28, Tryd.ntmps28
    go_wp2_with (first | (go_at_call 51; refine (c1 _).mono ?_; rintro e w' ⟨rfl, hw⟩; subst w'))
    go_ret
    exact ⟨rfl, b1⟩
  · have hin : inI i 0 3 = false := by simp [inI]; omega
    have HK : keyF f i = 0 := by simp [keyF, hin]
    rw [HK]
    simp only [hin] at c1
    clear h hin H1 HK
    unfold kA at *
    go_enter Tryd.func28, Tryd.ntmps28
    go_wp2_with (first | (go_at_call 51; refine (c1 _).mono ?_; rintro e w' ⟨rfl, hw⟩; subst w'))
    go_ret
    exact ⟨rfl, b1⟩
end Go.Proofs.YtifffiekibdgnaaDoor
