/- What the laws on sets draw: a number for the set, one for the item, one for Full; whatever they are, nothing that was there is written. -/
import Derived.Test.YtdcdfhklnhaimaaDraw
namespace Go.Proofs.Ytdcdfhklnhaimaa
open Go.ChangeShapes Go.WideShapes Go.ChangeAt Go.RowKit

set_option maxRecDepth 20000 in
set_option maxHeartbeats 1000000 in
theorem drawItem_any (B c : Nat) (w : World) (h : Cur w B c) :
    Calls Try.prog 50 #[.pointer (some ⟨c, 0, none⟩)] w fun e w' => ∃ x, e = .returned (.int .i64 x) ∧ Cur w' B c ∧ w.grownBy w' (some c) := by
  go_enter Try.func50, Try.ntmps50
  go_wp2_with fail
  refine (once_any B c 10 _ h (by omega)).mono ?_
  rintro e w1 ⟨b, rfl, C1, G1⟩
  have hlt := C1.lt
  cases b with
  | true =>
    go_wp2_with fail
    refine (below_any B c 5 _ (C1.kept (World.grownBy_alloc w1 _ none) (by simp) (by simp)) (by omega)).mono ?_
    rintro e w2 ⟨x, rfl, hx0, hx1, hx2, C2, G2⟩
    have hx3 := hx1 (by omega)
    have hc := lit_kept G2 (by simp; omega)
    have H2 : Hid (Cur w2 B c ∧ w.grownBy w2 (some c)) := ⟨C2, G1.trans ((World.grownBy_alloc w1 _ _).trans G2)⟩
    clear hx1 hx2 C2 G2 C1 G1 h
    obtain rfl | rfl | rfl | rfl | rfl : x = 0 ∨ x = 1 ∨ x = 2 ∨ x = 3 ∨ x = 4 := by omega
    · have hc0 := hc 0
      clear hc
      simp at hc0
      go_wp2
      go_ret
      exact ⟨_, rfl, H2.out⟩
    · have hc0 := hc 1
      clear hc
      simp at hc0
      go_wp2
      go_ret
      exact ⟨_, rfl, H2.out⟩
    · have hc0 := hc 2
      clear hc
      simp at hc0
      go_wp2
      go_ret
      exact ⟨_, rfl, H2.out⟩
    · have hc0 := hc 3
      clear hc
      simp at hc0
      go_wp2
      go_ret
      exact ⟨_, rfl, H2.out⟩
    · have hc0 := hc 4
      clear hc
      simp at hc0
      go_wp2
      go_ret
      exact ⟨_, rfl, H2.out⟩
  | false =>
    go_wp2_with fail
    refine (below_any B c 8 _ C1 (by omega)).mono ?_
    rintro e w2 ⟨x, rfl, hx0, hx1, hx2, C2, G2⟩
    go_wp2
    go_ret
    exact ⟨_, rfl, C2, G1.trans G2⟩

/- From what is done to a cursor's own block: nothing below it has turned. -/
theorem below_of_cur {w w1 w2 : World} {c : Nat} (h1 : w.grownBy w1 none) (hc : w.heap.size ≤ c) (h2 : w1.grownBy w2 (some c)) : Below w.heap.size w w2 :=
  ((Below.refl _ w).grown h1 (Nat.le_refl _) (by simp)).grown h2 h1.size (fun k e => by simp at e; omega)
end Go.Proofs.Ytdcdfhklnhaimaa
