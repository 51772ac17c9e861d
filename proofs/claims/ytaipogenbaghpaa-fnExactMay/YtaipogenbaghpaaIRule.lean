/- Bars and Allowed by the program. -/
import Derived.Test.YtaipogenbaghpaaITab
namespace Go.Proofs.Ytaipogenbaghpaa
open Go.ChangeShapes Go.WideShapes Go.ChangeAt Go.RowKit

theorem barsI_tab (k : Int) (b : Bool) : barsI k b = tabI (heldI k) (whatI k) b false := by
  rcases kinds k with h | h | h | h | h | h | h | ⟨hk, h0, h1, h2, h3, h4, h5, h6⟩
  all_goals first | (subst h; cases b <;> rfl) | (rw [none_bars k b hk, show heldI k = 0 by simp [heldI, h1, h2, h3, h4, h5, h6]]; rfl)
theorem mayI_tab (k : Int) (b r : Bool) (hk : kiI k = true) : mayI k b false r = !tabI (heldI k) (whatI k) b r := by
  rcases kinds k with h | h | h | h | h | h | h | ⟨hn, h0, h1, h2, h3, h4, h5, h6⟩
  all_goals first | (rw [hk] at hn; cases hn) | (subst h; first | (cases b <;> cases r <;> rfl) | (exact absurd hk (by decide)))

set_option maxRecDepth 20000 in
set_option maxHeartbeats 1000000 in
theorem imay_any (k : Int) (b h r : Bool) (w : World) :
    Calls Try.prog 33 #[.int .i64 k, .bool b, .bool h, .bool r] w fun e w' => e = .returned (.bool (mayI k b h r)) ∧ Below w.heap.size w w' := by
  have c1 := ikind_any k w
  have c2 := fun wx => ibarred_any k wx
  by_cases h0 : k = 0
  · have hx : mayI k b h r = true := by rw [mayI, if_pos h0]
    rw [hx]
    subst h0
    clear hx c1
    cases h with
    | true =>
      clear c2
      go_enter Try.func33, Try.ntmps33
      go_wp2
      go_ret
      exact ⟨rfl, Below.refl _ _⟩
    | false =>
      go_enter Try.func33, Try.ntmps33
      go_wp2_with fail
      refine (c2 _).mono ?_
      rintro e w2 ⟨g, rfl, hm⟩
      have hl := run_lookB w2 g _ b r hm.1
      rw [show tabI (heldI 0) (whatI 0) b r = false from rfl, if_neg (by decide)] at hl
      unfold keyB at hl
      have HB : Hid (Below w.heap.size w w2) := hm.2.1
      clear hm c2
      go_wp2
      go_ret
      exact ⟨rfl, HB.out⟩
  · cases hk : kiI k with
    | false =>
      rw [none_may k b h r h0 hk]
      rw [hk] at c1
      clear c2 hk
      go_enter Try.func33, Try.ntmps33
      go_wp2_with fail
      refine c1.mono ?_
      rintro e w2 ⟨rfl, b2⟩
      go_wp2
      go_ret
      exact ⟨rfl, b2⟩
    | true =>
      rw [hk] at c1
      cases h with
      | true =>
        rw [mayI_holds k b r hk]
        clear c2 hk
        go_enter Try.func33, Try.ntmps33
        go_wp2_with fail
        refine c1.mono ?_
        rintro e w2 ⟨rfl, b2⟩
        go_wp2
        go_ret
        exact ⟨rfl, b2⟩
      | false =>
        rw [mayI_tab k b r hk]
        obtain ⟨t, ht⟩ : ∃ t, t = tabI (heldI k) (whatI k) := ⟨_, rfl⟩
        simp only [← ht] at c2 ⊢
        clear ht hk
        go_enter Try.func33, Try.ntmps33
        go_wp2_with fail
        refine c1.mono ?_
        rintro e w2 ⟨rfl, b2⟩
        have HB2 : Hid (Below w.heap.size w w2) := b2
        clear c1 b2
        go_wp2_with fail
        refine (c2 _).mono ?_
        rintro e w3 ⟨g, rfl, hm⟩
        have hl := run_lookB w3 g t b r hm.1
        unfold keyB at hl
        have HB : Hid (Below w.heap.size w w3) := HB2.out.trans (hm.2.1.mono HB2.out.size)
        clear hm c2 HB2
        cases hx : t b r with
        | false =>
          simp only [hx] at hl
          go_wp2
          go_ret
          exact ⟨ret_bool (by rw [hx]; rfl), HB.out⟩
        | true =>
          simp only [hx] at hl
          go_wp2
          go_ret
          exact ⟨ret_bool (by rw [hx]; rfl), HB.out⟩
end Go.Proofs.Ytaipogenbaghpaa
