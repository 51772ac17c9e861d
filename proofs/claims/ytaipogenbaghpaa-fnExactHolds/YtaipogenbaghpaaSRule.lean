/- Kinds, and who may, by the model: KindOk, Bars, ForAll, Allowed. -/
import Derived.Test.YtaipogenbaghpaaRu
import Derived.Test.YtaipogenbaghpaaSIn
namespace Go.Proofs.Ytaipogenbaghpaa
open Go.ChangeShapes Go.WideShapes Go.ChangeAt Go.RowKit

set_option maxRecDepth 20000 in
set_option maxHeartbeats 400000 in
theorem skind_any (k : Int) (w : World) :
    Calls Try.prog 41 #[.int .i64 k] w fun e w' => e = .returned (.bool (kiI k)) ∧ w' = w := by
  have c1 := sin6_any k 1 6 w
  unfold kiI
  go_enter Try.func41, Try.ntmps41
  go_wp2_with fail
  refine c1.mono ?_
  rintro e w' ⟨rfl, hw⟩; subst w'
  clear c1
  go_wp2_with fail
  go_ret
  exact ⟨rfl, rfl⟩

set_option maxRecDepth 20000 in
set_option maxHeartbeats 400000 in
theorem sall_any (k : Int) (w : World) :
    Calls Try.prog 20 #[.int .i64 k] w fun e w' => e = .returned (.bool (allI k)) ∧ w' = w := by
  by_cases h5 : k = 5
  · subst h5
    go_enter Try.func20, Try.ntmps20
    go_wp2
    go_ret
    exact ⟨rfl, rfl⟩
  · by_cases h6 : k = 6
    · subst h6
      go_enter Try.func20, Try.ntmps20
      go_wp2
      go_ret
      exact ⟨rfl, rfl⟩
    · have he : allI k = false := by simp [allI, h5, h6]
      rw [he]
      clear he
      go_enter Try.func20, Try.ntmps20
      go_wp2
      go_ret
      exact ⟨ret_bool (by simp [h5, h6]), rfl⟩

set_option maxRecDepth 20000 in
set_option maxHeartbeats 400000 in
theorem sbars_any (k : Int) (b : Bool) (w : World) :
    Calls Try.prog 65 #[.int .i64 k, .bool b] w fun e w' => e = .returned (.bool (barsI k b)) ∧ w' = w := by
  have c1 := skind_any k w
  have HE : Hid (barsI k b = (kiI k && (b || decide (k % 2 = 0)))) := rfl
  obtain ⟨x, hx⟩ : ∃ x, x = barsI k b := ⟨_, rfl⟩
  rw [← hx] at HE ⊢
  obtain ⟨y, hy⟩ : ∃ y, y = kiI k := ⟨_, rfl⟩
  rw [← hy] at HE c1
  have hk : y = true → 1 ≤ k ∧ k ≤ 6 := fun h => (inI_iff k 1 6).1 (by rw [← h, hy]; rfl)
  clear hx hy
  cases y with
  | false =>
    clear hk
    go_enter Try.func65, Try.ntmps65
    go_wp2_with fail
    refine c1.mono ?_
    rintro e w' ⟨rfl, hw⟩; subst w'
    clear c1
    go_wp2
    go_ret
    exact ⟨ret_bool (by rw [HE.out]; rfl), rfl⟩
  | true =>
    have hk2 := hk rfl
    have hm : k.tmod 2 = k % 2 := Int.tmod_eq_emod_of_nonneg (by omega)
    clear hk
    cases b with
    | true =>
      go_enter Try.func65, Try.ntmps65
      go_wp2_with fail
      refine c1.mono ?_
      rintro e w' ⟨rfl, hw⟩; subst w'
      clear c1
      go_wp2
      go_ret
      exact ⟨ret_bool (by rw [HE.out]; rfl), rfl⟩
    | false =>
      have HX : Hid (x = decide (k % 2 = 0)) := by rw [Hid, HE.out]; rfl
      clear HE
      by_cases h2 : k % 2 = 0
      · go_enter Try.func65, Try.ntmps65
        go_wp2_with fail
        refine c1.mono ?_
        rintro e w' ⟨rfl, hw⟩; subst w'
        clear c1
        go_wp2
        go_ret
        exact ⟨ret_bool (by rw [HX.out]; simp [h2]), rfl⟩
      · go_enter Try.func65, Try.ntmps65
        go_wp2_with fail
        refine c1.mono ?_
        rintro e w' ⟨rfl, hw⟩; subst w'
        clear c1
        go_wp2
        go_ret
        exact ⟨ret_bool (by rw [HX.out]; simp [h2]), rfl⟩

set_option maxRecDepth 20000 in
set_option maxHeartbeats 1000000 in
theorem smay_any (k : Int) (b h r : Bool) (w : World) :
    Calls Try.prog 59 #[.int .i64 k, .bool b, .bool h, .bool r] w fun e w' => e = .returned (.bool (mayI k b h r)) ∧ w' = w := by
  have c1 := skind_any k w
  have c2 := sbars_any k b w
  have HE : Hid (mayI k b h r = if k = 0 then true else if kiI k = false then false else if h then true else if decide (3 ≤ k) && r then true else !barsI k b) := rfl
  obtain ⟨x, hx⟩ : ∃ x, x = mayI k b h r := ⟨_, rfl⟩
  rw [← hx] at HE ⊢
  obtain ⟨y, hy⟩ : ∃ y, y = kiI k := ⟨_, rfl⟩
  obtain ⟨z, hz⟩ : ∃ z, z = barsI k b := ⟨_, rfl⟩
  rw [← hy, ← hz] at HE
  rw [← hy] at c1
  rw [← hz] at c2
  clear hx hy hz
  by_cases h0 : k = 0
  · have HX : Hid (x = true) := by rw [Hid, HE.out, if_pos h0]
    subst h0
    clear c1 c2 HE
    go_enter Try.func59, Try.ntmps59
    go_wp2
    go_ret
    exact ⟨ret_bool (by rw [HX.out]), rfl⟩
  · cases y with
    | false =>
      have HX : Hid (x = false) := by rw [Hid, HE.out, if_neg h0, if_pos rfl]
      clear c2 HE
      go_enter Try.func59, Try.ntmps59
      go_wp2_with fail
      refine c1.mono ?_
      rintro e w' ⟨rfl, hw⟩; subst w'
      clear c1
      go_wp2
      go_ret
      exact ⟨ret_bool (by rw [HX.out]), rfl⟩
    | true =>
      cases h with
      | true =>
        have HX : Hid (x = true) := by rw [Hid, HE.out, if_neg h0, if_neg (by decide), if_pos rfl]
        clear c2 HE
        go_enter Try.func59, Try.ntmps59
        go_wp2_with fail
        refine c1.mono ?_
        rintro e w' ⟨rfl, hw⟩; subst w'
        clear c1
        go_wp2
        go_ret
        exact ⟨ret_bool (by rw [HX.out]), rfl⟩
      | false =>
        by_cases h3 : 3 ≤ k
        · cases r with
          | true =>
            have HX : Hid (x = true) := by rw [Hid, HE.out, if_neg h0, if_neg (by decide), if_neg (by decide), if_pos (by simp [h3])]
            clear c2 HE
            go_enter Try.func59, Try.ntmps59
            go_wp2_with fail
            refine c1.mono ?_
            rintro e w' ⟨rfl, hw⟩; subst w'
            clear c1
            go_wp2
            go_ret
            exact ⟨ret_bool (by rw [HX.out]), rfl⟩
          | false =>
            have HX : Hid (x = !z) := by rw [Hid, HE.out, if_neg h0, if_neg (by decide), if_neg (by decide), if_neg (by simp)]
            clear HE
            go_enter Try.func59, Try.ntmps59
            go_wp2_with fail
            refine c1.mono ?_
            rintro e w' ⟨rfl, hw⟩; subst w'
            clear c1
            go_wp2_with fail
            refine c2.mono ?_
            rintro e w' ⟨rfl, hw⟩; subst w'
            clear c2
            go_wp2
            go_ret
            exact ⟨ret_bool (by rw [HX.out]), rfl⟩
        · have HX : Hid (x = !z) := by rw [Hid, HE.out, if_neg h0, if_neg (by decide), if_neg (by decide), if_neg (by simp [h3])]
          clear HE
          go_enter Try.func59, Try.ntmps59
          go_wp2_with fail
          refine c1.mono ?_
          rintro e w' ⟨rfl, hw⟩; subst w'
          clear c1
          go_wp2_with fail
          refine c2.mono ?_
          rintro e w' ⟨rfl, hw⟩; subst w'
          clear c2
          go_wp2
          go_ret
          exact ⟨ret_bool (by rw [HX.out]), rfl⟩
end Go.Proofs.Ytaipogenbaghpaa
