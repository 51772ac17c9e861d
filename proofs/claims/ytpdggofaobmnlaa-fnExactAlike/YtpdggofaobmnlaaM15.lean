/- Bars and Allowed by the program. -/
import Derived.Test.YtpdggofaobmnlaaITab
import Derived.Test.YtpdggofaobmnlaaIKeys2
import Derived.Test.YtpdggofaobmnlaaSHold
import Derived.Deep.RegionHeld3
namespace Go.Proofs.Ytpdggofaobmnlaa
open Go.ChangeShapes Go.WideShapes Go.ChangeAt Go.RowKit

theorem barsI_tab (k : Int) (b : Bool) : barsI k b = tabI (heldI k) (whatI k) b false := by
  rcases kinds k with h | h | h | h | h | h | h | ⟨hk, h0, h1, h2, h3, h4, h5, h6⟩
  all_goals first | (subst h; cases b <;> rfl) | (rw [none_bars k b hk, show heldI k = 0 by simp [heldI, h1, h2, h3, h4, h5, h6]]; rfl)
theorem mayI_tab (k : Int) (b r : Bool) (hk : kiI k = true) : mayI k b false r = !tabI (heldI k) (whatI k) b r := by
  rcases kinds k with h | h | h | h | h | h | h | ⟨hn, h0, h1, h2, h3, h4, h5, h6⟩
  all_goals first | (rw [hk] at hn; cases hn) | (subst h; first | (cases b <;> cases r <;> rfl) | (exact absurd hk (by decide)))
end Go.Proofs.Ytpdggofaobmnlaa
/- A holding that embeds its keys, by the program: holderOk, holds, holding. -/
namespace Go.Proofs.Ytpdggofaobmnlaa
open Go.ChangeShapes Go.WideShapes Go.ChangeAt Go.RowKit

def heA (f : Nat → Int) (kd ho tu : Int) : Array Value := #[.int .i64 (f 0), .int .i64 (f 1), .int .i64 (f 2), .int .i64 (f 3), .int .i64 kd, .int .i64 ho, .int .i64 tu]
def midF (f : Nat → Int) (kd ho : Int) : Bool := if kd = 0 then decide (ho = -1) else if allI kd then decide (ho = -1) && anyF f else kiI kd && (inI ho 0 3 && decide (f ho.toNat ≠ 0))
def holdsF (f : Nat → Int) (kd ho i : Int) : Bool := (inI i 0 3 && decide (f i.toNat ≠ 0)) && (allI kd || decide (i = ho))
theorem Try.isHeld : IsS 92 7 := ⟨⟨_, Try.underlying92⟩, by kernel_rfl⟩
theorem heA_cells {w : World} {g : Nat} {f : Nat → Int} {kd ho tu : Int} (h : StB w g 92 (heA f kd ho tu)) :
    w.cell? ⟨g, 0, none⟩ = some (.int .i64 (f 0)) ∧ w.cell? ⟨g, 1, none⟩ = some (.int .i64 (f 1)) ∧ w.cell? ⟨g, 2, none⟩ = some (.int .i64 (f 2)) ∧ w.cell? ⟨g, 3, none⟩ = some (.int .i64 (f 3)) ∧ w.cell? ⟨g, 4, none⟩ = some (.int .i64 kd) ∧ w.cell? ⟨g, 5, none⟩ = some (.int .i64 ho) ∧ w.cell? ⟨g, 6, none⟩ = some (.int .i64 tu) :=
  ⟨h.cell 0 rfl, h.cell 1 rfl, h.cell 2 rfl, h.cell 3 rfl, h.cell 4 rfl, h.cell 5 rfl, h.cell 6 rfl⟩

set_option maxRecDepth 20000 in
set_option maxHeartbeats 2000000 in
theorem iholderok_any (f : Nat → Int) (kd ho tu : Int) (w : World) :
    Calls Try.prog 101 #[.agg (heA f kd ho tu)] w fun e w' => e = .returned (.bool (midF f kd ho)) ∧ Below w.heap.size w w' := by
  obtain ⟨w1, hw1⟩ : ∃ w1, w1 = w.alloc (.cells (heA f kd ho tu) 92) := ⟨_, rfl⟩
  have HB : Hid (Below w.heap.size w w1) := by rw [hw1]; exact (Below.refl _ _).alloc (Nat.le_refl _) _
  have H1 : Hid (StB w1 w.heap.size 92 (heA f kd ho tu)) := by rw [hw1]; exact StB.new _ _ _
  have HE : Hid (midF f kd ho = (if kd = 0 then decide (ho = -1) else if allI kd then decide (ho = -1) && anyF f else kiI kd && (inI ho 0 3 && decide (f ho.toNat ≠ 0)))) := rfl
  obtain ⟨x, hx⟩ : ∃ x, x = midF f kd ho := ⟨_, rfl⟩
  rw [← hx] at HE ⊢
  clear hx
  have c1 := fun wx => iall_any kd wx
  have c2 := fun wx => ikind_any kd wx
  have c3 := fun wx => ianyreg_any f wx
  have c4 := fun wx => iregd_any f ho wx
  obtain ⟨a1, ha1⟩ : ∃ a1, a1 = allI kd := ⟨_, rfl⟩
  obtain ⟨a2, ha2⟩ : ∃ a2, a2 = kiI kd := ⟨_, rfl⟩
  obtain ⟨a3, ha3⟩ : ∃ a3, a3 = anyF f := ⟨_, rfl⟩
  obtain ⟨a4, ha4⟩ : ∃ a4, a4 = (inI ho 0 3 && decide (f ho.toNat ≠ 0)) := ⟨_, rfl⟩
  simp only [← ha1, ← ha2, ← ha3, ← ha4] at c1 c2 c3 c4 HE
  clear ha1 ha2 ha3 ha4
  by_cases h0 : kd = 0
  · clear c1 c2 c3 c4
    obtain ⟨-, -, -, -, k4, k5, -⟩ := heA_cells H1.out
    have HX : Hid (x = decide (ho = -1)) := by rw [Hid, HE.out, if_pos h0]
    clear HE H1
    unfold heA at *
    by_cases ho1 : ho = -1
    · subst hw1
      go_enter Try.func101, Try.ntmps101
      go_wp2
      go_ret
      exact ⟨ret_bool (by rw [HX.out]; simp [ho1]), by simpa [h0, ho1] using HB.out⟩
    · have ho2 : (ho == -1) = false := by simpa using ho1
      subst hw1
      go_enter Try.func101, Try.ntmps101
      go_wp2
      go_ret
      exact ⟨ret_bool (by rw [HX.out]; simp [ho1]), by simpa [h0] using HB.out⟩
  · have h0n : (kd == 0) = false := by simpa using h0
    cases a1 with
    | true =>
      have HX : Hid (x = (decide (ho = -1) && a3)) := by rw [Hid, HE.out, if_neg h0, if_pos rfl]
      clear HE c2 c4
      unfold kA at *
      rw [heA] at hw1 ⊢
      go_enter Try.func101, Try.ntmps101
      go_wp2_with fail
      rw [← hw1]
      refine (c1 _).mono ?_
      rintro e w2 ⟨rfl, b2⟩
      have HB2 : Hid (Below w.heap.size w w2) := HB.out.trans (b2.mono HB.out.size)
      obtain ⟨k0, k1, k2, k3, k4, k5, -⟩ := heA_cells (H1.out.below b2)
      clear b2 c1 H1 HB hw1
      by_cases ho1 : ho = -1
      · rw [ho1] at k5
        go_wp2_with fail
        refine (c3 _).mono ?_
        rintro e w3 ⟨rfl, b3⟩
        have HB3 : Hid (Below w.heap.size w w3) := HB2.out.trans (b3.mono HB2.out.size)
        clear b3 c3 k0 k1 k2 k3 k4 k5
        cases a3 <;>
        · go_wp2
          go_ret
          exact ⟨ret_bool (by rw [HX.out]; simp [ho1]), HB3.out⟩
      · have ho2 : (ho == -1) = false := by simpa using ho1
        clear c3
        go_wp2
        go_ret
        exact ⟨ret_bool (by rw [HX.out]; simp [ho1]), HB2.out⟩
    | false =>
      have HX : Hid (x = (a2 && a4)) := by rw [Hid, HE.out, if_neg h0, if_neg (by decide)]
      clear HE c3
      unfold kA at *
      rw [heA] at hw1 ⊢
      go_enter Try.func101, Try.ntmps101
      go_wp2_with fail
      rw [← hw1]
      refine (c1 _).mono ?_
      rintro e w2 ⟨rfl, b2⟩
      have HB2 : Hid (Below w.heap.size w w2) := HB.out.trans (b2.mono HB.out.size)
      have H2 := H1.out.below b2
      obtain ⟨k0, k1, k2, k3, k4, k5, -⟩ := heA_cells H2
      have HH2 : Hid (StB w2 w.heap.size 92 (heA f kd ho tu)) := H2
      clear b2 c1 H1 HB hw1 H2
      go_wp2_with fail
      refine (c2 _).mono ?_
      rintro e w3 ⟨rfl, b3⟩
      have HB3 : Hid (Below w.heap.size w w3) := HB2.out.trans (b3.mono HB2.out.size)
      obtain ⟨m0, m1, m2, m3, m4, m5, -⟩ := heA_cells (HH2.out.below b3)
      clear b3 c2 k0 k1 k2 k3 k4 k5 HH2 HB2
      cases a2 with
      | false =>
        clear c4
        go_wp2
        go_ret
        exact ⟨ret_bool (by rw [HX.out]; simp), HB3.out⟩
      | true =>
        go_wp2_with fail
        refine (c4 _).mono ?_
        rintro e w4 ⟨rfl, b4⟩
        have HB4 : Hid (Below w.heap.size w w4) := HB3.out.trans (b4.mono HB3.out.size)
        clear b4 c4 m0 m1 m2 m3 m4 m5
        cases a4 <;>
        · go_wp2
          go_ret
          exact ⟨ret_bool (by rw [HX.out]; simp), HB4.out⟩
end Go.Proofs.Ytpdggofaobmnlaa
