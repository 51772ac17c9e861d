/- The program's copy of a list (fresh). -/
import Derived.Test.YtelfpdjidppblaaLists
import Derived.Test.YtelfpdjidppblaaMine
import Derived.ArgAppend
namespace Go.Proofs.Ytelfpdjidppblaa
open Go.ChangeShapes Go.WideShapes Go.ChangeAt Go.RowKit

set_option maxRecDepth 20000 in
set_option maxHeartbeats 1000000 in
theorem ifresh1_any (v : Value) (xs : List Int) (w : World) (h : Reads w v xs) (h1 : 1 ≤ xs.length) (hbig : xs.length ≤ 1099511627776) :
    Calls Try.prog 83 #[v] w fun e w' => ∃ u, e = .returned u ∧ Own w' w.heap.size u xs ∧ Below w.heap.size w w' := by
  obtain ⟨i0, hi, hz0, hz1, hz2⟩ := info_parts Try.infoI
  obtain ⟨ao, cap, rfl, hl, hm, hc⟩ := h
  obtain ⟨b, off, hab, hcell⟩ : ∃ b off, ao = some ⟨b, off, none⟩ ∧ ∀ j, j < xs.length → w.cell? ⟨b, off + j, none⟩ = some (.int .i64 (xs.getD j 0)) := by
    rcases hc with e | h
    · subst e; simp at h1
    · exact h
  subst hab
  have hnews : ∀ j u, (xs.map (Value.int .i64))[j]? = some u → w.cell? ((⟨b, off, none⟩ : Addr).add j) = some u := by
    intro j u hj
    have hlt : j < xs.length := by
      rcases Nat.lt_or_ge j xs.length with h | h
      · exact h
      · rw [List.getElem?_eq_none (by simpa using h)] at hj; cases hj
    rw [show (⟨b, off, none⟩ : Addr).add j = ⟨b, off + j, none⟩ by unfold Addr.add; split <;> simp_all]
    rw [hcell j hlt]
    simp [List.getD, hlt] at hj ⊢
    exact hj
  have hone : ∀ u ∈ xs.map (Value.int .i64), u.oneCell' = true := by
    intro u hu
    obtain ⟨x, _, rfl⟩ := List.mem_map.1 hu
    rfl
  obtain ⟨hm1, -⟩ := hm
  unfold maxLen at hm1
  obtain ⟨n, hn⟩ : ∃ n, n = xs.length := ⟨_, rfl⟩
  have hll : (xs.map (Value.int .i64)).length = n * 1 := by simp [hn]
  rw [← hn] at hbig hl h1 ⊢
  have HN : Hid (n = xs.length) := hn
  clear hn hc hcell
  go_enter Try.func83, Try.ntmps83
  go_wp2_with (at_builtin; refine wpList_append_grows _ rfl _ _ 24 rfl 2 i0 (.int .i64 0) 1 8 Try.underlying24 hi hz0 hz1 hz2 rfl (by decide) (some ⟨b, off, none⟩) 0 0 [] rfl (by intro e; cases e) (by simp) (by intro b' _ j u hj; simp at hj) ⟨b, off, none⟩ n cap (xs.map (Value.int .i64)) rfl hll hnews hone (by omega) (by unfold maxLen; omega) (by omega) ?_)
  intro v' w1 hown hgrow
  go_wp2_with fail
  go_ret
  refine ⟨_, rfl, ?_, (Below.refl w.heap.size w).grown hgrow (Nat.le_refl _) (fun k e => by cases e)⟩
  unfold Own
  rw [← HN.out]
  exact hown

set_option maxRecDepth 20000 in
set_option maxHeartbeats 1000000 in
theorem ifresh0_any (v : Value) (w : World) (h : Reads w v []) :
    Calls Try.prog 83 #[v] w fun e w' => ∃ u, e = .returned u ∧ Mine w' w.heap.size u [] ∧ Below w.heap.size w w' := by
  obtain ⟨ao, cap, rfl, hl, ⟨hm, hz⟩, -⟩ := h
  unfold maxLen at hm
  simp only [List.length_nil] at hl ⊢
  rcases ao with _ | ad
  · have e0 : cap = 0 := hz rfl
    subst e0
    clear hz hm hl
    go_enter Try.func83, Try.ntmps83
    go_wp2
    go_ret
    exact ⟨_, rfl, .inr ⟨rfl, _, _, rfl, Nat.zero_le _, fun _ => rfl⟩, Below.refl _ _⟩
  · clear hz
    go_enter Try.func83, Try.ntmps83
    go_wp2
    go_ret
    exact ⟨_, rfl, .inr ⟨rfl, _, _, rfl, Nat.zero_le _, fun _ => rfl⟩, Below.refl _ _⟩

theorem ifresh_any (v : Value) (xs : List Int) (w : World) (h : Reads w v xs) (hbig : xs.length ≤ 1099511627776) :
    Calls Try.prog 83 #[v] w fun e w' => ∃ u, e = .returned u ∧ Mine w' w.heap.size u xs ∧ Below w.heap.size w w' := by
  by_cases h1 : 1 ≤ xs.length
  · refine (ifresh1_any v xs w h h1 hbig).mono ?_
    rintro e w' ⟨u, rfl, o, b⟩
    exact ⟨u, rfl, .inl o, b⟩
  · have e0 : xs = [] := List.eq_nil_of_length_eq_zero (by omega)
    subst e0
    exact ifresh0_any v w h
end Go.Proofs.Ytelfpdjidppblaa
