/- The program's row of turns: what is there, what is newer, one that is put in. -/
import Derived.Test.YtdcdfhklnhaimaaITurns
import Derived.Test.YtdcdfhklnhaimaaIFresh
import Derived.Test.YtdcdfhklnhaimaaSSink2
namespace Go.Proofs.Ytdcdfhklnhaimaa
open Go.ChangeShapes Go.WideShapes Go.ChangeAt Go.RowKit

theorem eqnilT (ad : Addr) (n cap : Nat) (w : World) : (binOp .eql 46 (.slice (some ad) n cap) (.slice none 0 0)).run Try.prog w = .ok (.bool false) w := by kernel_rfl

set_option maxRecDepth 20000 in
set_option maxHeartbeats 1000000 in
theorem icloneT_any (v : Value) (xs : List Int) (w : World) (h : Reads w v xs) (h1 : 1 ≤ xs.length) (hbig : xs.length ≤ 1099511627776) :
    Calls Try.prog 53 #[v] w fun e w' => ∃ u, e = .returned u ∧ Own w' w.heap.size u xs ∧ Below w.heap.size w w' := by
  obtain ⟨i0, hi, hz0, hz1, hz2⟩ := info_parts Try.infoI
  obtain ⟨ao, cap, rfl, hl, hm, hc⟩ := h
  obtain ⟨b, off, hab, hcell⟩ : ∃ b off, ao = some ⟨b, off, none⟩ ∧ ∀ j, j < xs.length → w.cell? ⟨b, off + j, none⟩ = some (.int .i64 (xs.getD j 0)) := by
    rcases hc with e | h
    · subst e; simp at h1
    · exact h
  subst hab
  have hnews : ∀ j u, (xs.map (Value.int .i64))[j]? = some u → w.cell? ((⟨b, off, none⟩ : Addr).add j) = some u := by
    intro j u hj
    have hlt : j < xs.length := by
      rcases Nat.lt_or_ge j xs.length with h | h
      · exact h
      · rw [List.getElem?_eq_none (by simpa using h)] at hj; cases hj
    rw [show (⟨b, off, none⟩ : Addr).add j = ⟨b, off + j, none⟩ by unfold Addr.add; split <;> simp_all]
    rw [hcell j hlt]
    simp [List.getD, hlt] at hj ⊢
    exact hj
  have hone : ∀ u ∈ xs.map (Value.int .i64), u.oneCell' = true := by
    intro u hu
    obtain ⟨x, _, rfl⟩ := List.mem_map.1 hu
    rfl
  obtain ⟨hm1, -⟩ := hm
  unfold maxLen at hm1
  obtain ⟨n, hn⟩ : ∃ n, n = xs.length := ⟨_, rfl⟩
  have hll : (xs.map (Value.int .i64)).length = n * 1 := by simp [hn]
  rw [← hn] at hbig hl h1 ⊢
  have HN : Hid (n = xs.length) := hn
  clear hn hc hcell
  have hb1 : ∀ j u, (xs.map (Value.int .i64))[j]? = some u → (w.alloc (.cells #[] 2)).cell? ((⟨b, off, none⟩ : Addr).add j) = some u := by
    intro j u hj
    have h0 := hnews j u hj
    rw [← h0]
    exact ((Below.refl w.heap.size w).alloc (Nat.le_refl _) _).cell (World.block_lt_of_cell? w _ h0)
  obtain ⟨w1, hw1⟩ : ∃ w1, w1 = w.alloc (.cells #[] 2) := ⟨_, rfl⟩
  rw [← hw1] at hb1
  have HB : Hid (Below w.heap.size w w1) := by rw [hw1]; exact (Below.refl _ _).alloc (Nat.le_refl _) _
  clear hnews
  have hq := fun wx => eqnilT ⟨b, off, none⟩ n cap wx
  go_enter Try.func53, Try.ntmps53
  go_upto_region 3 with fail
  go_wp2_with (at_builtin; rw [← hw1]; refine wpList_append_grows _ rfl _ _ 46 rfl 2 i0 (.int .i64 0) 1 8 Try.underlying46 hi hz0 hz1 hz2 rfl (by decide) (some ⟨w.heap.size, 0, none⟩) 0 0 [] rfl (by intro e; cases e) (by simp) (by intro b' _ j u hj; simp at hj) ⟨b, off, none⟩ n cap (xs.map (Value.int .i64)) rfl hll hb1 hone (by omega) (by unfold maxLen; omega) (by omega) ?_)
  intro v' w2 hown hgrow
  rw [← hw1] at hgrow
  go_wp2_with fail
  go_ret
  refine ⟨_, rfl, ?_, HB.out.grown hgrow HB.out.size (fun k e => by cases e)⟩
  have O : Own w2 (w.heap.size + 1) v' xs := by
    unfold Own
    rw [← HN.out]
    simpa using hown
  exact O.mono (Nat.le_succ _)

set_option maxRecDepth 20000 in
set_option maxHeartbeats 1000000 in
theorem irowhas_any (ao : Option Addr) (n cap : Nat) (i : Int) (w : World) :
    Calls Try.prog 54 #[.slice ao n cap, .int .i64 i] w fun e w' => e = .returned (.bool (decide (0 ≤ i) && decide (i < (n : Int)))) ∧ w' = w := by
  by_cases h0 : 0 ≤ i
  · by_cases h1 : i < (n : Int)
    · rw [decide_eq_true h0, decide_eq_true h1]
      go_enter Try.func54, Try.ntmps54
      go_wp2
      go_ret
      exact ⟨ret_bool (by simp), rfl⟩
    · rw [decide_eq_true h0, decide_eq_false h1]
      go_enter Try.func54, Try.ntmps54
      go_wp2
      go_ret
      exact ⟨ret_bool (by simp), rfl⟩
  · rw [decide_eq_false h0]
    go_enter Try.func54, Try.ntmps54
    go_wp2
    go_ret
    exact ⟨ret_bool (by simp), rfl⟩

set_option maxRecDepth 20000 in
set_option maxHeartbeats 1000000 in
theorem inewer_any (v : Value) (xs : List Int) (i t : Int) (w : World) (hr : Reads w v xs) :
    Calls Try.prog 31 #[v, .int .i64 i, .int .i64 t] w fun e w' => e = .returned (.bool (decide (0 ≤ i) && decide (i < (xs.length : Int)) && decide (xs.getD i.toNat 0 < t))) ∧ w' = w := by
  obtain ⟨ao, cap, rfl⟩ := reads_form hr
  obtain ⟨-, hc1, hc2, hcell⟩ := reads_cells hr
  unfold maxLen at hc2
  have ch := irowhas_any ao xs.length cap i w
  by_cases h : 0 ≤ i ∧ i < (xs.length : Int)
  · obtain ⟨h2, h3⟩ := h
    rw [decide_eq_true h2, decide_eq_true h3] at ch ⊢
    obtain ⟨j, rfl⟩ := nat_of h2
    obtain ⟨b, off, rfl, kj⟩ := hcell j (by omega)
    rw [Int.toNat_natCast]
    obtain ⟨y, hy⟩ : ∃ y, y = xs.getD j 0 := ⟨_, rfl⟩
    rw [← hy] at kj ⊢
    rw [Bool.and_self] at ch ⊢
    rw [Bool.true_and]
    clear hy hr hcell
    by_cases h4 : y < t
    · rw [decide_eq_true h4]
      go_enter Try.func31, Try.ntmps31
      go_wp2_with fail
      refine ch.mono ?_
      rintro e w' ⟨rfl, hw⟩; subst w'
      clear ch
      go_wp2
      go_ret
      exact ⟨ret_bool (by simp), rfl⟩
    · rw [decide_eq_false h4]
      go_enter Try.func31, Try.ntmps31
      go_wp2_with fail
      refine ch.mono ?_
      rintro e w' ⟨rfl, hw⟩; subst w'
      clear ch
      go_wp2
      go_ret
      exact ⟨ret_bool (by simp; omega), rfl⟩
  · have e0 : (decide (0 ≤ i) && decide (i < (xs.length : Int))) = false := by
      cases hd : (decide (0 ≤ i) && decide (i < (xs.length : Int))) with
      | false => rfl
      | true => exact absurd (by simpa using hd) h
    rw [e0] at ch ⊢
    rw [Bool.false_and]
    clear hr hcell h e0
    go_enter Try.func31, Try.ntmps31
    go_wp2_with fail
    refine ch.mono ?_
    rintro e w' ⟨rfl, hw⟩; subst w'
    clear ch
    go_wp2
    go_ret
    exact ⟨ret_bool (by simp), rfl⟩

set_option maxRecDepth 20000 in
set_option maxHeartbeats 1000000 in
theorem irowput_any (v : Value) (xs : List Int) (j : Nat) (t : Int) (w : World) (hr : Reads w v xs) (hl : xs.length ≤ 1099511627776) (hj : j < xs.length) :
    Calls Try.prog 29 #[v, .int .i64 j, .int .i64 t] w fun e w' => ∃ u, e = .returned u ∧ Own w' w.heap.size u (xs.set j t) ∧ Below w.heap.size w w' := by
  have cc := icloneT_any v xs w hr (by omega) hl
  obtain ⟨ao, cap, rfl⟩ := reads_form hr
  clear hr
  go_enter Try.func29, Try.ntmps29
  go_wp2_with fail
  refine cc.mono ?_
  rintro e w1 ⟨u, rfl, o1, b1⟩
  clear cc
  obtain ⟨r, rc, er, hrb, hrl⟩ := World.ownsRow.form o1 (by omega)
  subst er
  obtain ⟨-, hd1, hd2, hcell⟩ := reads_cells o1.reads
  unfold maxLen at hd2
  obtain ⟨rb, roff, er, kr⟩ := hcell j hj
  cases er
  rw [Nat.zero_add] at kr
  obtain ⟨fr, -, OP⟩ := o1.put rfl j hj t
  have HP : Hid (Own (w1.setCell ⟨r, j, none⟩ (.int .i64 t)) w.heap.size (.slice (some ⟨r, 0, none⟩) xs.length rc) (xs.set j t) ∧ Below w.heap.size w (w1.setCell ⟨r, j, none⟩ (.int .i64 t))) := ⟨OP, b1.setCell hrb _⟩
  clear OP o1 b1 hcell
  go_wp2
  go_ret
  exact ⟨_, rfl, HP.out.1, HP.out.2⟩

end Go.Proofs.Ytdcdfhklnhaimaa
