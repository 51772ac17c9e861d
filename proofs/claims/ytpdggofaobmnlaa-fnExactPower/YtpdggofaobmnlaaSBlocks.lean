/- The model's Put, Differ and Chosen answer what plain lists say, in new memory, and write nothing that was there. -/
import Derived.Test.YtpdggofaobmnlaaBlocks
import Derived.Test.YtpdggofaobmnlaaM7
namespace Go.Proofs.Ytpdggofaobmnlaa
open Go.ChangeShapes Go.WideShapes Go.ChangeAt Go.RowKit

theorem valOk_eq (x : Int) : (decide (0 ≤ x) && decide (x ≤ 9999)) = valOk x := rfl
theorem valOk_yes {x : Int} (h0 : 0 ≤ x) (h1 : x ≤ 9999) : valOk x = true := by simp [valOk, h0, h1]
theorem valOk_no {x : Int} (h : x < 0 ∨ 9999 < x) : valOk x = false := by simp [valOk]; omega

set_option maxRecDepth 20000 in
set_option maxHeartbeats 400000 in
theorem sval_any (x : Int) (w : World) :
    Calls Try.prog 98 #[.int .i64 x] w fun e w' => e = .returned (.bool (valOk x)) ∧ w' = w := by
  by_cases h0 : 0 ≤ x
  · by_cases h1 : x ≤ 9999
    · rw [valOk_yes h0 h1]
      go_enter Try.func98, Try.ntmps98
      go_wp2
      go_ret
      exact ⟨ret_bool (by simp), rfl⟩
    · rw [valOk_no (by omega)]
      go_enter Try.func98, Try.ntmps98
      go_wp2
      go_ret
      exact ⟨ret_bool (by simp), rfl⟩
  · rw [valOk_no (by omega)]
    go_enter Try.func98, Try.ntmps98
    go_wp2
    go_ret
    exact ⟨ret_bool (by simp), rfl⟩

theorem Reads.cellOf {w : World} {ao : Option Addr} {n cap : Nat} {xs : List Int} (h : Reads w (.slice ao n cap) xs) : n = xs.length ∧ n ≤ cap ∧ cap ≤ maxLen ∧ ∀ j, j < n → ∃ b off, ao = some ⟨b, off, none⟩ ∧ b < w.heap.size ∧ w.cell? ⟨b, off + j, none⟩ = some (.int .i64 (xs.getD j 0)) := by
  obtain ⟨ao', cap', e, hl, ⟨hm, -⟩, hc⟩ := h
  simp only [Value.slice.injEq] at e
  obtain ⟨rfl, rfl, rfl⟩ := e
  refine ⟨rfl, hl, hm, fun j hj => ?_⟩
  rcases hc with e | ⟨b, off, e, h4⟩
  · rw [e] at hj; simp at hj
  · exact ⟨b, off, e, World.block_lt_of_cell? w _ (h4 j hj), h4 j hj⟩
theorem Reads.form {w : World} {v : Value} {xs : List Int} (h : Reads w v xs) : ∃ ao cap, v = .slice ao xs.length cap := by
  obtain ⟨ao, cap, e, _⟩ := h
  exact ⟨ao, cap, e⟩

theorem bothOk_yes {a b : List Int} (h : bothOk a b = true) : blocksOk a = true ∧ blocksOk b = true ∧ a.length = b.length := by
  simpa [bothOk] using h

set_option maxRecDepth 20000 in
set_option maxHeartbeats 1000000 in
theorem sl2chosen_any (va vb : Value) (a b : List Int) (s : Int) (w : World) (ha : Reads w va a) (hb : Reads w vb b) (hl : a.length = b.length) (h1 : 1 ≤ a.length) (h8 : a.length ≤ 8) (h0 : 0 ≤ s) (hs : s < 256) :
    Calls Try.prog 72 #[va, vb, .int .i64 s] w fun e w' => ∃ u, e = .returned u ∧ Own w' w.heap.size u (chosenUp a b s 8 a.length) ∧ Below w.heap.size w w' := by
  have c1 := copy_any va a w ha (by omega)
  obtain ⟨ao, ca, rfl⟩ := ha.form
  obtain ⟨bo, cb, rfl⟩ := hb.form
  obtain ⟨-, lb, mb, cb1⟩ := hb.cellOf
  clear ha hb
  rw [← hl] at lb cb1 ⊢
  have HF : Hid (chosenUp a b s a.length a.length = chosenUp a b s 8 a.length) := chosenUp_full h8
  obtain ⟨n, hn⟩ : ∃ n, n = a.length := ⟨_, rfl⟩
  rw [← hn] at c1 lb cb1 h1 h8 HF ⊢
  have HN : Hid (n = a.length) := hn
  clear hl hn
  unfold maxLen at mb
  go_enter Try.func72, Try.ntmps72
  go_wp2_with (go_at_call 73; refine c1.mono ?_; rintro e w1 ⟨u, rfl, o1, b1⟩; obtain ⟨g, cap1, rfl, hbg, -⟩ := World.ownsRow.form o1 (by have := HN.out; omega); have HU : Hid (Own w1 w.heap.size (.slice (some ⟨g, 0, none⟩) n cap1) (chosenUp a b s 0 n) ∧ Below w.heap.size w w1) := (by have e := HN.out; rw [e] at *; rw [chosenUp_zero]; exact ⟨o1, b1⟩); rw [← HN.out]; clear o1 b1)
  clear c1
  go_loopw [8] (fun i wr => ∃ j : Nat, j ≤ n ∧ i = .int .i64 j ∧ Hid (Own wr w.heap.size (.slice (some ⟨g, 0, none⟩) n cap1) (chosenUp a b s j n) ∧ Below w.heap.size w wr)) (fun i _ => n - (intOf i).toNat)
  case atStart => exact ⟨0, Nat.zero_le _, rfl, HU⟩
  case round =>
    obtain ⟨j, hj, rfl, HR⟩ := hrel
    clear HU
    by_cases hlt : (j : Int) < (n : Int)
    · obtain ⟨b2, off', rfl, hb2, hc0⟩ := cb1 j (by omega)
      have hc2 := (HR.out.2.cell (p := ⟨b2, off' + j, none⟩) hb2).trans hc0
      obtain ⟨y, hy⟩ : ∃ y, y = b.getD j 0 := ⟨_, rfl⟩
      rw [← hy] at hc2
      clear cb1 hc0
      obtain ⟨ib, hib⟩ : ∃ ib, ib = inB s j := ⟨_, rfl⟩
      have htest : ((s / 2 ^ j).tmod 2 == 1) = ib := by rw [hib]; exact shr_in (i := (j : Int)) h0 hs (by omega) (by omega)
      cases ib
      · have HS : Hid (Own wr w.heap.size (.slice (some ⟨g, 0, none⟩) n cap1) (chosenUp a b s (j + 1) n) ∧ Below w.heap.size w wr) := by
          rw [Hid, chosenUp_no hib.symm]; exact HR.out
        clear hib hy HR
        go_wp2
        go_roundw
        case rel => exact ⟨j + 1, by omega, by go_num, HS⟩
        case measure => simp [intOf]; omega
      · obtain ⟨hfr, ⟨z, hz⟩, ho⟩ := HR.out.1.put (by rw [chosenUp_len]) j (by omega) y
        have HS : Hid (Own (wr.setCell ⟨g, j, none⟩ (.int .i64 y)) w.heap.size (.slice (some ⟨g, 0, none⟩) n cap1) (chosenUp a b s (j + 1) n) ∧ Below w.heap.size w (wr.setCell ⟨g, j, none⟩ (.int .i64 y))) := by
          rw [hy, chosenUp_yes hib.symm, ← hy] at ho
          exact ⟨ho, HR.out.2.setCell hbg _⟩
        clear hib hy HR ho
        go_wp2
        go_roundw
        case rel => exact ⟨j + 1, by omega, by go_num, HS⟩
        case measure => simp [intOf]; omega
    · clear cb1
      go_wp2
      go_ret
      have e : j = n := by omega
      have := HR.out
      rw [e, HF.out] at this
      exact ⟨_, rfl, this⟩

set_option maxRecDepth 20000 in
set_option maxHeartbeats 400000 in
theorem sset_any (s : Int) (w : World) :
    Calls Try.prog 36 #[.int .i64 s] w fun e w' => e = .returned (.bool (setOk s)) ∧ w' = w := by
  by_cases h0 : 0 ≤ s
  · by_cases h1 : s ≤ 255
    · rw [setOk_pos h0 (by omega)]
      go_enter Try.func36, Try.ntmps36
      go_wp2
      go_ret
      exact ⟨ret_bool (by simp), rfl⟩
    · rw [setOk_neg (by omega)]
      go_enter Try.func36, Try.ntmps36
      go_wp2
      go_ret
      exact ⟨ret_bool (by simp), rfl⟩
  · rw [setOk_neg (by omega)]
    go_enter Try.func36, Try.ntmps36
    go_wp2
    go_ret
    exact ⟨ret_bool (by simp), rfl⟩

theorem setOk_bd {s : Int} (h : setOk s = true) : 0 ≤ s ∧ s < 256 := by simpa [setOk] using h
end Go.Proofs.Ytpdggofaobmnlaa
