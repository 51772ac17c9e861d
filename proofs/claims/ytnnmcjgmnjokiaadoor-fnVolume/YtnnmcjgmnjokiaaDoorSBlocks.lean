/- The model's Put, Differ and Chosen answer what plain lists say, in new memory, and write nothing that was there. -/
import Derived.Test.YtnnmcjgmnjokiaaDoorBlocks
import Derived.Test.YtnnmcjgmnjokiaaDoorIn
namespace Go.Proofs.YtnnmcjgmnjokiaaDoor
open Go.ChangeShapes Go.WideShapes Go.ChangeAt Go.RowKit

theorem valOk_eq (x : Int) : (decide (0 ≤ x) && decide (x ≤ 9999)) = valOk x := rfl
theorem valOk_yes {x : Int} (h0 : 0 ≤ x) (h1 : x ≤ 9999) : valOk x = true := by simp [valOk, h0, h1]
theorem valOk_no {x : Int} (h : x < 0 ∨ 9999 < x) : valOk x = false := by simp [valOk]; omega

set_option maxRecDepth 20000 in
set_option maxHeartbeats 400000 in
theorem sval_any (x : Int) (w : World) :
    Calls Tryd.prog 65 #[.int .i64 x] w fun e w' => e = .returned (.bool (valOk x)) ∧ w' = w := by
  by_cases h0 : 0 ≤ x
  · by_cases h1 : x ≤ 9999
    · rw [valOk_yes h0 h1]
      go_enter Tryd.func65, Tryd.ntmps65
      go_wp2
      go_ret
      exact ⟨ret_bool (by simp), rfl⟩
    · rw [valOk_no (by omega)]
      go_enter Tryd.func65, Tryd.ntmps65
      go_wp2
      go_ret
      exact ⟨ret_bool (by simp), rfl⟩
  · rw [valOk_no (by omega)]
    go_enter Tryd.func65, Tryd.ntmps65
    go_wp2
    go_ret
    exact ⟨ret_bool (by simp), rfl⟩

theorem Reads.cellOf {w : World} {ao : Option Addr} {n cap : Nat} {xs : List Int} (h : Reads w (.slice ao n cap) xs) : n = xs.length ∧ n ≤ cap ∧ cap ≤ maxLen ∧ ∀ j, j < n → ∃ b off, ao = some ⟨b, off, none⟩ ∧ b < w.heap.size ∧ w.cell? ⟨b, off + j, none⟩ = some (.int .i64 (xs.getD j 0)) := by
  obtain ⟨ao', cap', e, hl, ⟨hm, -⟩, hc⟩ := h
  simp only [Value.slice.injEq] at e
  obtain ⟨rfl, rfl, rfl⟩ := e
  refine ⟨rfl, hl, hm, fun j hj => ?_⟩
  rcases hc with e | ⟨b, off, e, h4⟩
  · rw [e] at hj; simp at hj
  · exact ⟨b, off, e, World.block_lt_of_cell? w _ (h4 j hj), h4 j hj⟩
theorem Reads.form {w : World} {v : Value} {xs : List Int} (h : Reads w v xs) : ∃ ao cap, v = .slice ao xs.length cap := by
  obtain ⟨ao, cap, e, _⟩ := h
  exact ⟨ao, cap, e⟩

set_option maxRecDepth 20000 in
set_option maxHeartbeats 1000000 in
theorem sl2differ_any (va vb : Value) (a b : List Int) (w : World) (ha : Reads w va a) (hb : Reads w vb b) (hl : a.length = b.length) (h8 : a.length ≤ 8) :
    Calls Tryd.prog 43 #[va, vb] w fun e w' => e = .returned (.int .i64 (differUp a b 8)) ∧ ∃ n, w' = w.drewN n := by
  obtain ⟨ao, ca, rfl⟩ := ha.form
  obtain ⟨bo, cb, rfl⟩ := hb.form
  obtain ⟨-, la, ma, ca1⟩ := ha.cellOf
  obtain ⟨-, lb, mb, cb1⟩ := hb.cellOf
  have HD : Hid (differUp a b a.length = differUp a b 8) := differUp_full a b hl h8
  have HBD := differUp_bd a b
  clear ha hb
  rw [← hl] at lb cb1 ⊢
  obtain ⟨n, hn⟩ : ∃ n, n = a.length := ⟨_, rfl⟩
  rw [← hn] at la lb ca1 cb1 h8 HD ⊢
  clear hl hn
  unfold maxLen at ma mb
  go_enter Tryd.func43, Tryd.ntmps43
  go_wp2
  go_loopw [5, 6] (fun s i wr => ∃ j q : Nat, j ≤ n ∧ i = .int .i64 j ∧ s = .int .i64 (differUp a b j) ∧ wr = w.drewN q) (fun _ i _ => n - (intOf i).toNat)
  case atStart => exact ⟨0, 0, Nat.zero_le _, rfl, by simp [differUp], rfl⟩
  case round =>
    obtain ⟨j, q, hj, rfl, rfl, rfl⟩ := hrel
    by_cases hlt : (j : Int) < (n : Int)
    · obtain ⟨b1, off, rfl, -, hc1⟩ := ca1 j (by omega)
      obtain ⟨b2, off', rfl, -, hc2⟩ := cb1 j (by omega)
      have hbd := HBD j (by omega)
      clear ca1 cb1 HBD
      obtain ⟨x, hx⟩ : ∃ x, x = a.getD j 0 := ⟨_, rfl⟩
      obtain ⟨y, hy⟩ : ∃ y, y = b.getD j 0 := ⟨_, rfl⟩
      obtain ⟨s, hs⟩ : ∃ s, s = differUp a b j := ⟨_, rfl⟩
      rw [← hx] at hc1
      rw [← hy] at hc2
      rw [← hs] at hbd ⊢
      have HX : Hid (x = a.getD j 0 ∧ y = b.getD j 0 ∧ s = differUp a b j) := ⟨hx, hy, hs⟩
      clear hx hy hs
      by_cases hxy : (x != y) = true
      · have HS : Hid (bits BinOp.or IntKind.i64 s (wrap64 (2 ^ j)) = differUp a b (j + 1)) := by
          have h1 : ¬ x = y := by simpa using hxy
          have e1 : differUp a b (j + 1) = withI s j := by
            obtain ⟨e1, e2, e3⟩ := HX.out
            rw [differUp, if_neg (by rw [← e1, ← e2]; exact h1), ← e3]
          rw [Hid, e1]
          exact or_in (i := (j : Int)) hbd.1 hbd.2 (by omega) (by omega)
        go_wp2
        go_quiet (fail)
        go_wp2
        go_roundw
        case rel => exact ⟨j + 1, _, by omega, by go_num, by rw [← HS.out], rfl⟩
        case measure => simp [intOf]; omega
      · have HS : Hid (s = differUp a b (j + 1)) := by
          have h1 : x = y := by simpa using hxy
          obtain ⟨e1, e2, e3⟩ := HX.out
          rw [Hid, differUp, if_pos (by rw [← e1, ← e2]; exact h1), ← e3]
        go_wp2
        go_quiet (fail)
        go_wp2
        go_roundw
        case rel => exact ⟨j + 1, _, by omega, by go_num, by rw [← HS.out], rfl⟩
        case measure => simp [intOf]; omega
    · clear ca1 cb1
      go_wp2
      go_ret
      have e : j = n := by omega
      exact ⟨ret_int (by rw [e, HD.out]), ⟨_, rfl⟩⟩

theorem bothOk_yes {a b : List Int} (h : bothOk a b = true) : blocksOk a = true ∧ blocksOk b = true ∧ a.length = b.length := by
  simpa [bothOk] using h

set_option maxRecDepth 20000 in
set_option maxHeartbeats 1000000 in
theorem sdiffer_any (va vb : Value) (a b : List Int) (w : World) (ha : Reads w va a) (hb : Reads w vb b) (ga : a.length ≤ 1099511627776) (gb : b.length ≤ 1099511627776) :
    Calls Tryd.prog 19 #[va, vb] w fun e w' => e = .returned (.int .i64 (differI a b)) ∧ ∃ n, w' = w.drewN n := by
  have c1 := sok_any va a w ha ga
  have c2 := sok_any vb b w hb gb
  have c3 := sl2differ_any va vb a b w ha hb
  obtain ⟨ao, ca, rfl⟩ := ha.form
  obtain ⟨bo, cb, rfl⟩ := hb.form
  clear ha hb
  by_cases h1 : blocksOk a = true
  · rw [h1] at c1
    by_cases h2 : blocksOk b = true
    · rw [h2] at c2
      by_cases h3 : a.length = b.length
      · replace c3 := c3 h3 (blocksOk_len h1).2
        have HD : Hid (differI a b = differUp a b 8) := by simp [Hid, differI, bothOk, h1, h2, h3]
        have h3' : ((a.length : Int) != (b.length : Int)) = false := by simp [h3]
        obtain ⟨n, hn⟩ : ∃ n, n = a.length := ⟨_, rfl⟩
        obtain ⟨m, hm⟩ : ∃ m, m = b.length := ⟨_, rfl⟩
        rw [← hn] at c1 c3 h3' ⊢
        rw [← hm] at c2 c3 h3' ⊢
        clear h1 h2 h3 ga gb hn hm
        go_enter Tryd.func19, Tryd.ntmps19
        go_wp2_with fail
        refine c1.mono ?_
        rintro e w' ⟨rfl, hw⟩; subst w'
        go_wp2_with fail
        refine c2.mono ?_
        rintro e w' ⟨rfl, hw⟩; subst w'
        go_wp2_with fail
        refine c3.mono ?_
        rintro e w' ⟨rfl, hw⟩
        go_wp2
        go_ret
        exact ⟨ret_int HD.out.symm, hw⟩
      · have HD : Hid (differI a b = -1) := by simp [Hid, differI, bothOk, h1, h2, h3]
        have h3' : ((a.length : Int) != (b.length : Int)) = true := by simp; omega
        obtain ⟨n, hn⟩ : ∃ n, n = a.length := ⟨_, rfl⟩
        obtain ⟨m, hm⟩ : ∃ m, m = b.length := ⟨_, rfl⟩
        rw [← hn] at c1 h3' ⊢
        rw [← hm] at c2 h3' ⊢
        clear h1 h2 h3 ga gb hn hm c3
        go_enter Tryd.func19, Tryd.ntmps19
        go_wp2_with fail
        refine c1.mono ?_
        rintro e w' ⟨rfl, hw⟩; subst w'
        go_wp2_with fail
        refine c2.mono ?_
        rintro e w' ⟨rfl, hw⟩; subst w'
        go_wp2_with fail
        go_ret
        exact ⟨ret_int HD.out.symm, 0, rfl⟩
    · have h2' : blocksOk b = false := by simpa using h2
      rw [h2'] at c2
      have HD : Hid (differI a b = -1) := by simp [Hid, differI, bothOk, h2']
      obtain ⟨n, hn⟩ : ∃ n, n = a.length := ⟨_, rfl⟩
      obtain ⟨m, hm⟩ : ∃ m, m = b.length := ⟨_, rfl⟩
      rw [← hn] at c1 ⊢
      rw [← hm] at c2 ⊢
      clear h1 h2 h2' ga gb hn hm c3
      go_enter Tryd.func19, Tryd.ntmps19
      go_wp2_with fail
      refine c1.mono ?_
      rintro e w' ⟨rfl, hw⟩; subst w'
      go_wp2_with fail
      refine c2.mono ?_
      rintro e w' ⟨rfl, hw⟩; subst w'
      go_wp2_with fail
      go_ret
      exact ⟨ret_int HD.out.symm, 0, rfl⟩
  · have h1' : blocksOk a = false := by simpa using h1
    rw [h1'] at c1
    have HD : Hid (differI a b = -1) := by simp [Hid, differI, bothOk, h1']
    obtain ⟨n, hn⟩ : ∃ n, n = a.length := ⟨_, rfl⟩
    obtain ⟨m, hm⟩ : ∃ m, m = b.length := ⟨_, rfl⟩
    rw [← hn] at c1 ⊢
    rw [← hm] at ⊢
    clear h1 h1' ga gb hn hm c3 c2
    go_enter Tryd.func19, Tryd.ntmps19
    go_wp2_with fail
    refine c1.mono ?_
    rintro e w' ⟨rfl, hw⟩; subst w'
    go_wp2
    go_ret
    exact ⟨ret_int HD.out.symm, 0, rfl⟩

set_option maxRecDepth 20000 in
set_option maxHeartbeats 400000 in
theorem sset_any (s : Int) (w : World) :
    Calls Tryd.prog 41 #[.int .i64 s] w fun e w' => e = .returned (.bool (setOk s)) ∧ w' = w := by
  by_cases h0 : 0 ≤ s
  · by_cases h1 : s ≤ 255
    · rw [setOk_pos h0 (by omega)]
      go_enter Tryd.func41, Tryd.ntmps41
      go_wp2
      go_ret
      exact ⟨ret_bool (by simp), rfl⟩
    · rw [setOk_neg (by omega)]
      go_enter Tryd.func41, Tryd.ntmps41
      go_wp2
      go_ret
      exact ⟨ret_bool (by simp), rfl⟩
  · rw [setOk_neg (by omega)]
    go_enter Tryd.func41, Tryd.ntmps41
    go_wp2
    go_ret
    exact ⟨ret_bool (by simp), rfl⟩

theorem setOk_bd {s : Int} (h : setOk s = true) : 0 ≤ s ∧ s < 256 := by simpa [setOk] using h
end Go.Proofs.YtnnmcjgmnjokiaaDoor
