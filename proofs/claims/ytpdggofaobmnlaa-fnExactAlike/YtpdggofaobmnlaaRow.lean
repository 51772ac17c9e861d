/- rowOf: the blocks of a list as an array, where they are blocks. -/
import Derived.Test.YtpdggofaobmnlaaArr
namespace Go.Proofs.Ytpdggofaobmnlaa
open Go.ChangeShapes Go.WideShapes Go.ChangeAt Go.RowKit

def partF (xs : List Int) (j : Nat) : Nat → Int := fun k => if k < j then xs.getD k 0 else 0
def rowF (xs : List Int) : Nat → Int := fun j => if blocksOk xs then xs.getD j 0 else 0
theorem partF_step (xs : List Int) (j : Nat) : upd (partF xs j) j (xs.getD j 0) = partF xs (j + 1) := by
  funext k
  unfold upd partF
  by_cases e : k = j
  · subst e; simp
  · have : k < j + 1 ↔ k < j := by omega
    simp [e, this]
theorem partF_zero (xs : List Int) : partF xs 0 = fun _ => 0 := by funext k; simp [partF]
theorem partF_full (xs : List Int) : partF xs xs.length = fun k => xs.getD k 0 := by
  funext k
  unfold partF
  split
  · rfl
  · rw [getD_past xs k (by omega)]

theorem results_row {fn : Func} {p u : Tmp} (h : fn.results = #[.cell p 86, .tmp u]) (tmps : Array Value) (w : World) (g : Nat) (f : Nat → Int) (x : Value)
    (hp : tmps.getD p undef = .pointer (some ⟨g, 0, none⟩)) (hx : tmps.getD u undef = x) (hr : Row w g f) :
    (results fn tmps).run Try.prog w = .ok (.tuple #[.agg (rowA f), x]) w := by
  rw [results_cell_tmp h, hp, hx]
  simp only [asAddr, Sem.run_pure, Result.andThen_ok]
  rw [run_loadVar_row w g _ _ _ _ _ hr Try.under8 rfl (Try.info8 f)]
  rfl

theorem rowF_yes {xs : List Int} (h : blocksOk xs = true) : rowF xs = fun k => xs.getD k 0 := by funext k; simp [rowF, h]
theorem rowF_no {xs : List Int} (h : blocksOk xs = false) : rowF xs = fun _ => 0 := by funext k; simp [rowF, h]
theorem row_zero : (#[.int .i64 0, .int .i64 0, .int .i64 0, .int .i64 0, .int .i64 0, .int .i64 0, .int .i64 0, .int .i64 0] : Array Value) = rowA (fun _ => 0) := rfl

def RowRel (xs : List Int) (w wr : World) (j : Nat) : Prop := Row wr w.heap.size (fun _ => 0) ∧ Row wr (w.heap.size + 1) (partF xs j) ∧ (xs.take j).all valOk = true ∧ Below w.heap.size w wr

theorem RowRel.start (xs : List Int) (w : World) : RowRel xs w ((w.alloc (.cells (rowA fun _ => 0) 86)).alloc (.cells (rowA fun _ => 0) 86)) 0 := by
  refine ⟨(Row.new w _).alloc _, ?_, by simp, ((Below.refl _ _).alloc (Nat.le_refl _) _).alloc (by simp) _⟩
  have := Row.new (w.alloc (.cells (rowA fun _ => 0) 86)) (fun _ => 0)
  rw [partF_zero]
  simpa using this

set_option maxRecDepth 20000 in
set_option maxHeartbeats 1000000 in
theorem rowOf_any (v : Value) (xs : List Int) (w : World) (h : Reads w v xs) (hbig : xs.length ≤ 1099511627776) :
    Calls Try.prog 99 #[v] w fun e w' => e = .returned (.tuple #[.agg (rowA (rowF xs)), .bool (blocksOk xs)]) ∧ Below w.heap.size w w' := by
  obtain ⟨ao, cap, rfl⟩ := h.form
  obtain ⟨-, la, ma, hcell⟩ := h.cellOf
  clear h
  obtain ⟨n, hn⟩ : ∃ n, n = xs.length := ⟨_, rfl⟩
  rw [← hn] at la hcell hbig ⊢
  have HN : Hid (n = xs.length) := hn
  clear hn
  unfold maxLen at ma
  by_cases hc : cntOk (n : Int) = true
  · have h8 : n ≤ 8 := by simp [cntOk] at hc; omega
    have HL : Hid (lenOk xs.length = true) := by rw [Hid, ← HN.out]; exact hc
    go_enter Try.func99, Try.ntmps99
    go_wp2_with (first | (go_at_call 87; refine (cnt_any _ _).mono ?_; rw [hc]; rintro e w' ⟨rfl, hw⟩; subst w'))
    clear hc
    go_loopw [14] (fun i wr => ∃ j : Nat, j ≤ n ∧ i = .int .i64 j ∧ Hid (RowRel xs w wr j)) (fun i _ => n - (intOf i).toNat)
    case atStart => exact ⟨0, Nat.zero_le _, rfl, RowRel.start xs w⟩
    case round =>
      obtain ⟨j, hj, rfl, HR⟩ := hrel
      by_cases hlt : (j : Int) < (n : Int)
      · obtain ⟨b, off, rfl, hb, hc0⟩ := hcell j (by omega)
        have hc1 := (HR.out.2.2.2.cell (p := ⟨b, off + j, none⟩) hb).trans hc0
        obtain ⟨x, hx⟩ : ∃ x, x = xs.getD j 0 := ⟨_, rfl⟩
        rw [← hx] at hc1
        clear hc0 hcell
        by_cases hv : valOk x = true
        · have hfr := HR.out.2.1.frozen j
          have hcc := HR.out.2.1.cell j (by omega)
          have HS : Hid (RowRel xs w (wr.setCell ⟨w.heap.size + 1, j, none⟩ (.int .i64 x)) (j + 1)) := by
            obtain ⟨r1, r2, r3, r4⟩ := HR.out
            refine ⟨r1.other _ _ (by simp), ?_, all_snoc (by have := HN.out; omega) r3 (by rw [← hx]; exact hv), r4.setCell (by simp) _⟩
            have := r2.setCell j (by omega) x
            rwa [hx, partF_step, ← hx] at this
          clear hx HR
          go_wp2_with (first | (go_at_call 105; refine (val_any _ _).mono ?_; rw [hv]; rintro e w' ⟨rfl, hw⟩; subst w'))
          go_roundw
          case rel => exact ⟨j + 1, by omega, by go_num, HS⟩
          case measure => simp [intOf]; omega
        · have hv' : valOk x = false := by simpa using hv
          have HB : Hid (blocksOk xs = false) := by
            simp [Hid, blocksOk, all_not (xs := xs) (j := j) (by have := HN.out; omega) (by rw [← hx]; exact hv')]
          have hrow := HR.out.1
          clear hx hv
          go_wp2_with (first | (go_at_call 105; refine (val_any _ _).mono ?_; rw [hv']; rintro e w' ⟨rfl, hw⟩; subst w') | (refine wpList_store_row rfl 86 _ _ rfl w.heap.size (rowA fun _ => 0) rfl rfl _ _ hrow (Try.info8 _) rfl (rowA_one _) ?_))
          refine bodyPost_ret (results_row rfl _ _ w.heap.size (fun _ => 0) _ rfl rfl (hrow.setRow _)) rfl ?_
          rw [HB.out, rowF_no HB.out]
          exact ⟨rfl, below_row HR.out.2.2.2 (Nat.le_refl _) _⟩
      · have hrow := HR.out.1
        have hrow2 := HR.out.2.1
        go_wp2_with (first | (refine wpList_load_row rfl 86 _ rfl (w.heap.size + 1) rfl _ _ _ _ hrow2 Try.under8 rfl (Try.info8 _) ?_) | (refine wpList_store_row rfl 86 _ _ rfl w.heap.size (rowA (partF xs j)) rfl rfl _ _ hrow (Try.info8 _) rfl (rowA_one _) ?_))
        refine bodyPost_ret (results_row rfl _ _ w.heap.size (partF xs j) _ rfl rfl (hrow.setRow _)) rfl ?_
        have e : j = xs.length := by have := HN.out; omega
        have HB : blocksOk xs = true := by
          have := HR.out.2.2.1
          rw [e, List.take_length] at this
          simp [blocksOk, this, HL.out]
        rw [HB, rowF_yes HB, e, partF_full]
        exact ⟨rfl, below_row HR.out.2.2.2 (Nat.le_refl _) _⟩
  · have hc' : cntOk (n : Int) = false := by simpa using hc
    have HB : Hid (blocksOk xs = false) := by
      have := HN.out
      rw [cntOk_len, this] at hc'
      simp [Hid, blocksOk, hc']
    clear hc
    go_enter Try.func99, Try.ntmps99
    go_wp2_with (first | (go_at_call 87; refine (cnt_any _ _).mono ?_; rw [hc']; rintro e w' ⟨rfl, hw⟩; subst w'))
    refine bodyPost_ret (results_row rfl _ _ w.heap.size (fun _ => 0) _ rfl rfl (RowRel.start xs w).1) rfl ?_
    rw [HB.out, rowF_no HB.out]
    exact ⟨rfl, ((Below.refl _ _).alloc (Nat.le_refl _) _).alloc (by simp) _⟩
end Go.Proofs.Ytpdggofaobmnlaa
