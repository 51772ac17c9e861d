/- Arrays of eight numbers compared; the set's own methods. -/
import Derived.Test.YtpdggofaobmnlaaIRows
import Derived.Laws.StructEq
namespace Go.Proofs.Ytpdggofaobmnlaa
open Go.ChangeShapes Go.WideShapes Go.ChangeAt Go.RowKit

def same8 (f g : Nat → Int) : Bool := (f 0 == g 0) && ((f 1 == g 1) && ((f 2 == g 2) && ((f 3 == g 3) && ((f 4 == g 4) && ((f 5 == g 5) && ((f 6 == g 6) && (f 7 == g 7)))))))
theorem same8_all {f g : Nat → Int} (h : same8 f g = true) : ∀ j, j < 8 → f j = g j := by
  simp [same8] at h
  obtain ⟨h0, h1, h2, h3, h4, h5, h6, h7⟩ := h
  exact eight h0 h1 h2 h3 h4 h5 h6 h7
theorem same8_of {f g : Nat → Int} (h : ∀ j, j < 8 → f j = g j) : same8 f g = true := by
  simp [same8, h 0, h 1, h 2, h 3, h 4, h 5, h 6, h 7]

theorem run_eq8 (f g : Nat → Int) (w : World) : (Op.equalIn 10000 86 (.agg (rowA f)) (.agg (rowA g))).run Try.prog w = .ok (same8 f g) w := by
  obtain ⟨i0, hi, hz0, hz1, hz2⟩ := info_parts Try.infoI
  have hz : Try.prog.cellsOf 2 = 1 := by kernel_rfl
  have hu : Try.prog.underlying 2 = some (.int .i64) := by kernel_rfl
  rw [show (10000 : Nat) = 9998 + 1 + 1 from rfl, run_equalIn_array (i := i0) w (9998 + 1) _ _ Try.under8 hi, hz]
  simp [List.range, List.range.loop, Op.eqItems, part, Sem.run_bind, sizeOf, typeInfo, hi, hz1, hu, rowA, run_equalIn_int, same8]
  (repeat' split) <;> simp_all

set_option maxRecDepth 20000 in
set_option maxHeartbeats 400000 in
theorem bsok_any (s : Int) (w : World) :
    Calls Try.prog 67 #[.int .i64 s] w fun e w' => e = .returned (.bool (setOk s)) ∧ w' = w := by
  by_cases h0 : 0 ≤ s
  · by_cases h1 : s < 256
    · rw [setOk_pos h0 (by omega)]
      go_enter Try.func67, Try.ntmps67
      go_wp2
      go_ret
      exact ⟨ret_bool (by simp), rfl⟩
    · rw [setOk_neg (by omega)]
      go_enter Try.func67, Try.ntmps67
      go_wp2
      go_ret
      exact ⟨ret_bool (by simp), rfl⟩
  · rw [setOk_neg (by omega)]
    go_enter Try.func67, Try.ntmps67
    go_wp2
    go_ret
    exact ⟨ret_bool (by simp), rfl⟩

set_option maxRecDepth 20000 in
set_option maxHeartbeats 400000 in
theorem bshas_any (s i : Int) (w : World) (h0 : 0 ≤ s) (h1 : s < 256) (h2 : 0 ≤ i) (h3 : i < 8) :
    Calls Try.prog 96 #[.int .i64 s, .int .i64 i] w fun e w' => e = .returned (.bool (inB s i)) ∧ w' = w := by
  go_enter Try.func96, Try.ntmps96
  go_wp2
  go_ret
  exact ⟨ret_bool (and_in h0 h1 h2 h3), rfl⟩

def mixF (a b : List Int) (j : Nat) : Nat → Int := fun k => if k < j then b.getD k 0 else a.getD k 0
theorem mixF_zero (a b : List Int) : mixF a b 0 = fun k => a.getD k 0 := by funext k; simp [mixF]
theorem mixF_step (a b : List Int) (j : Nat) : upd (mixF a b j) j (b.getD j 0) = mixF a b (j + 1) := by
  funext k
  unfold upd mixF
  by_cases e : k = j
  · subst e; simp
  · have : k < j + 1 ↔ k < j := by omega
    simp [e, this]
theorem mixF_skip (a b : List Int) (j : Nat) (h : a.getD j 0 = b.getD j 0) : mixF a b j = mixF a b (j + 1) := by
  funext k
  unfold mixF
  by_cases e : k = j
  · subst e; rw [if_neg (by omega), if_pos (by omega), h]
  · have : k < j + 1 ↔ k < j := by omega
    simp [this]
theorem mixF_at (a b : List Int) (j : Nat) : mixF a b j j = a.getD j 0 := by simp [mixF]
theorem mixF_lt {a b : List Int} {j : Nat} (h : same8 (mixF a b j) (fun k => b.getD k 0) = false) : j < 8 := by
  rcases Nat.lt_or_ge j 8 with h8 | h8
  · exact h8
  · rw [same8_of (fun k hk => by rw [mixF, if_pos (by omega)])] at h; cases h
theorem mixF_done {a b : List Int} {j : Nat} (ha : a.length ≤ 8) (hb : b.length ≤ 8) (hj : j ≤ 8) (h : same8 (mixF a b j) (fun k => b.getD k 0) = true) : differUp a b j = differUp a b 8 := by
  have h1 := same8_all h
  have := differUp_more a b j (fun k hk => by
    rcases Nat.lt_or_ge k 8 with h8 | h8
    · have := h1 k h8
      rwa [mixF, if_neg (by omega)] at this
    · rw [getD_past a k (by omega), getD_past b k (by omega)]) (8 - j)
  rw [← this]; congr 1; omega

def DRel (a b : List Int) (w wr : World) (G5 G6 j : Nat) : Prop := Row wr G5 (mixF a b j) ∧ Row wr G6 (fun k => b.getD k 0) ∧ Below w.heap.size w wr

theorem below_new8 {B : Nat} {w0 w w' : World} {g : Nat} (h : Below B w0 w) (hB : B ≤ w.heap.size) (o : Obj) (hg : (w.alloc o).grownBy w' (some g)) (hBg : B ≤ g) : Below B w0 w' :=
  (h.alloc hB o).grown hg (by simp; omega) (fun k e => by cases e; exact hBg)

/- Two new arrays, one behind the other, as the walk lays them. -/
theorem two_rows (w : World) : Row ((w.alloc (.cells (rowA fun _ => 0) 86)).alloc (.cells (rowA fun _ => 0) 86)) w.heap.size (fun _ => 0) ∧
    Row ((w.alloc (.cells (rowA fun _ => 0) 86)).alloc (.cells (rowA fun _ => 0) 86)) (w.heap.size + 1) (fun _ => 0) := by
  refine ⟨(Row.new w _).alloc _, ?_⟩
  have := Row.new (w.alloc (.cells (rowA fun _ => 0) 86)) (fun _ => 0)
  simpa using this
theorem below_two {B : Nat} {w0 w w' : World} {g : Nat} (h : Below B w0 w) (hB : B ≤ w.heap.size) (o o' : Obj) (hg : ((w.alloc o).alloc o').grownBy w' (some g)) (hBg : B ≤ g) : Below B w0 w' :=
  ((h.alloc hB o).alloc (by simp; omega) o').grown hg (by simp; omega) (fun k e => by cases e; exact hBg)
end Go.Proofs.Ytpdggofaobmnlaa
/- Differ of the program answers what plain lists say. -/
namespace Go.Proofs.Ytpdggofaobmnlaa
open Go.ChangeShapes Go.WideShapes Go.ChangeAt Go.RowKit
end Go.Proofs.Ytpdggofaobmnlaa
