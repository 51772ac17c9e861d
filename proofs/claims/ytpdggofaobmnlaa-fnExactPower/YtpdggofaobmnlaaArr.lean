/- Arrays of eight numbers in memory: 'Row w g f': block g holds them. What a load, a store, a new one make of it. And rowOf, rowsOf, list, valueOk, countOk answer what plain lists say. -/
import Derived.Test.YtpdggofaobmnlaaSBlocks
import Derived.Laws.Tables
import Derived.Laws.ResultCell
namespace Go.Proofs.Ytpdggofaobmnlaa
open Go.ChangeShapes Go.WideShapes Go.ChangeAt Go.RowKit

def rowA (f : Nat → Int) : Array Value := #[.int .i64 (f 0), .int .i64 (f 1), .int .i64 (f 2), .int .i64 (f 3), .int .i64 (f 4), .int .i64 (f 5), .int .i64 (f 6), .int .i64 (f 7)]
def Row (w : World) (g : Nat) (f : Nat → Int) : Prop := w.heap[g]? = some (.cells (rowA f) 86 (0, 0))
def upd (f : Nat → Int) (j : Nat) (x : Int) : Nat → Int := fun k => if k = j then x else f k

theorem eight {p : Nat → Prop} (h0 : p 0) (h1 : p 1) (h2 : p 2) (h3 : p 3) (h4 : p 4) (h5 : p 5) (h6 : p 6) (h7 : p 7) : ∀ j, j < 8 → p j
  | 0, _ => h0 | 1, _ => h1 | 2, _ => h2 | 3, _ => h3 | 4, _ => h4 | 5, _ => h5 | 6, _ => h6 | 7, _ => h7
  | _ + 8, h => by omega

theorem rowA_at (f : Nat → Int) : ∀ j, j < 8 → (rowA f)[j]? = some (.int .i64 (f j)) := eight rfl rfl rfl rfl rfl rfl rfl rfl
theorem rowA_set (f : Nat → Int) (x : Int) : ∀ j, j < 8 → (rowA f).setIfInBounds j (.int .i64 x) = rowA (upd f j x) := eight rfl rfl rfl rfl rfl rfl rfl rfl
theorem rowA_size (f : Nat → Int) : (rowA f).size = 8 := rfl
theorem rowA_one (f : Nat → Int) : (rowA f).all (·.oneCell') = true := by simp [rowA, Value.oneCell']
theorem rowA_congr {f g : Nat → Int} (h : ∀ j, j < 8 → f j = g j) : rowA f = rowA g := by
  simp [rowA, h 0, h 1, h 2, h 3, h 4, h 5, h 6, h 7]

theorem Row.cell {w : World} {g : Nat} {f : Nat → Int} (h : Row w g f) (j : Nat) (hj : j < 8) : w.cell? ⟨g, j, none⟩ = some (.int .i64 (f j)) := by
  rw [cell_of_row w g j _ _ _ h, rowA_at f j hj]
theorem Row.frozen {w : World} {g : Nat} {f : Nat → Int} (h : Row w g f) (j : Nat) : w.frozen? ⟨g, j, none⟩ = false := frozen_of_row w g j _ _ h
theorem Row.lt {w : World} {g : Nat} {f : Nat → Int} (h : Row w g f) : g < w.heap.size := by
  rcases Nat.lt_or_ge g w.heap.size with hlt | hge
  · exact hlt
  · rw [Row, Array.getElem?_eq_none hge] at h; cases h
theorem Row.below {w w' : World} {g : Nat} {f : Nat → Int} (h : Row w g f) (hb : Below w.heap.size w w') : Row w' g f := (hb.block g h.lt).trans h
theorem Row.alloc {w : World} {g : Nat} {f : Nat → Int} (h : Row w g f) (o : Obj) : Row (w.alloc o) g f := (Below.heap_alloc w o g h.lt).trans h
theorem Row.new (w : World) (f : Nat → Int) : Row (w.alloc (.cells (rowA f) 86)) w.heap.size f := heap_alloc_new w _
theorem Row.setCell {w : World} {g : Nat} {f : Nat → Int} (h : Row w g f) (j : Nat) (hj : j < 8) (x : Int) : Row (w.setCell ⟨g, j, none⟩ (.int .i64 x)) g (upd f j x) := by
  have := heap_setCell_same w g j _ _ (.int .i64 x) h
  rw [rowA_set f x j hj] at this
  exact this
theorem Row.other {w : World} {g : Nat} {f : Nat → Int} (h : Row w g f) (a : Addr) (v : Value) (hne : g ≠ a.block) : Row (w.setCell a v) g f := (heap_setCell_other w a g v hne).trans h
theorem Row.setRow {w : World} {g : Nat} {f : Nat → Int} (h : Row w g f) (f' : Nat → Int) : Row (w.setRow g (rowA f')) g f' := setRow_heap w g _ _ _ _ h
theorem Row.setRow_other {w : World} {g k : Nat} {f : Nat → Int} (h : Row w g f) (cs : Array Value) (hne : g ≠ k) : Row (w.setRow k cs) g f := (_root_.Go.setRow_other w k g cs hne).trans h
theorem below_row {B g : Nat} {w0 w : World} (h : Below B w0 w) (hB : B ≤ g) (cs : Array Value) : Below B w0 (w.setRow g cs) :=
  h.trans ⟨rfl, rfl, rfl, by simp, fun k hk => _root_.Go.setRow_other w g k cs (by omega)⟩

theorem Try.info8 (f : Nat → Int) : (Try.prog.info? 86).map (·.size) = some (rowA f).size := by
  rw [rowA_size]; kernel_rfl
theorem Try.under8 : Try.prog.underlying 86 = some (.array 8 2) := by kernel_rfl

theorem grown_setRow (w : World) (g : Nat) (cs : Array Value) : w.grownBy (w.setRow g cs) (some g) :=
  ⟨rfl, rfl, rfl, by simp, fun k _ hne => _root_.Go.setRow_other w g k cs (fun e => hne (by rw [e]))⟩
theorem Row.kept {w w' : World} {g : Nat} {f : Nat → Int} {row : Option Nat} (h : Row w g f) (hg : w.grownBy w' row) (hne : some g ≠ row) : Row w' g f := (hg.block g h.lt hne).trans h
theorem wpList_get8 {ops : Array Oper} {rest : List Oper} {o : Oper} {a : Act} {w : World} {Q : Exit → Act → World → Prop} (hgd : o.guard = none) (x : Operand) (ho : o.op = .load 86 x)
    (g : Nat) (hx : a.eval x = .pointer (some ⟨g, 0, none⟩)) (f : Nat → Int) (hr : Row w g f)
    (h : wpList Try.prog ops Q rest (a.put o.dst (.agg (rowA f))) w) : wpList Try.prog ops Q (o :: rest) a w :=
  wpList_load_row hgd _ x ho g hx _ _ _ _ hr Try.under8 rfl (Try.info8 f) h
theorem wpList_put8 {ops : Array Oper} {rest : List Oper} {o : Oper} {a : Act} {w : World} {Q : Exit → Act → World → Prop} (hgd : o.guard = none) (x y : Operand) (ho : o.op = .store 86 x y)
    (g : Nat) (f : Nat → Int) (hx : a.eval x = .pointer (some ⟨g, 0, none⟩)) (hy : a.eval y = .agg (rowA f)) (old : Nat → Int) (hr : Row w g old)
    (h : ∀ w', Row w' g f → w.grownBy w' (some g) → wpList Try.prog ops Q rest (a.put o.dst undef) w') : wpList Try.prog ops Q (o :: rest) a w :=
  wpList_store_row hgd _ x y ho g (rowA f) hx hy _ _ hr (Try.info8 f) rfl (rowA_one f) (h _ (hr.setRow f) (grown_setRow w g _))

set_option maxRecDepth 20000 in
set_option maxHeartbeats 400000 in
theorem val_any (x : Int) (w : World) :
    Calls Try.prog 105 #[.int .i64 x] w fun e w' => e = .returned (.bool (valOk x)) ∧ w' = w := by
  by_cases h0 : 0 ≤ x
  · by_cases h1 : x ≤ 9999
    · rw [valOk_yes h0 h1]
      go_enter Try.func105, Try.ntmps105
      go_wp2
      go_ret
      exact ⟨ret_bool (by simp), rfl⟩
    · rw [valOk_no (by omega)]
      go_enter Try.func105, Try.ntmps105
      go_wp2
      go_ret
      exact ⟨ret_bool (by simp), rfl⟩
  · rw [valOk_no (by omega)]
    go_enter Try.func105, Try.ntmps105
    go_wp2
    go_ret
    exact ⟨ret_bool (by simp), rfl⟩

set_option maxRecDepth 20000 in
set_option maxHeartbeats 400000 in
theorem cnt_any (x : Int) (w : World) :
    Calls Try.prog 87 #[.int .i64 x] w fun e w' => e = .returned (.bool (cntOk x)) ∧ w' = w := by
  by_cases h0 : 1 ≤ x
  · by_cases h1 : x ≤ 8
    · rw [cntOk_yes h0 h1]
      go_enter Try.func87, Try.ntmps87
      go_wp2
      go_ret
      exact ⟨ret_bool (by simp), rfl⟩
    · rw [cntOk_no (by omega)]
      go_enter Try.func87, Try.ntmps87
      go_wp2
      go_ret
      exact ⟨ret_bool (by simp), rfl⟩
  · rw [cntOk_no (by omega)]
    go_enter Try.func87, Try.ntmps87
    go_wp2
    go_ret
    exact ⟨ret_bool (by simp), rfl⟩
end Go.Proofs.Ytpdggofaobmnlaa
