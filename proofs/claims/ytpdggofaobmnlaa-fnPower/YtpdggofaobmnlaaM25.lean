/- Arrays of eight numbers in memory: 'Row w g f': block g holds them. What a load, a store, a new one make of it. And rowOf, rowsOf, list, valueOk, countOk answer what plain lists say. -/
import Derived.Test.YtpdggofaobmnlaaM2
import Derived.Laws.Tables
import Derived.Laws.ResultCell
namespace Go.Proofs.Ytpdggofaobmnlaa
open Go.ChangeShapes Go.WideShapes Go.ChangeAt Go.RowKit

def rowA (f : Nat → Int) : Array Value := #[.int .i64 (f 0), .int .i64 (f 1), .int .i64 (f 2), .int .i64 (f 3), .int .i64 (f 4), .int .i64 (f 5), .int .i64 (f 6), .int .i64 (f 7)]
def Row (w : World) (g : Nat) (f : Nat → Int) : Prop := w.heap[g]? = some (.cells (rowA f) 86 (0, 0))
def upd (f : Nat → Int) (j : Nat) (x : Int) : Nat → Int := fun k => if k = j then x else f k

theorem eight {p : Nat → Prop} (h0 : p 0) (h1 : p 1) (h2 : p 2) (h3 : p 3) (h4 : p 4) (h5 : p 5) (h6 : p 6) (h7 : p 7) : ∀ j, j < 8 → p j
  | 0, _ => h0 | 1, _ => h1 | 2, _ => h2 | 3, _ => h3 | 4, _ => h4 | 5, _ => h5 | 6, _ => h6 | 7, _ => h7
  | _ + 8, h => by omega

theorem rowA_at (f : Nat → Int) : ∀ j, j < 8 → (rowA f)[j]? = some (.int .i64 (f j)) := eight rfl rfl rfl rfl rfl rfl rfl rfl
theorem rowA_set (f : Nat → Int) (x : Int) : ∀ j, j < 8 → (rowA f).setIfInBounds j (.int .i64 x) = rowA (upd f j x) := eight rfl rfl rfl rfl rfl rfl rfl rfl
theorem rowA_size (f : Nat → Int) : (rowA f).size = 8 := rfl
theorem rowA_one (f : Nat → Int) : (rowA f).all (·.oneCell') = true := by simp [rowA, Value.oneCell']
theorem rowA_congr {f g : Nat → Int} (h : ∀ j, j < 8 → f j = g j) : rowA f = rowA g := by
  simp [rowA, h 0, h 1, h 2, h 3, h 4, h 5, h 6, h 7]

theorem Row.cell {w : World} {g : Nat} {f : Nat → Int} (h : Row w g f) (j : Nat) (hj : j < 8) : w.cell? ⟨g, j, none⟩ = some (.int .i64 (f j)) := by
  rw [cell_of_row w g j _ _ _ h, rowA_at f j hj]
theorem Row.frozen {w : World} {g : Nat} {f : Nat → Int} (h : Row w g f) (j : Nat) : w.frozen? ⟨g, j, none⟩ = false := frozen_of_row w g j _ _ h
theorem Row.lt {w : World} {g : Nat} {f : Nat → Int} (h : Row w g f) : g < w.heap.size := by
  rcases Nat.lt_or_ge g w.heap.size with hlt | hge
  · exact hlt
  · rw [Row, Array.getElem?_eq_none hge] at h; cases h
theorem Row.below {w w' : World} {g : Nat} {f : Nat → Int} (h : Row w g f) (hb : Below w.heap.size w w') : Row w' g f := (hb.block g h.lt).trans h
theorem Row.alloc {w : World} {g : Nat} {f : Nat → Int} (h : Row w g f) (o : Obj) : Row (w.alloc o) g f := (Below.heap_alloc w o g h.lt).trans h
theorem Row.new (w : World) (f : Nat → Int) : Row (w.alloc (.cells (rowA f) 86)) w.heap.size f := heap_alloc_new w _
theorem Row.setCell {w : World} {g : Nat} {f : Nat → Int} (h : Row w g f) (j : Nat) (hj : j < 8) (x : Int) : Row (w.setCell ⟨g, j, none⟩ (.int .i64 x)) g (upd f j x) := by
  have := heap_setCell_same w g j _ _ (.int .i64 x) h
  rw [rowA_set f x j hj] at this
  exact this
theorem Row.other {w : World} {g : Nat} {f : Nat → Int} (h : Row w g f) (a : Addr) (v : Value) (hne : g ≠ a.block) : Row (w.setCell a v) g f := (heap_setCell_other w a g v hne).trans h
theorem Row.setRow {w : World} {g : Nat} {f : Nat → Int} (h : Row w g f) (f' : Nat → Int) : Row (w.setRow g (rowA f')) g f' := setRow_heap w g _ _ _ _ h
theorem Row.setRow_other {w : World} {g k : Nat} {f : Nat → Int} (h : Row w g f) (cs : Array Value) (hne : g ≠ k) : Row (w.setRow k cs) g f := (_root_.Go.setRow_other w k g cs hne).trans h
theorem below_row {B g : Nat} {w0 w : World} (h : Below B w0 w) (hB : B ≤ g) (cs : Array Value) : Below B w0 (w.setRow g cs) :=
  h.trans ⟨rfl, rfl, rfl, by simp, fun k hk => _root_.Go.setRow_other w g k cs (by omega)⟩

theorem Try.info8 (f : Nat → Int) : (Try.prog.info? 86).map (·.size) = some (rowA f).size := by
  rw [rowA_size]; kernel_rfl
theorem Try.under8 : Try.prog.underlying 86 = some (.array 8 2) := by kernel_rfl

theorem grown_setRow (w : World) (g : Nat) (cs : Array Value) : w.grownBy (w.setRow g cs) (some g) :=
  ⟨rfl, rfl, rfl, by simp, fun k _ hne => _root_.Go.setRow_other w g k cs (fun e => hne (by rw [e]))⟩
theorem Row.kept {w w' : World} {g : Nat} {f : Nat → Int} {row : Option Nat} (h : Row w g f) (hg : w.grownBy w' row) (hne : some g ≠ row) : Row w' g f := (hg.block g h.lt hne).trans h
theorem wpList_get8 {ops : Array Oper} {rest : List Oper} {o : Oper} {a : Act} {w : World} {Q : Exit → Act → World → Prop} (hgd : o.guard = none) (x : Operand) (ho : o.op = .load 86 x)
    (g : Nat) (hx : a.eval x = .pointer (some ⟨g, 0, none⟩)) (f : Nat → Int) (hr : Row w g f)
    (h : wpList Try.prog ops Q rest (a.put o.dst (.agg (rowA f))) w) : wpList Try.prog ops Q (o :: rest) a w :=
  wpList_load_row hgd _ x ho g hx _ _ _ _ hr Try.under8 rfl (Try.info8 f) h
theorem wpList_put8 {ops : Array Oper} {rest : List Oper} {o : Oper} {a : Act} {w : World} {Q : Exit → Act → World → Prop} (hgd : o.guard = none) (x y : Operand) (ho : o.op = .store 86 x y)
    (g : Nat) (f : Nat → Int) (hx : a.eval x = .pointer (some ⟨g, 0, none⟩)) (hy : a.eval y = .agg (rowA f)) (old : Nat → Int) (hr : Row w g old)
    (h : ∀ w', Row w' g f → w.grownBy w' (some g) → wpList Try.prog ops Q rest (a.put o.dst undef) w') : wpList Try.prog ops Q (o :: rest) a w :=
  wpList_store_row hgd _ x y ho g (rowA f) hx hy _ _ hr (Try.info8 f) rfl (rowA_one f) (h _ (hr.setRow f) (grown_setRow w g _))

set_option maxRecDepth 20000 in
set_option maxHeartbeats 400000 in
theorem val_any (x : Int) (w : World) :
    Calls Try.prog 105 #[.int .i64 x] w fun e w' => e = .returned (.bool (valOk x)) ∧ w' = w := by
  by_cases h0 : 0 ≤ x
  · by_cases h1 : x ≤ 9999
    · rw [valOk_yes h0 h1]
      go_enter Try.func105, Try.ntmps105
      go_wp2
      go_ret
      exact ⟨ret_bool (by simp), rfl⟩
    · rw [valOk_no (by omega)]
      go_enter Try.func105, Try.ntmps105
      go_wp2
      go_ret
      exact ⟨ret_bool (by simp), rfl⟩
  · rw [valOk_no (by omega)]
    go_enter Try.func105, Try.ntmps105
    go_wp2
    go_ret
    exact ⟨ret_bool (by simp), rfl⟩

set_option maxRecDepth 20000 in
set_option maxHeartbeats 400000 in
theorem cnt_any (x : Int) (w : World) :
    Calls Try.prog 87 #[.int .i64 x] w fun e w' => e = .returned (.bool (cntOk x)) ∧ w' = w := by
  by_cases h0 : 1 ≤ x
  · by_cases h1 : x ≤ 8
    · rw [cntOk_yes h0 h1]
      go_enter Try.func87, Try.ntmps87
      go_wp2
      go_ret
      exact ⟨ret_bool (by simp), rfl⟩
    · rw [cntOk_no (by omega)]
      go_enter Try.func87, Try.ntmps87
      go_wp2
      go_ret
      exact ⟨ret_bool (by simp), rfl⟩
  · rw [cntOk_no (by omega)]
    go_enter Try.func87, Try.ntmps87
    go_wp2
    go_ret
    exact ⟨ret_bool (by simp), rfl⟩
end Go.Proofs.Ytpdggofaobmnlaa
/- rowOf: the blocks of a list as an array, where they are blocks. -/
namespace Go.Proofs.Ytpdggofaobmnlaa
open Go.ChangeShapes Go.WideShapes Go.ChangeAt Go.RowKit

def partF (xs : List Int) (j : Nat) : Nat → Int := fun k => if k < j then xs.getD k 0 else 0
def rowF (xs : List Int) : Nat → Int := fun j => if blocksOk xs then xs.getD j 0 else 0
theorem partF_step (xs : List Int) (j : Nat) : upd (partF xs j) j (xs.getD j 0) = partF xs (j + 1) := by
  funext k
  unfold upd partF
  by_cases e : k = j
  · subst e; simp
  · have : k < j + 1 ↔ k < j := by omega
    simp [e, this]
theorem partF_zero (xs : List Int) : partF xs 0 = fun _ => 0 := by funext k; simp [partF]
theorem partF_full (xs : List Int) : partF xs xs.length = fun k => xs.getD k 0 := by
  funext k
  unfold partF
  split
  · rfl
  · rw [getD_past xs k (by omega)]

theorem results_row {fn : Func} {p u : Tmp} (h : fn.results = #[.cell p 86, .tmp u]) (tmps : Array Value) (w : World) (g : Nat) (f : Nat → Int) (x : Value)
    (hp : tmps.getD p undef = .pointer (some ⟨g, 0, none⟩)) (hx : tmps.getD u undef = x) (hr : Row w g f) :
    (results fn tmps).run Try.prog w = .ok (.tuple #[.agg (rowA f), x]) w := by
  rw [results_cell_tmp h, hp, hx]
  simp only [asAddr, Sem.run_pure, Result.andThen_ok]
  rw [run_loadVar_row w g _ _ _ _ _ hr Try.under8 rfl (Try.info8 f)]
  rfl

theorem rowF_yes {xs : List Int} (h : blocksOk xs = true) : rowF xs = fun k => xs.getD k 0 := by funext k; simp [rowF, h]
theorem rowF_no {xs : List Int} (h : blocksOk xs = false) : rowF xs = fun _ => 0 := by funext k; simp [rowF, h]
theorem row_zero : (#[.int .i64 0, .int .i64 0, .int .i64 0, .int .i64 0, .int .i64 0, .int .i64 0, .int .i64 0, .int .i64 0] : Array Value) = rowA (fun _ => 0) := rfl

def RowRel (xs : List Int) (w wr : World) (j : Nat) : Prop := Row wr w.heap.size (fun _ => 0) ∧ Row wr (w.heap.size + 1) (partF xs j) ∧ (xs.take j).all valOk = true ∧ Below w.heap.size w wr

theorem RowRel.start (xs : List Int) (w : World) : RowRel xs w ((w.alloc (.cells (rowA fun _ => 0) 86)).alloc (.cells (rowA fun _ => 0) 86)) 0 := by
  refine ⟨(Row.new w _).alloc _, ?_, by simp, ((Below.refl _ _).alloc (Nat.le_refl _) _).alloc (by simp) _⟩
  have := Row.new (w.alloc (.cells (rowA fun _ => 0) 86)) (fun _ => 0)
  rw [partF_zero]
  simpa using this

set_option maxRecDepth 20000 in
set_option maxHeartbeats 1000000 in
theorem rowOf_any (v : Value) (xs : List Int) (w : World) (h : Reads w v xs) (hbig : xs.length ≤ 1099511627776) :
    Calls Try.prog 99 #[v] w fun e w' => e = .returned (.tuple #[.agg (rowA (rowF xs)), .bool (blocksOk xs)]) ∧ Below w.heap.size w w' := by
  obtain ⟨ao, cap, rfl⟩ := h.form
  obtain ⟨-, la, ma, hcell⟩ := h.cellOf
  clear h
  obtain ⟨n, hn⟩ : ∃ n, n = xs.length := ⟨_, rfl⟩
  rw [← hn] at la hcell hbig ⊢
  have HN : Hid (n = xs.length) := hn
  clear hn
  unfold maxLen at ma
  by_cases hc : cntOk (n : Int) = true
  · have h8 : n ≤ 8 := by simp [cntOk] at hc; omega
    have HL : Hid (lenOk xs.length = true) := by rw [Hid, ← HN.out]; exact hc
    go_enter Try.func99, Try.ntmps99
    go_wp2_with (first | (go_at_call 87; refine (cnt_any _ _).mono ?_; rw [hc]; rintro e w' ⟨rfl, hw⟩; subst w'))
    clear hc
    go_loopw [14] (fun i wr => ∃ j : Nat, j ≤ n ∧ i = .int .i64 j ∧ Hid (RowRel xs w wr j)) (fun i _ => n - (intOf i).toNat)
    case atStart => exact ⟨0, Nat.zero_le _, rfl, RowRel.start xs w⟩
    case round =>
      obtain ⟨j, hj, rfl, HR⟩ := hrel
      by_cases hlt : (j : Int) < (n : Int)
      · obtain ⟨b, off, rfl, hb, hc0⟩ := hcell j (by omega)
        have hc1 := (HR.out.2.2.2.cell (p := ⟨b, off + j, none⟩) hb).trans hc0
        obtain ⟨x, hx⟩ : ∃ x, x = xs.getD j 0 := ⟨_, rfl⟩
        rw [← hx] at hc1
        clear hc0 hcell
        by_cases hv : valOk x = true
        · have hfr := HR.out.2.1.frozen j
          have hcc := HR.out.2.1.cell j (by omega)
          have HS : Hid (RowRel xs w (wr.setCell ⟨w.heap.size + 1, j, none⟩ (.int .i64 x)) (j + 1)) := by
            obtain ⟨r1, r2, r3, r4⟩ := HR.out
            refine ⟨r1.other _ _ (by simp), ?_, all_snoc (by have := HN.out; omega) r3 (by rw [← hx]; exact hv), r4.setCell (by simp) _⟩
            have := r2.setCell j (by omega) x
            rwa [hx, partF_step, ← hx] at this
          clear hx HR
          go_wp2_with (first | (go_at_call 105; refine (val_any _ _).mono ?_; rw [hv]; rintro e w' ⟨rfl, hw⟩; subst w'))
          go_roundw
          case rel => exact ⟨j + 1, by omega, by go_num, HS⟩
          case measure => simp [intOf]; omega
        · have hv' : valOk x = false := by simpa using hv
          have HB : Hid (blocksOk xs = false) := by
            simp [Hid, blocksOk, all_not (xs := xs) (j := j) (by have := HN.out; omega) (by rw [← hx]; exact hv')]
          have hrow := HR.out.1
          clear hx hv
          go_wp2_with (first | (go_at_call 105; refine (val_any _ _).mono ?_; rw [hv']; rintro e w' ⟨rfl, hw⟩; subst w') | (refine wpList_store_row rfl 86 _ _ rfl w.heap.size (rowA fun _ => 0) rfl rfl _ _ hrow (Try.info8 _) rfl (rowA_one _) ?_))
          refine bodyPost_ret (results_row rfl _ _ w.heap.size (fun _ => 0) _ rfl rfl (hrow.setRow _)) rfl ?_
          rw [HB.out, rowF_no HB.out]
          exact ⟨rfl, below_row HR.out.2.2.2 (Nat.le_refl _) _⟩
      · have hrow := HR.out.1
        have hrow2 := HR.out.2.1
        go_wp2_with (first | (refine wpList_load_row rfl 86 _ rfl (w.heap.size + 1) rfl _ _ _ _ hrow2 Try.under8 rfl (Try.info8 _) ?_) | (refine wpList_store_row rfl 86 _ _ rfl w.heap.size (rowA (partF xs j)) rfl rfl _ _ hrow (Try.info8 _) rfl (rowA_one _) ?_))
        refine bodyPost_ret (results_row rfl _ _ w.heap.size (partF xs j) _ rfl rfl (hrow.setRow _)) rfl ?_
        have e : j = xs.length := by have := HN.out; omega
        have HB : blocksOk xs = true := by
          have := HR.out.2.2.1
          rw [e, List.take_length] at this
          simp [blocksOk, this, HL.out]
        rw [HB, rowF_yes HB, e, partF_full]
        exact ⟨rfl, below_row HR.out.2.2.2 (Nat.le_refl _) _⟩
  · have hc' : cntOk (n : Int) = false := by simpa using hc
    have HB : Hid (blocksOk xs = false) := by
      have := HN.out
      rw [cntOk_len, this] at hc'
      simp [Hid, blocksOk, hc']
    clear hc
    go_enter Try.func99, Try.ntmps99
    go_wp2_with (first | (go_at_call 87; refine (cnt_any _ _).mono ?_; rw [hc']; rintro e w' ⟨rfl, hw⟩; subst w'))
    refine bodyPost_ret (results_row rfl _ _ w.heap.size (fun _ => 0) _ rfl rfl (RowRel.start xs w).1) rfl ?_
    rw [HB.out, rowF_no HB.out]
    exact ⟨rfl, ((Below.refl _ _).alloc (Nat.le_refl _) _).alloc (by simp) _⟩
end Go.Proofs.Ytpdggofaobmnlaa
/- The program's BlocksOk, NewBlocks and Put answer what plain lists say, in new memory, and write nothing that was there. -/
namespace Go.Proofs.Ytpdggofaobmnlaa
open Go.ChangeShapes Go.WideShapes Go.ChangeAt Go.RowKit

def listF (f : Nat → Int) (n : Nat) : List Int := (List.range n).map f
theorem listF_len (f : Nat → Int) (n : Nat) : (listF f n).length = n := by simp [listF]
theorem listF_getD (xs : List Int) : listF (fun k => xs.getD k 0) xs.length = xs := by
  apply List.ext_getElem
  · simp [listF]
  · intro j h1 h2
    simp [listF, List.getD, h2]

set_option maxRecDepth 20000 in
set_option maxHeartbeats 1000000 in
theorem list_any (f : Nat → Int) (n : Nat) (w : World) (h8 : n ≤ 8) :
    Calls Try.prog 97 #[.agg (rowA f), .int .i64 n] w fun e w' => ∃ u, e = .returned u ∧ Own w' w.heap.size u (listF f n) ∧ Below w.heap.size w w' := by
  obtain ⟨i0, hi, hz0, hz1, hz2⟩ := info_parts Try.infoI
  have h8' : (n : Int) ≤ 8 := by omega
  obtain ⟨w1, hw1⟩ : ∃ w1, w1 = (w.alloc (.cells (rowA f) 86)).alloc (.cells #[] 2) := ⟨_, rfl⟩
  have hown : w1.ownsRow w.heap.size 2 1 (.slice (some ⟨w.heap.size + 1, 0, none⟩) 0 0) 0 [] := by
    have := World.ownsRow_lit (base := w.heap.size) (e := 2) (size := 1) (w.alloc (.cells (rowA f) 86)) #[] 0 (by simp) (Nat.zero_le _) rfl
    rw [hw1]
    simpa using this
  have hrow : Row w1 w.heap.size f := by rw [hw1]; exact (Row.new w f).alloc _
  have hnews : ∀ j u, ((listF f n).map (Value.int .i64))[j]? = some u → w1.cell? ((⟨w.heap.size, 0, none⟩ : Addr).add j) = some u := by
    intro j u hj
    have hlt : j < n := by
      rcases Nat.lt_or_ge j n with h | h
      · exact h
      · rw [List.getElem?_eq_none (by simpa [listF] using h)] at hj; cases hj
    rw [show (⟨w.heap.size, 0, none⟩ : Addr).add j = ⟨w.heap.size, j, none⟩ by unfold Addr.add; split <;> simp_all]
    rw [hrow.cell j (by omega)]
    simp [listF, hlt] at hj ⊢
    exact hj
  have hone : ∀ u ∈ (listF f n).map (Value.int .i64), u.oneCell' = true := by
    intro u hu
    obtain ⟨x, _, rfl⟩ := List.mem_map.1 hu
    rfl
  have hll : ((listF f n).map (Value.int .i64)).length = n * 1 := by simp [listF]
  have hb1 : Below w.heap.size w w1 := by rw [hw1]; exact ((Below.refl _ _).alloc (Nat.le_refl _) _).alloc (by simp) _
  go_enter Try.func97, Try.ntmps97
  go_wp2_with (at_builtin; rw [← hw1]; refine wpList_append_own _ rfl _ _ 24 rfl w.heap.size 2 i0 (.int .i64 0) 1 8 Try.underlying24 hi hz0 hz1 hz2 rfl (by decide) _ _ _ rfl hown _ n 8 ((listF f n).map (Value.int .i64)) rfl hll hnews hone (by unfold maxLen; omega) (by omega) hb1.size ?_)
  intro v' w2 hown' hgrow _
  rw [← hw1] at hgrow
  have HG : Hid (Below w.heap.size w w2) := hb1.grown hgrow hb1.size (fun g e => by simp [Value.ownBlock] at e; omega)
  go_wp2
  go_ret
  refine ⟨_, rfl, ?_, HG.out⟩
  unfold Own
  simpa [listF_len] using hown'

set_option maxRecDepth 20000 in
set_option maxHeartbeats 1000000 in
theorem new_any8 (n : Int) (w : World) :
    Calls Try.prog 88 #[.int .i64 n] w fun e w' => ∃ u, e = .returned u ∧ Own w' w.heap.size u (zerosI n) ∧ Below w.heap.size w w' := by
  by_cases hc : cntOk n = true
  · obtain ⟨k, rfl⟩ : ∃ k : Nat, n = k := ⟨n.toNat, by simp [cntOk] at hc; omega⟩
    have h8 : k ≤ 8 := by simp [cntOk] at hc; omega
    have HZ : Hid (listF (fun _ => 0) k = zerosI k) := by
      have h1 : 1 ≤ k := by simp [cntOk] at hc; omega
      rw [Hid, zerosI, if_pos (by omega)]
      apply List.ext_getElem
      · simp [listF]
      · intro j h1 h2
        simp [listF]
    go_enter Try.func88, Try.ntmps88
    go_wp2_with (first | (go_at_call 87; refine (cnt_any _ _).mono ?_; rw [hc]; rintro e w' ⟨rfl, hw⟩; subst w') | (go_at_call 97; refine (list_any (fun _ => 0) k _ h8).mono ?_; rw [HZ.out]; rintro e w1 ⟨u, rfl, o1, b1⟩; have HU : Hid (Own w1 w.heap.size u (zerosI k) ∧ Below w.heap.size w w1) := ⟨o1, b1⟩; clear o1 b1))
    go_ret
    exact ⟨_, rfl, HU.out⟩
  · have hc' : cntOk n = false := by simpa using hc
    have HZ : Hid (zerosI n = []) := by simp [Hid, zerosI]; simp [cntOk] at hc'; omega
    clear hc
    go_enter Try.func88, Try.ntmps88
    go_wp2_with (go_at_call 87; refine (cnt_any _ _).mono ?_; rw [hc']; rintro e w' ⟨rfl, hw⟩; subst w')
    go_ret
    rw [HZ.out]
    exact ⟨_, rfl, ownEmpty w, belowNew w _⟩

theorem listF_set (xs : List Int) (i : Nat) (x : Int) : listF (upd (fun k => xs.getD k 0) i x) xs.length = xs.set i x := by
  apply List.ext_getElem
  · simp [listF]
  · intro j h1 h2
    have h3 : j < xs.length := by simpa [listF] using h1
    rw [List.getElem_set]
    by_cases e : i = j
    · subst e; simp [listF, upd]
    · have e' : ¬ j = i := fun h => e h.symm
      simp [listF, upd, e, e', List.getD, h3]
end Go.Proofs.Ytpdggofaobmnlaa
