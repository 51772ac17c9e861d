/- rowOf: the blocks of a list as an array, where they are blocks. -/
import Derived.Test.YteooloceaoinlaaDoorM21
namespace Go.Proofs.YteooloceaoinlaaDoor
open Go.ChangeShapes Go.WideShapes Go.ChangeAt Go.RowKit

def partF (xs : List Int) (j : Nat) : Nat → Int := fun k => if k < j then xs.getD k 0 else 0
def rowF (xs : List Int) : Nat → Int := fun j => if blocksOk xs then xs.getD j 0 else 0
theorem partF_step (xs : List Int) (j : Nat) : upd (partF xs j) j (xs.getD j 0) = partF xs (j + 1) := by
  funext k
  unfold upd partF
  by_cases e : k = j
  · subst e; simp
  · have : k < j + 1 ↔ k < j := by omega
    simp [e, this]
theorem partF_zero (xs : List Int) : partF xs 0 = fun _ => 0 := by funext k; simp [partF]
theorem partF_full (xs : List Int) : partF xs xs.length = fun k => xs.getD k 0 := by
  funext k
  unfold partF
  split
  · rfl
  · rw [getD_past xs k (by omega)]

theorem results_row {fn : Func} {p u : Tmp} (h : fn.results = #[.cell p 78, .tmp u]) (tmps : Array Value) (w : World) (g : Nat) (f : Nat → Int) (x : Value)
    (hp : tmps.getD p undef = .pointer (some ⟨g, 0, none⟩)) (hx : tmps.getD u undef = x) (hr : Row w g f) :
    (results fn tmps).run Tryd.prog w = .ok (.tuple #[.agg (rowA f), x]) w := by
  rw [results_cell_tmp h, hp, hx]
  simp only [asAddr, Sem.run_pure, Result.andThen_ok]
  rw [run_loadVar_row w g _ _ _ _ _ hr Tryd.under8 rfl (Tryd.info8 f)]
  rfl

theorem rowF_yes {xs : List Int} (h : blocksOk xs = true) : rowF xs = fun k => xs.getD k 0 := by funext k; simp [rowF, h]
theorem rowF_no {xs : List Int} (h : blocksOk xs = false) : rowF xs = fun _ => 0 := by funext k; simp [rowF, h]
theorem row_zero : (#[.int .i64 0, .int .i64 0, .int .i64 0, .int .i64 0, .int .i64 0, .int .i64 0, .int .i64 0, .int .i64 0] : Array Value) = rowA (fun _ => 0) := rfl

def RowRel (xs : List Int) (w wr : World) (j : Nat) : Prop := Row wr w.heap.size (fun _ => 0) ∧ Row wr (w.heap.size + 1) (partF xs j) ∧ (xs.take j).all valOk = true ∧ Below w.heap.size w wr

theorem RowRel.start (xs : List Int) (w : World) : RowRel xs w ((w.alloc (.cells (rowA fun _ => 0) 78)).alloc (.cells (rowA fun _ => 0) 78)) 0 := by
  refine ⟨(Row.new w _).alloc _, ?_, by simp, ((Below.refl _ _).alloc (Nat.le_refl _) _).alloc (by simp) _⟩
  have := Row.new (w.alloc (.cells (rowA fun _ => 0) 78)) (fun _ => 0)
  rw [partF_zero]
  simpa using this
end Go.Proofs.YteooloceaoinlaaDoor
/- The program's BlocksOk, NewBlocks and Put answer what plain lists say, in new memory, and write nothing that was there. -/
namespace Go.Proofs.YteooloceaoinlaaDoor
open Go.ChangeShapes Go.WideShapes Go.ChangeAt Go.RowKit

def listF (f : Nat → Int) (n : Nat) : List Int := (List.range n).map f
theorem listF_len (f : Nat → Int) (n : Nat) : (listF f n).length = n := by simp [listF]
theorem listF_getD (xs : List Int) : listF (fun k => xs.getD k 0) xs.length = xs := by
  apply List.ext_getElem
  · simp [listF]
  · intro j h1 h2
    simp [listF, List.getD, h2]

set_option maxRecDepth 20000 in
set_option maxHeartbeats 1000000 in
theorem list_any (f : Nat → Int) (n : Nat) (w : World) (h8 : n ≤ 8) :
    Calls Tryd.prog 55 #[.agg (rowA f), .int .i64 n] w fun e w' => ∃ u, e = .returned u ∧ Own w' w.heap.size u (listF f n) ∧ Below w.heap.size w w' := by
  obtain ⟨i0, hi, hz0, hz1, hz2⟩ := info_parts Tryd.infoI
  have h8' : (n : Int) ≤ 8 := by omega
  obtain ⟨w1, hw1⟩ : ∃ w1, w1 = (w.alloc (.cells (rowA f) 78)).alloc (.cells #[] 2) := ⟨_, rfl⟩
  have hown : w1.ownsRow w.heap.size 2 1 (.slice (some ⟨w.heap.size + 1, 0, none⟩) 0 0) 0 [] := by
    have := World.ownsRow_lit (base := w.heap.size) (e := 2) (size := 1) (w.alloc (.cells (rowA f) 78)) #[] 0 (by simp) (Nat.zero_le _) rfl
    rw [hw1]
    simpa using this
  have hrow : Row w1 w.heap.size f := by rw [hw1]; exact (Row.new w f).alloc _
  have hnews : ∀ j u, ((listF f n).map (Value.int .i64))[j]? = some u → w1.cell? ((⟨w.heap.size, 0, none⟩ : Addr).add j) = some u := by
    intro j u hj
    have hlt : j < n := by
      rcases Nat.lt_or_ge j n with h | h
      · exact h
      · rw [List.getElem?_eq_none (by simpa [listF] using h)] at hj; cases hj
    rw [show (⟨w.heap.size, 0, none⟩ : Addr).add j = ⟨w.heap.size, j, none⟩ by unfold Addr.add; split <;> simp_all]
    rw [hrow.cell j (by omega)]
    simp [listF, hlt] at hj ⊢
    exact hj
  have hone : ∀ u ∈ (listF f n).map (Value.int .i64), u.oneCell' = true := by
    intro u hu
    obtain ⟨x, _, rfl⟩ := List.mem_map.1 hu
    rfl
  have hll : ((listF f n).map (Value.int .i64)).length = n * 1 := by simp [listF]
  have hb1 : Below w.heap.size w w1 := by rw [hw1]; exact ((Below.refl _ _).alloc (Nat.le_refl _) _).alloc (by simp) _
  go_enter Tryd.func55, Tryd.ntmps55
  go_wp2_with (at_builtin; rw [← hw1]; refine wpList_append_own _ rfl _ _ 22 rfl w.heap.size 2 i0 (.int .i64 0) 1 8 Tryd.underlying22 hi hz0 hz1 hz2 rfl (by decide) _ _ _ rfl hown _ n 8 ((listF f n).map (Value.int .i64)) rfl hll hnews hone (by unfold maxLen; omega) (by omega) hb1.size ?_)
  intro v' w2 hown' hgrow _
  rw [← hw1] at hgrow
  have HG : Hid (Below w.heap.size w w2) := hb1.grown hgrow hb1.size (fun g e => by simp [Value.ownBlock] at e; omega)
  go_wp2
  go_ret
  refine ⟨_, rfl, ?_, HG.out⟩
  unfold Own
  simpa [listF_len] using hown'

set_option maxRecDepth 20000 in
set_option maxHeartbeats 1000000 in
theorem new_any8 (n : Int) (w : World) :
    Calls Tryd.prog 46 #[.int .i64 n] w fun e w' => ∃ u, e = .returned u ∧ Own w' w.heap.size u (zerosI n) ∧ Below w.heap.size w w' := by
  by_cases hc : cntOk n = true
  · obtain ⟨k, rfl⟩ : ∃ k : Nat, n = k := ⟨n.toNat, by simp [cntOk] at hc; omega⟩
    have h8 : k ≤ 8 := by simp [cntOk] at hc; omega
    have HZ : Hid (listF (fun _ => 0) k = zerosI k) := by
      have h1 : 1 ≤ k := by simp [cntOk] at hc; omega
      rw [Hid, zerosI, if_pos (by omega)]
      apply List.ext_getElem
      · simp [listF]
      · intro j h1 h2
        simp [listF]
    go_enter Tryd.func46, Tryd.ntmps46
    go_wp2_with (first | (go_at_call 45; refine (cnt_any _ _).mono ?_; rw [hc]; rintro e w' ⟨rfl, hw⟩; subst w') | (go_at_call 55; refine (list_any (fun _ => 0) k _ h8).mono ?_; rw [HZ.out]; rintro e w1 ⟨u, rfl, o1, b1⟩; have HU : Hid (Own w1 w.heap.size u (zerosI k) ∧ Below w.heap.size w w1) := ⟨o1, b1⟩; clear o1 b1))
    go_ret
    exact ⟨_, rfl, HU.out⟩
  · have hc' : cntOk n = false := by simpa using hc
    have HZ : Hid (zerosI n = []) := by simp [Hid, zerosI]; simp [cntOk] at hc'; omega
    clear hc
    go_enter Tryd.func46, Tryd.ntmps46
    go_wp2_with (go_at_call 45; refine (cnt_any _ _).mono ?_; rw [hc']; rintro e w' ⟨rfl, hw⟩; subst w')
    go_ret
    rw [HZ.out]
    exact ⟨_, rfl, ownEmpty w, belowNew w _⟩

theorem listF_set (xs : List Int) (i : Nat) (x : Int) : listF (upd (fun k => xs.getD k 0) i x) xs.length = xs.set i x := by
  apply List.ext_getElem
  · simp [listF]
  · intro j h1 h2
    have h3 : j < xs.length := by simpa [listF] using h1
    rw [List.getElem_set]
    by_cases e : i = j
    · subst e; simp [listF, upd]
    · have e' : ¬ j = i := fun h => e h.symm
      simp [listF, upd, e, e', List.getD, h3]
end Go.Proofs.YteooloceaoinlaaDoor
