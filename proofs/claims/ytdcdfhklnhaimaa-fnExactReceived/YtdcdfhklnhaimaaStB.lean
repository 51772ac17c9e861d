/- A struct in a block of its own, whatever its type: loads, stores and answers of the whole struct. -/
import Derived.Test.YtdcdfhklnhaimaaMem
import Derived.Below
import Derived.Laws.Tables
import Derived.Laws.ResultCell
namespace Go.Proofs.Ytdcdfhklnhaimaa
open Go.ChangeShapes Go.WideShapes Go.ChangeAt Go.RowKit

def StB (w : World) (g : Nat) (t : TypeId) (cs : Array Value) : Prop := w.heap[g]? = some (.cells cs t (0, 0))
theorem StB.lt {w : World} {g : Nat} {t : TypeId} {cs : Array Value} (h : StB w g t cs) : g < w.heap.size := by
  rcases Nat.lt_or_ge g w.heap.size with hlt | hge
  · exact hlt
  · rw [StB, Array.getElem?_eq_none hge] at h; cases h
theorem StB.new (w : World) (t : TypeId) (cs : Array Value) : StB (w.alloc (.cells cs t)) w.heap.size t cs := heap_alloc_new w _
theorem StB.below {w w' : World} {g : Nat} {t : TypeId} {cs : Array Value} (h : StB w g t cs) (hb : Below w.heap.size w w') : StB w' g t cs := (hb.block g h.lt).trans h
theorem StB.kept {w w' : World} {g : Nat} {t : TypeId} {cs : Array Value} {row : Option Nat} (h : StB w g t cs) (hg : w.grownBy w' row) (hne : some g ≠ row) : StB w' g t cs := (hg.block g h.lt hne).trans h
theorem StB.alloc {w : World} {g : Nat} {t : TypeId} {cs : Array Value} (h : StB w g t cs) (o : Obj) : StB (w.alloc o) g t cs := (Below.heap_alloc w o g h.lt).trans h
theorem StB.cell {w : World} {g : Nat} {t : TypeId} {cs : Array Value} (h : StB w g t cs) (j : Nat) {x : Value} (e : cs[j]? = some x) : w.cell? ⟨g, j, none⟩ = some x := by rw [cell_of_row w g j _ _ _ h, e]
theorem StB.frozen {w : World} {g : Nat} {t : TypeId} {cs : Array Value} (h : StB w g t cs) (j : Nat) : w.frozen? ⟨g, j, none⟩ = false := frozen_of_row w g j _ _ h
theorem StB.put {w : World} {g : Nat} {t : TypeId} {cs ds : Array Value} (h : StB w g t cs) (j : Nat) (x : Value) (e : cs.setIfInBounds j x = ds) : StB (w.setCell ⟨g, j, none⟩ x) g t ds := by
  have := heap_setCell_same w g j _ _ x h
  rw [e] at this
  exact this
theorem StB.other {w : World} {g : Nat} {t : TypeId} {cs : Array Value} (h : StB w g t cs) (a : Addr) (x : Value) (hne : g ≠ a.block) : StB (w.setCell a x) g t cs := (heap_setCell_other w a g x hne).trans h
theorem grownRowS (w : World) (g : Nat) (cs : Array Value) : w.grownBy (w.setRow g cs) (some g) :=
  ⟨rfl, rfl, rfl, by simp, fun k _ hne => _root_.Go.setRow_other w g k cs (fun e => hne (by rw [e]))⟩
/- Type t is a struct of n cells. -/
def IsS (t : TypeId) (n : Nat) : Prop := (∃ fs, Try.prog.underlying t = some (.struct fs)) ∧ (Try.prog.info? t).map (·.size) = some n
theorem wpList_getS {t : TypeId} {n : Nat} (hS : IsS t n) {ops : Array Oper} {rest : List Oper} {o : Oper} {a : Act} {w : World} {Q : Exit → Act → World → Prop} (hgd : o.guard = none) (x : Operand) (ho : o.op = .load t x)
    (g : Nat) (hx : a.eval x = .pointer (some ⟨g, 0, none⟩)) (cs : Array Value) (hn : cs.size = n) (hr : StB w g t cs)
    (h : wpList Try.prog ops Q rest (a.put o.dst (.agg cs)) w) : wpList Try.prog ops Q (o :: rest) a w := by
  obtain ⟨⟨fs, hu⟩, hi⟩ := hS
  exact wpList_load_row hgd _ x ho g hx _ _ _ _ hr hu rfl (by rw [hi, hn]) h
theorem wpList_putS {t : TypeId} {n : Nat} (hS : IsS t n) {ops : Array Oper} {rest : List Oper} {o : Oper} {a : Act} {w : World} {Q : Exit → Act → World → Prop} (hgd : o.guard = none) (x y : Operand) (ho : o.op = .store t x y)
    (g : Nat) (cs ds : Array Value) (hx : a.eval x = .pointer (some ⟨g, 0, none⟩)) (hy : a.eval y = .agg cs) (hn : cs.size = n) (hd : ds.size = n) (h1 : cs.all (·.oneCell') = true) (hr : StB w g t ds)
    (h : ∀ w', StB w' g t cs → w.grownBy w' (some g) → wpList Try.prog ops Q rest (a.put o.dst undef) w') : wpList Try.prog ops Q (o :: rest) a w :=
  wpList_store_row hgd _ x y ho g cs hx hy _ _ hr (by rw [hS.2, hn]) (by rw [hd, hn]) h1 (h _ (setRow_heap w g _ _ _ _ hr) (grownRowS w g _))
theorem load_S {t : TypeId} {n : Nat} (hS : IsS t n) (w : World) (g : Nat) (cs : Array Value) (hn : cs.size = n) (hr : StB w g t cs) : (loadVar t ⟨g, 0, none⟩).run Try.prog w = .ok (.agg cs) w := by
  obtain ⟨⟨fs, hu⟩, hi⟩ := hS
  exact run_loadVar_row w g _ _ _ _ _ hr hu rfl (by rw [hi, hn])
theorem results_S {t : TypeId} {n : Nat} (hS : IsS t n) {fn : Func} {p : Tmp} (h : fn.results = #[.cell p t]) (tmps : Array Value) (w : World) (g : Nat) (cs : Array Value) (hn : cs.size = n)
    (hp : tmps.getD p undef = .pointer (some ⟨g, 0, none⟩)) (hr : StB w g t cs) : (results fn tmps).run Try.prog w = .ok (.agg cs) w := by
  obtain ⟨⟨fs, hu⟩, hi⟩ := hS
  exact results_cell_row h tmps w g _ _ _ _ hp hr hu rfl (by rw [hi, hn])
theorem results_S2 {t : TypeId} {n : Nat} (hS : IsS t n) {fn : Func} {p q : Tmp} (h : fn.results = #[.cell p t, .tmp q]) (tmps : Array Value) (w : World) (g : Nat) (cs : Array Value) (x : Value) (hn : cs.size = n)
    (hp : tmps.getD p undef = .pointer (some ⟨g, 0, none⟩)) (hx : tmps.getD q undef = x) (hr : StB w g t cs) : (results fn tmps).run Try.prog w = .ok (.tuple #[.agg cs, x]) w := by
  rw [results_cell_tmp h, hp, hx]
  simp only [asAddr, Sem.run_pure, Result.andThen_ok]
  rw [load_S hS w g cs hn hr]
  rfl
theorem results_S3 {t : TypeId} {n : Nat} (hS : IsS t n) {fn : Func} {p q r : Tmp} (h : fn.results = #[.cell p t, .tmp q, .tmp r]) (tmps : Array Value) (w : World) (g : Nat) (cs : Array Value) (x y : Value) (hn : cs.size = n)
    (hp : tmps.getD p undef = .pointer (some ⟨g, 0, none⟩)) (hx : tmps.getD q undef = x) (hy : tmps.getD r undef = y) (hr : StB w g t cs) : (results fn tmps).run Try.prog w = .ok (.tuple #[.agg cs, x, y]) w := by
  have hl := load_S hS w g cs hn hr
  have hp' : tmps[p]?.getD undef = .pointer (some ⟨g, 0, none⟩) := by simpa using hp
  have hx' : tmps[q]?.getD undef = x := by simpa using hx
  have hy' : tmps[r]?.getD undef = y := by simpa using hy
  simp [results, h, hp', hx', hy', asAddr, hl]
theorem reads_cells {w : World} {ao : Option Addr} {n cap : Nat} {xs : List Int} (h : Reads w (.slice ao n cap) xs) : n = xs.length ∧ n ≤ cap ∧ cap ≤ maxLen ∧ ∀ j, j < n → ∃ b off, ao = some ⟨b, off, none⟩ ∧ w.cell? ⟨b, off + j, none⟩ = some (.int .i64 (xs.getD j 0)) := by
  obtain ⟨ao', cap', e, hl, ⟨hm, -⟩, hc⟩ := h
  simp only [Value.slice.injEq] at e
  obtain ⟨rfl, rfl, rfl⟩ := e
  refine ⟨rfl, hl, hm, fun j hj => ?_⟩
  rcases hc with rfl | ⟨b, off, rfl, h4⟩
  · simp at hj
  · exact ⟨b, off, rfl, h4 j hj⟩
theorem reads_form {w : World} {v : Value} {xs : List Int} (h : Reads w v xs) : ∃ ao cap, v = .slice ao xs.length cap := by
  obtain ⟨ao, cap, e, _⟩ := h
  exact ⟨ao, cap, e⟩
theorem reads_one {w : World} {v : Value} {xs : List Int} (h : Reads w v xs) : v.oneCell' = true := by
  obtain ⟨ao, cap, rfl, _⟩ := h; rfl
end Go.Proofs.Ytdcdfhklnhaimaa
