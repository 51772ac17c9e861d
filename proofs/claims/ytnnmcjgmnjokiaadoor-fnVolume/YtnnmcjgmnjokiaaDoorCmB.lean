/- A command in a block of five cells: loads, stores and answers of the whole struct. -/
import Derived.Test.YtnnmcjgmnjokiaaDoorCm
import Derived.Below
import Derived.Laws.Tables
import Derived.Laws.ResultCell
namespace Go.Proofs.YtnnmcjgmnjokiaaDoor
open Go.ChangeShapes Go.WideShapes Go.ChangeAt Go.RowKit

def cmA (c : Cm) : Array Value := #[.int .i64 c.o, .int .i64 c.p, .int .i64 c.a, .int .i64 c.b, .int .i64 c.k]
def CV (c : Cm) : Value := .agg (cmA c)

def sumN (l : Bs) (j : Nat) : Int := (l.take j).foldl (fun n b => n + byteI b) 0
theorem sumN_step (l : Bs) (j : Nat) (h : j < l.length) : sumN l (j + 1) = sumN l j + byteI (l.getD j 0) := by
  unfold sumN
  rw [take_snocB l j h, List.foldl_append]
  simp [h]
theorem sumN_bd (l : Bs) (j : Nat) : 0 ≤ sumN l j ∧ sumN l j ≤ 256 * j := by
  induction j with
  | zero => simp [sumN]
  | succ j ih =>
    by_cases h : j < l.length
    · have := byteI_bd (l.getD j 0)
      rw [sumN_step l j h]; omega
    · have : sumN l (j + 1) = sumN l j := by unfold sumN; rw [List.take_of_length_le (by omega), List.take_of_length_le (by omega)]
      rw [this]; omega

/- Block g holds the command c. -/
def CmB (w : World) (g : Nat) (t : TypeId) (c : Cm) : Prop := w.heap[g]? = some (.cells (cmA c) t (0, 0))
theorem CmB.lt {w : World} {g : Nat} {t : TypeId} {c : Cm} (h : CmB w g t c) : g < w.heap.size := by
  rcases Nat.lt_or_ge g w.heap.size with hlt | hge
  · exact hlt
  · rw [CmB, Array.getElem?_eq_none hge] at h; cases h
theorem CmB.new (w : World) (t : TypeId) (c : Cm) : CmB (w.alloc (.cells (cmA c) t)) w.heap.size t c := heap_alloc_new w _
theorem CmB.below {w w' : World} {g : Nat} {t : TypeId} {c : Cm} (h : CmB w g t c) (hb : Below w.heap.size w w') : CmB w' g t c := (hb.block g h.lt).trans h
theorem CmB.kept {w w' : World} {g : Nat} {t : TypeId} {c : Cm} {row : Option Nat} (h : CmB w g t c) (hg : w.grownBy w' row) (hne : some g ≠ row) : CmB w' g t c := (hg.block g h.lt hne).trans h
theorem CmB.alloc {w : World} {g : Nat} {t : TypeId} {c : Cm} (h : CmB w g t c) (o : Obj) : CmB (w.alloc o) g t c := (Below.heap_alloc w o g h.lt).trans h
theorem CmB.cell {w : World} {g : Nat} {t : TypeId} {c : Cm} (h : CmB w g t c) (j : Nat) {x : Value} (e : (cmA c)[j]? = some x) : w.cell? ⟨g, j, none⟩ = some x := by rw [cell_of_row w g j _ _ _ h, e]
theorem CmB.frozen {w : World} {g : Nat} {t : TypeId} {c : Cm} (h : CmB w g t c) (j : Nat) : w.frozen? ⟨g, j, none⟩ = false := frozen_of_row w g j _ _ h
theorem grownRowC (w : World) (g : Nat) (cs : Array Value) : w.grownBy (w.setRow g cs) (some g) :=
  ⟨rfl, rfl, rfl, by simp, fun k _ hne => _root_.Go.setRow_other w g k cs (fun e => hne (by rw [e]))⟩
theorem cmA_one (c : Cm) : (cmA c).all (·.oneCell') = true := by simp [cmA, Value.oneCell']

theorem Tryd.infoC : (Tryd.prog.info? 28).map (·.size) = some 5 := by kernel_rfl
theorem Tryd.underC : ∃ fs, Tryd.prog.underlying 28 = some (.struct fs) := ⟨_, Tryd.underlying28⟩
theorem wpList_getC {ops : Array Oper} {rest : List Oper} {o : Oper} {a : Act} {w : World} {Q : Exit → Act → World → Prop} (hgd : o.guard = none) (x : Operand) (ho : o.op = .load 28 x)
    (g : Nat) (hx : a.eval x = .pointer (some ⟨g, 0, none⟩)) (c : Cm) (hr : CmB w g 28 c)
    (h : wpList Tryd.prog ops Q rest (a.put o.dst (CV c)) w) : wpList Tryd.prog ops Q (o :: rest) a w := by
  obtain ⟨fs, hu⟩ := Tryd.underC
  exact wpList_load_row hgd _ x ho g hx _ _ _ _ hr hu rfl Tryd.infoC h
theorem wpList_putC {ops : Array Oper} {rest : List Oper} {o : Oper} {a : Act} {w : World} {Q : Exit → Act → World → Prop} (hgd : o.guard = none) (x y : Operand) (ho : o.op = .store 28 x y)
    (g : Nat) (c c' : Cm) (hx : a.eval x = .pointer (some ⟨g, 0, none⟩)) (hy : a.eval y = CV c) (hr : CmB w g 28 c')
    (h : ∀ w', CmB w' g 28 c → w.grownBy w' (some g) → wpList Tryd.prog ops Q rest (a.put o.dst undef) w') : wpList Tryd.prog ops Q (o :: rest) a w :=
  wpList_store_row hgd _ x y ho g (cmA c) hx hy _ _ hr Tryd.infoC rfl (cmA_one c) (h _ (setRow_heap w g _ _ _ _ hr) (grownRowC w g _))
theorem results_C {fn : Func} {p : Tmp} (h : fn.results = #[.cell p 28]) (tmps : Array Value) (w : World) (g : Nat) (c : Cm)
    (hp : tmps.getD p undef = .pointer (some ⟨g, 0, none⟩)) (hr : CmB w g 28 c) : (results fn tmps).run Tryd.prog w = .ok (CV c) w := by
  obtain ⟨fs, hu⟩ := Tryd.underC
  exact results_cell_row h tmps w g _ _ _ _ hp hr hu rfl Tryd.infoC
theorem results_C2 {fn : Func} {p q : Tmp} (h : fn.results = #[.cell p 28, .tmp q]) (tmps : Array Value) (w : World) (g : Nat) (c : Cm) (x : Value)
    (hp : tmps.getD p undef = .pointer (some ⟨g, 0, none⟩)) (hx : tmps.getD q undef = x) (hr : CmB w g 28 c) : (results fn tmps).run Tryd.prog w = .ok (.tuple #[CV c, x]) w := by
  obtain ⟨fs, hu⟩ := Tryd.underC
  rw [results_cell_tmp h, hp, hx]
  simp only [asAddr, Sem.run_pure, Result.andThen_ok]
  rw [run_loadVar_row w g _ _ _ _ _ hr hu rfl Tryd.infoC]
  rfl
theorem results_CC {fn : Func} {p q : Tmp} (h : fn.results = #[.cell p 28, .cell q 28]) (tmps : Array Value) (w : World) (g k : Nat) (c d : Cm)
    (hp : tmps.getD p undef = .pointer (some ⟨g, 0, none⟩)) (hq : tmps.getD q undef = .pointer (some ⟨k, 0, none⟩)) (hc : CmB w g 28 c) (hd : CmB w k 28 d) : (results fn tmps).run Tryd.prog w = .ok (.tuple #[CV c, CV d]) w := by
  obtain ⟨fs, hu⟩ := Tryd.underC
  have h1 := run_loadVar_row w g _ _ _ _ _ hc hu rfl Tryd.infoC
  have h2 := run_loadVar_row w k _ _ _ _ _ hd hu rfl Tryd.infoC
  have hp' : tmps[p]?.getD undef = .pointer (some ⟨g, 0, none⟩) := by simpa using hp
  have hq' : tmps[q]?.getD undef = .pointer (some ⟨k, 0, none⟩) := by simpa using hq
  simp [results, h, hp', hq', asAddr, h1, h2]
  exact ⟨rfl, rfl⟩
theorem code_short {s : Bs} (h : s.length < 8) : codeC s = 1 ∧ readC s = Cm.zero := by
  have : codeC s = 1 := by unfold codeC; rw [if_pos h]
  exact ⟨this, readC_not (by rw [this]; decide)⟩
theorem code_long {s : Bs} (h : 8 < s.length) : codeC s = 2 ∧ readC s = Cm.zero := by
  have : codeC s = 2 := by unfold codeC; rw [if_neg (by omega), if_pos h]
  exact ⟨this, readC_not (by rw [this]; decide)⟩
theorem code_sum {s : Bs} (h : s.length = 8) (h2 : byteI (s.getD 7 0) ≠ sumI (s.take 7)) : codeC s = 3 ∧ readC s = Cm.zero := by
  have : codeC s = 3 := by unfold codeC; rw [if_neg (by omega), if_neg (by omega), if_pos h2]
  exact ⟨this, readC_not (by rw [this]; decide)⟩
theorem code_op {s : Bs} (h : s.length = 8) (h2 : byteI (s.getD 7 0) = sumI (s.take 7)) (h3 : inI (cmOf s).o 1 12 = false) : codeC s = 4 ∧ readC s = Cm.zero := by
  have : codeC s = 4 := by unfold codeC; rw [if_neg (by omega), if_neg (by omega), if_neg (by simpa using h2), if_pos h3]
  exact ⟨this, readC_not (by rw [this]; decide)⟩
theorem code_field {s : Bs} (h : s.length = 8) (h2 : byteI (s.getD 7 0) = sumI (s.take 7)) (h3 : inI (cmOf s).o 1 12 = true) (h4 : (cmOf s).ok = false) : codeC s = 5 ∧ readC s = Cm.zero := by
  have : codeC s = 5 := by unfold codeC; rw [if_neg (by omega), if_neg (by omega), if_neg (by simpa using h2), if_neg (by rw [h3]; decide), if_pos h4]
  exact ⟨this, readC_not (by rw [this]; decide)⟩
theorem code_ok {s : Bs} (h : s.length = 8) (h2 : byteI (s.getD 7 0) = sumI (s.take 7)) (h4 : (cmOf s).ok = true) : codeC s = 0 ∧ readC s = cmOf s := by
  have : codeC s = 0 := by unfold codeC; rw [if_neg (by omega), if_neg (by omega), if_neg (by simpa using h2), if_neg (by rw [told_op h4]; decide), if_neg (by rw [h4]; decide)]
  exact ⟨this, by unfold readC; rw [if_pos this]⟩
end Go.Proofs.YtnnmcjgmnjokiaaDoor
