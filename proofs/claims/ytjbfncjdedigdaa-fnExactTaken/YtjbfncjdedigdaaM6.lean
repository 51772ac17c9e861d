/- Disks: the model's DiskOk, NewDisk, Written, Flushed, Loose and Lost answer what plain lists say, in new memory. -/
import Derived.Test.YtjbfncjdedigdaaM5
import Derived.Deep.RegionHeld3
import Derived.Deep.RegionWith
import Derived.WalkSpells
import Derived.Test.YtjbfncjdedigdaaMem
import Derived.Below
import Derived.Laws.Tables
import Derived.Laws.ResultCell
import Derived.Test.YtjbfncjdedigdaaM1
import Derived.Test.YtjbfncjdedigdaaM4
namespace Go.Proofs.Ytjbfncjdedigdaa
open Go.ChangeShapes Go.WideShapes Go.ChangeAt Go.RowKit

/- A parameter's box and the result's variable, both new, and nothing else has turned. -/
def Boxes (w wx : World) (u v : Value) : Prop :=
  Pair wx w.heap.size 76 u v ∧ Pair wx (w.heap.size + 1) 76 (.slice none 0 0) (.slice none 0 0) ∧ Below w.heap.size w wx ∧ w.heap.size + 2 ≤ wx.heap.size
theorem Boxes.start (w : World) (u v : Value) : Boxes w ((w.alloc (.cells #[u, v] 76)).alloc (.cells #[.slice none 0 0, .slice none 0 0] 76)) u v := by
  refine ⟨(Pair.new w _ u v).alloc _, ?_, ((Below.refl _ _).alloc (Nat.le_refl _) _).alloc (by simp) _, by simp⟩
  have := Pair.new (w.alloc (.cells #[u, v] 76)) 76 (.slice none 0 0) (.slice none 0 0)
  simpa using this
theorem Boxes.below {w wx wy : World} {u v : Value} (h : Boxes w wx u v) (b : Below wx.heap.size wx wy) : Boxes w wy u v :=
  ⟨h.1.below b, h.2.1.below b, h.2.2.1.trans (b.mono h.2.2.1.size), Nat.le_trans h.2.2.2 b.size⟩
theorem Boxes.drew {w wx : World} {u v : Value} (h : Boxes w wx u v) : Boxes w wx.drew u v := ⟨h.1, h.2.1, below_drewN h.2.2.1 1, h.2.2.2⟩
theorem Boxes.done {w wx wy : World} {u v a b : Value} {xs ys : List Int} {base base' : Nat} (h : Boxes w wx u v) (g : wx.grownBy wy (some (w.heap.size + 1))) (oa : Own wx base a xs) (ob : Own wx base' b ys) (hb : w.heap.size + 2 ≤ base) (hb' : w.heap.size + 2 ≤ base') (hap : apart a b) :
    OwnD wy w.heap.size a b xs ys ∧ Below w.heap.size w wy :=
  ⟨⟨(oa.keptLt g (by omega)).mono (by omega), (ob.keptLt g (by omega)).mono (by omega), hap⟩, h.2.2.1.grown g h.2.2.1.size (fun k e => by cases e; omega)⟩

theorem cell_set1 {w : World} {g j k : Nat} {x y : Value} (h : w.cell? ⟨g, j, none⟩ = some x) : (w.setCell ⟨g + 1, k, none⟩ y).cell? ⟨g, j, none⟩ = some x := by
  rw [World.cell?_of_block (w := w) (heap_setCell_other w ⟨g + 1, k, none⟩ g y (by simp)), h]
theorem grown_two (w : World) (g : Nat) (x y : Value) : w.grownBy ((w.setCell ⟨g, 0, none⟩ x).setCell ⟨g, 1, none⟩ y) (some g) := (grownSet w g 0 x).trans (grownSet _ g 1 y)
theorem apart.symm {u v : Value} (h : apart u v) : apart v u := ⟨h.2, h.1⟩

theorem beq_cast (n m : Nat) : ((n : Int) == (m : Int)) = decide (n = m) := by
  by_cases h : n = m
  · subst h; simp
  · have : (n : Int) ≠ m := by omega
    simp [h, this]
end Go.Proofs.Ytjbfncjdedigdaa
/- A struct in a block of its own, whatever its type: loads, stores and answers of the whole struct. -/
namespace Go.Proofs.Ytjbfncjdedigdaa
open Go.ChangeShapes Go.WideShapes Go.ChangeAt Go.RowKit

def StB (w : World) (g : Nat) (t : TypeId) (cs : Array Value) : Prop := w.heap[g]? = some (.cells cs t (0, 0))
theorem StB.lt {w : World} {g : Nat} {t : TypeId} {cs : Array Value} (h : StB w g t cs) : g < w.heap.size := by
  rcases Nat.lt_or_ge g w.heap.size with hlt | hge
  · exact hlt
  · rw [StB, Array.getElem?_eq_none hge] at h; cases h
theorem StB.new (w : World) (t : TypeId) (cs : Array Value) : StB (w.alloc (.cells cs t)) w.heap.size t cs := heap_alloc_new w _
theorem StB.below {w w' : World} {g : Nat} {t : TypeId} {cs : Array Value} (h : StB w g t cs) (hb : Below w.heap.size w w') : StB w' g t cs := (hb.block g h.lt).trans h
theorem StB.kept {w w' : World} {g : Nat} {t : TypeId} {cs : Array Value} {row : Option Nat} (h : StB w g t cs) (hg : w.grownBy w' row) (hne : some g ≠ row) : StB w' g t cs := (hg.block g h.lt hne).trans h
theorem StB.alloc {w : World} {g : Nat} {t : TypeId} {cs : Array Value} (h : StB w g t cs) (o : Obj) : StB (w.alloc o) g t cs := (Below.heap_alloc w o g h.lt).trans h
theorem StB.cell {w : World} {g : Nat} {t : TypeId} {cs : Array Value} (h : StB w g t cs) (j : Nat) {x : Value} (e : cs[j]? = some x) : w.cell? ⟨g, j, none⟩ = some x := by rw [cell_of_row w g j _ _ _ h, e]
theorem StB.frozen {w : World} {g : Nat} {t : TypeId} {cs : Array Value} (h : StB w g t cs) (j : Nat) : w.frozen? ⟨g, j, none⟩ = false := frozen_of_row w g j _ _ h
theorem StB.put {w : World} {g : Nat} {t : TypeId} {cs ds : Array Value} (h : StB w g t cs) (j : Nat) (x : Value) (e : cs.setIfInBounds j x = ds) : StB (w.setCell ⟨g, j, none⟩ x) g t ds := by
  have := heap_setCell_same w g j _ _ x h
  rw [e] at this
  exact this
theorem StB.other {w : World} {g : Nat} {t : TypeId} {cs : Array Value} (h : StB w g t cs) (a : Addr) (x : Value) (hne : g ≠ a.block) : StB (w.setCell a x) g t cs := (heap_setCell_other w a g x hne).trans h
theorem grownRowS (w : World) (g : Nat) (cs : Array Value) : w.grownBy (w.setRow g cs) (some g) :=
  ⟨rfl, rfl, rfl, by simp, fun k _ hne => _root_.Go.setRow_other w g k cs (fun e => hne (by rw [e]))⟩
/- Type t is a struct of n cells. -/
def IsS (t : TypeId) (n : Nat) : Prop := (∃ fs, Try.prog.underlying t = some (.struct fs)) ∧ (Try.prog.info? t).map (·.size) = some n
theorem wpList_getS {t : TypeId} {n : Nat} (hS : IsS t n) {ops : Array Oper} {rest : List Oper} {o : Oper} {a : Act} {w : World} {Q : Exit → Act → World → Prop} (hgd : o.guard = none) (x : Operand) (ho : o.op = .load t x)
    (g : Nat) (hx : a.eval x = .pointer (some ⟨g, 0, none⟩)) (cs : Array Value) (hn : cs.size = n) (hr : StB w g t cs)
    (h : wpList Try.prog ops Q rest (a.put o.dst (.agg cs)) w) : wpList Try.prog ops Q (o :: rest) a w := by
  obtain ⟨⟨fs, hu⟩, hi⟩ := hS
  exact wpList_load_row hgd _ x ho g hx _ _ _ _ hr hu rfl (by rw [hi, hn]) h
theorem wpList_putS {t : TypeId} {n : Nat} (hS : IsS t n) {ops : Array Oper} {rest : List Oper} {o : Oper} {a : Act} {w : World} {Q : Exit → Act → World → Prop} (hgd : o.guard = none) (x y : Operand) (ho : o.op = .store t x y)
    (g : Nat) (cs ds : Array Value) (hx : a.eval x = .pointer (some ⟨g, 0, none⟩)) (hy : a.eval y = .agg cs) (hn : cs.size = n) (hd : ds.size = n) (h1 : cs.all (·.oneCell') = true) (hr : StB w g t ds)
    (h : ∀ w', StB w' g t cs → w.grownBy w' (some g) → wpList Try.prog ops Q rest (a.put o.dst undef) w') : wpList Try.prog ops Q (o :: rest) a w :=
  wpList_store_row hgd _ x y ho g cs hx hy _ _ hr (by rw [hS.2, hn]) (by rw [hd, hn]) h1 (h _ (setRow_heap w g _ _ _ _ hr) (grownRowS w g _))
theorem load_S {t : TypeId} {n : Nat} (hS : IsS t n) (w : World) (g : Nat) (cs : Array Value) (hn : cs.size = n) (hr : StB w g t cs) : (loadVar t ⟨g, 0, none⟩).run Try.prog w = .ok (.agg cs) w := by
  obtain ⟨⟨fs, hu⟩, hi⟩ := hS
  exact run_loadVar_row w g _ _ _ _ _ hr hu rfl (by rw [hi, hn])
theorem results_S {t : TypeId} {n : Nat} (hS : IsS t n) {fn : Func} {p : Tmp} (h : fn.results = #[.cell p t]) (tmps : Array Value) (w : World) (g : Nat) (cs : Array Value) (hn : cs.size = n)
    (hp : tmps.getD p undef = .pointer (some ⟨g, 0, none⟩)) (hr : StB w g t cs) : (results fn tmps).run Try.prog w = .ok (.agg cs) w := by
  obtain ⟨⟨fs, hu⟩, hi⟩ := hS
  exact results_cell_row h tmps w g _ _ _ _ hp hr hu rfl (by rw [hi, hn])
theorem results_S2 {t : TypeId} {n : Nat} (hS : IsS t n) {fn : Func} {p q : Tmp} (h : fn.results = #[.cell p t, .tmp q]) (tmps : Array Value) (w : World) (g : Nat) (cs : Array Value) (x : Value) (hn : cs.size = n)
    (hp : tmps.getD p undef = .pointer (some ⟨g, 0, none⟩)) (hx : tmps.getD q undef = x) (hr : StB w g t cs) : (results fn tmps).run Try.prog w = .ok (.tuple #[.agg cs, x]) w := by
  rw [results_cell_tmp h, hp, hx]
  simp only [asAddr, Sem.run_pure, Result.andThen_ok]
  rw [load_S hS w g cs hn hr]
  rfl
theorem results_S3 {t : TypeId} {n : Nat} (hS : IsS t n) {fn : Func} {p q r : Tmp} (h : fn.results = #[.cell p t, .tmp q, .tmp r]) (tmps : Array Value) (w : World) (g : Nat) (cs : Array Value) (x y : Value) (hn : cs.size = n)
    (hp : tmps.getD p undef = .pointer (some ⟨g, 0, none⟩)) (hx : tmps.getD q undef = x) (hy : tmps.getD r undef = y) (hr : StB w g t cs) : (results fn tmps).run Try.prog w = .ok (.tuple #[.agg cs, x, y]) w := by
  have hl := load_S hS w g cs hn hr
  have hp' : tmps[p]?.getD undef = .pointer (some ⟨g, 0, none⟩) := by simpa using hp
  have hx' : tmps[q]?.getD undef = x := by simpa using hx
  have hy' : tmps[r]?.getD undef = y := by simpa using hy
  simp [results, h, hp', hx', hy', asAddr, hl]
theorem reads_cells {w : World} {ao : Option Addr} {n cap : Nat} {xs : List Int} (h : Reads w (.slice ao n cap) xs) : n = xs.length ∧ n ≤ cap ∧ cap ≤ maxLen ∧ ∀ j, j < n → ∃ b off, ao = some ⟨b, off, none⟩ ∧ w.cell? ⟨b, off + j, none⟩ = some (.int .i64 (xs.getD j 0)) := by
  obtain ⟨ao', cap', e, hl, ⟨hm, -⟩, hc⟩ := h
  simp only [Value.slice.injEq] at e
  obtain ⟨rfl, rfl, rfl⟩ := e
  refine ⟨rfl, hl, hm, fun j hj => ?_⟩
  rcases hc with rfl | ⟨b, off, rfl, h4⟩
  · simp at hj
  · exact ⟨b, off, rfl, h4 j hj⟩
theorem reads_form {w : World} {v : Value} {xs : List Int} (h : Reads w v xs) : ∃ ao cap, v = .slice ao xs.length cap := by
  obtain ⟨ao, cap, e, _⟩ := h
  exact ⟨ao, cap, e⟩
theorem reads_one {w : World} {v : Value} {xs : List Int} (h : Reads w v xs) : v.oneCell' = true := by
  obtain ⟨ao, cap, rfl, _⟩ := h; rfl
end Go.Proofs.Ytjbfncjdedigdaa
/- Whether a number lies between two others, by the model: l1In, l6Key, l6Word. -/
namespace Go.Proofs.Ytjbfncjdedigdaa
open Go.ChangeShapes Go.WideShapes Go.ChangeAt Go.RowKit

set_option maxRecDepth 20000 in
set_option maxHeartbeats 400000 in
theorem sin6_any (x lo hi : Int) (w : World) :
    Calls Try.prog 55 #[.int .i64 x, .int .i64 lo, .int .i64 hi] w fun e w' => e = .returned (.bool (inI x lo hi)) ∧ w' = w := by
  by_cases h0 : lo ≤ x
  · by_cases h1 : x ≤ hi
    · have he : inI x lo hi = true := by simp [inI, h0, h1]
      rw [he]
      clear he
      go_enter Try.func55, Try.ntmps55
      go_wp2
      go_ret
      exact ⟨ret_bool (by simp), rfl⟩
    · have he : inI x lo hi = false := by simp [inI, h1]
      rw [he]
      clear he
      go_enter Try.func55, Try.ntmps55
      go_wp2
      go_ret
      exact ⟨ret_bool (by simp), rfl⟩
  · have he : inI x lo hi = false := by simp [inI, h0]
    rw [he]
    clear he
    go_enter Try.func55, Try.ntmps55
    go_wp2
    go_ret
    exact ⟨ret_bool (by simp), rfl⟩

set_option maxRecDepth 20000 in
set_option maxHeartbeats 400000 in
theorem s6key_any (x : Int) (w : World) :
    Calls Try.prog 75 #[.int .i64 x] w fun e w' => e = .returned (.bool (inI x 0 9999)) ∧ w' = w := by
  have c1 := sin6_any x 0 9999 w
  go_enter Try.func75, Try.ntmps75
  go_wp2_with fail
  refine c1.mono ?_
  rintro e w' ⟨rfl, hw⟩; subst w'
  clear c1
  go_wp2_with fail
  go_ret
  exact ⟨rfl, rfl⟩
end Go.Proofs.Ytjbfncjdedigdaa
/- Kinds, and who may, by the model: KindOk, Bars, ForAll, Allowed. -/
namespace Go.Proofs.Ytjbfncjdedigdaa
open Go.ChangeShapes Go.WideShapes Go.ChangeAt Go.RowKit

set_option maxRecDepth 20000 in
set_option maxHeartbeats 400000 in
theorem skind_any (k : Int) (w : World) :
    Calls Try.prog 78 #[.int .i64 k] w fun e w' => e = .returned (.bool (kiI k)) ∧ w' = w := by
  have c1 := sin6_any k 1 6 w
  unfold kiI
  go_enter Try.func78, Try.ntmps78
  go_wp2_with fail
  refine c1.mono ?_
  rintro e w' ⟨rfl, hw⟩; subst w'
  clear c1
  go_wp2_with fail
  go_ret
  exact ⟨rfl, rfl⟩

set_option maxRecDepth 20000 in
set_option maxHeartbeats 400000 in
theorem sall_any (k : Int) (w : World) :
    Calls Try.prog 76 #[.int .i64 k] w fun e w' => e = .returned (.bool (allI k)) ∧ w' = w := by
  by_cases h5 : k = 5
  · subst h5
    go_enter Try.func76, Try.ntmps76
    go_wp2
    go_ret
    exact ⟨rfl, rfl⟩
  · by_cases h6 : k = 6
    · subst h6
      go_enter Try.func76, Try.ntmps76
      go_wp2
      go_ret
      exact ⟨rfl, rfl⟩
    · have he : allI k = false := by simp [allI, h5, h6]
      rw [he]
      clear he
      go_enter Try.func76, Try.ntmps76
      go_wp2
      go_ret
      exact ⟨ret_bool (by simp [h5, h6]), rfl⟩
end Go.Proofs.Ytjbfncjdedigdaa
