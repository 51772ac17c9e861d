/- Whether a record is right; how the laws take one over and compare two. -/
import Derived.Test.YtjdmbjeginnjiaaDoorRc
namespace Go.Proofs.YtjdmbjeginnjiaaDoor
open Go.ChangeShapes Go.WideShapes Go.ChangeAt Go.RowKit

set_option maxRecDepth 20000 in
set_option maxHeartbeats 1000000 in
theorem srecok_any (r : Rc) (w : World) :
    Calls Tryd.prog 20 #[RV r] w fun e w' => e = .returned (.bool r.ok) ∧ Below w.heap.size w w' := by
  have c1 := fun wx => sepoch_any r.e wx
  have c2 := fun wx => sin_any r.s 1 3 wx
  have c3 := fun wx => sepoch_any r.t wx
  have c4 := fun wx => sepoch_any r.n wx
  have hst : (decide (1 ≤ r.s) && decide (r.s ≤ 3)) = stI r.s := rfl
  simp only [hst] at c2
  have hok : r.ok = (epI r.e && stI r.s && epI r.t && epI r.n) := rfl
  rw [hok]
  have hb : Below w.heap.size w (w.alloc (.cells (recA r) 25)) := (Below.refl _ _).alloc (Nat.le_refl _) _
  obtain ⟨x1, x2, x3, x4⟩ := r
  dsimp only at c1 c2 c3 c4 ⊢
  unfold RV recA at *
  dsimp only at hb ⊢
  obtain ⟨b1, h1⟩ : ∃ b, b = epI x1 := ⟨_, rfl⟩
  obtain ⟨b2, h2⟩ : ∃ b, b = stI x2 := ⟨_, rfl⟩
  obtain ⟨b3, h3⟩ : ∃ b, b = epI x3 := ⟨_, rfl⟩
  obtain ⟨b4, h4⟩ : ∃ b, b = epI x4 := ⟨_, rfl⟩
  simp only [← h1, ← h2, ← h3, ← h4] at c1 c2 c3 c4 ⊢
  clear h1 h2 h3 h4 hok hst
  go_enter Tryd.func20, Tryd.ntmps20
  go_wp2_with fail
  refine (c1 _).mono ?_
  rintro e w' ⟨rfl, hw⟩; subst w'
  cases b1 with
  | false =>
    go_wp2_with fail
    go_ret
    exact ⟨rfl, hb⟩
  | true =>
    go_wp2_with fail
    refine (c2 _).mono ?_
    rintro e w' ⟨rfl, hw⟩; subst w'
    cases b2 with
    | false =>
      go_wp2_with fail
      go_ret
      exact ⟨rfl, hb⟩
    | true =>
      go_wp2_with fail
      refine (c3 _).mono ?_
      rintro e w' ⟨rfl, hw⟩; subst w'
      cases b3 with
      | false =>
        go_wp2_with fail
        go_ret
        exact ⟨rfl, hb⟩
      | true =>
        go_wp2_with fail
        refine (c4 _).mono ?_
        rintro e w' ⟨rfl, hw⟩; subst w'
        go_wp2_with fail
        go_ret
        exact ⟨rfl, hb⟩

set_option maxRecDepth 20000 in
set_option maxHeartbeats 1000000 in
theorem irecok_any (r : Rc) (w : World) :
    Calls Tryd.prog 19 #[RV r] w fun e w' => e = .returned (.bool r.ok) ∧ Below w.heap.size w w' := by
  have c1 := fun wx => iepoch_any r.e wx
  have c2 := fun wx => istate_any r.s wx
  have c3 := fun wx => iepoch_any r.t wx
  have c4 := fun wx => iepoch_any r.n wx
  have hok : r.ok = (epI r.e && stI r.s && epI r.t && epI r.n) := rfl
  rw [hok]
  have hb : Below w.heap.size w (w.alloc (.cells (recA r) 25)) := (Below.refl _ _).alloc (Nat.le_refl _) _
  obtain ⟨x1, x2, x3, x4⟩ := r
  dsimp only at c1 c2 c3 c4 ⊢
  unfold RV recA at *
  dsimp only at hb ⊢
  obtain ⟨b1, h1⟩ : ∃ b, b = epI x1 := ⟨_, rfl⟩
  obtain ⟨b2, h2⟩ : ∃ b, b = stI x2 := ⟨_, rfl⟩
  obtain ⟨b3, h3⟩ : ∃ b, b = epI x3 := ⟨_, rfl⟩
  obtain ⟨b4, h4⟩ : ∃ b, b = epI x4 := ⟨_, rfl⟩
  simp only [← h1, ← h2, ← h3, ← h4] at c1 c2 c3 c4 ⊢
  clear h1 h2 h3 h4 hok
  go_enter Tryd.func19, Tryd.ntmps19
  go_wp2_with fail
  refine (c1 _).mono ?_
  rintro e w' ⟨rfl, hw⟩; subst w'
  cases b1 with
  | false =>
    go_wp2_with fail
    go_ret
    exact ⟨rfl, hb⟩
  | true =>
    go_wp2_with fail
    refine (c2 _).mono ?_
    rintro e w' ⟨rfl, hw⟩; subst w'
    cases b2 with
    | false =>
      go_wp2_with fail
      go_ret
      exact ⟨rfl, hb⟩
    | true =>
      go_wp2_with fail
      refine (c3 _).mono ?_
      rintro e w' ⟨rfl, hw⟩; subst w'
      cases b3 with
      | false =>
        go_wp2_with fail
        go_ret
        exact ⟨rfl, hb⟩
      | true =>
        go_wp2_with fail
        refine (c4 _).mono ?_
        rintro e w' ⟨rfl, hw⟩; subst w'
        go_wp2_with fail
        go_ret
        exact ⟨rfl, hb⟩

theorem Tryd.infoR : (Tryd.prog.info? 25).map (·.size) = some 4 := by kernel_rfl

theorem Tryd.underR : ∃ fs, Tryd.prog.underlying 25 = some (.struct fs) := ⟨_, Tryd.underlying25⟩
theorem recA_one (r : Rc) : (recA r).all (·.oneCell') = true := by simp [recA, Value.oneCell']
theorem recA_size (r : Rc) : (recA r).size = 4 := rfl
theorem recA_zero : (#[.int .i64 0, .int .i64 0, .int .i64 0, .int .i64 0] : Array Value) = recA Rc.zero := rfl
/- Block g holds the record r. -/
def RecB (w : World) (g : Nat) (t : TypeId) (r : Rc) : Prop := w.heap[g]? = some (.cells (recA r) t (0, 0))
theorem RecB.lt {w : World} {g : Nat} {t : TypeId} {r : Rc} (h : RecB w g t r) : g < w.heap.size := by
  rcases Nat.lt_or_ge g w.heap.size with hlt | hge
  · exact hlt
  · rw [RecB, Array.getElem?_eq_none hge] at h; cases h
theorem RecB.new (w : World) (t : TypeId) (r : Rc) : RecB (w.alloc (.cells (recA r) t)) w.heap.size t r := heap_alloc_new w _
theorem RecB.below {w w' : World} {g : Nat} {t : TypeId} {r : Rc} (h : RecB w g t r) (hb : Below w.heap.size w w') : RecB w' g t r := (hb.block g h.lt).trans h
theorem RecB.kept {w w' : World} {g : Nat} {t : TypeId} {r : Rc} {row : Option Nat} (h : RecB w g t r) (hg : w.grownBy w' row) (hne : some g ≠ row) : RecB w' g t r := (hg.block g h.lt hne).trans h
theorem RecB.alloc {w : World} {g : Nat} {t : TypeId} {r : Rc} (h : RecB w g t r) (o : Obj) : RecB (w.alloc o) g t r := (Below.heap_alloc w o g h.lt).trans h
theorem RecB.cell {w : World} {g : Nat} {t : TypeId} {r : Rc} (h : RecB w g t r) (j : Nat) {x : Value} (e : (recA r)[j]? = some x) : w.cell? ⟨g, j, none⟩ = some x := by rw [cell_of_row w g j _ _ _ h, e]
theorem RecB.frozen {w : World} {g : Nat} {t : TypeId} {r : Rc} (h : RecB w g t r) (j : Nat) : w.frozen? ⟨g, j, none⟩ = false := frozen_of_row w g j _ _ h
theorem grownRowR (w : World) (g : Nat) (cs : Array Value) : w.grownBy (w.setRow g cs) (some g) :=
  ⟨rfl, rfl, rfl, by simp, fun k _ hne => _root_.Go.setRow_other w g k cs (fun e => hne (by rw [e]))⟩
theorem wpList_getR {ops : Array Oper} {rest : List Oper} {o : Oper} {a : Act} {w : World} {Q : Exit → Act → World → Prop} (hgd : o.guard = none) (x : Operand) (ho : o.op = .load 25 x)
    (g : Nat) (hx : a.eval x = .pointer (some ⟨g, 0, none⟩)) (r : Rc) (hr : RecB w g 25 r)
    (h : wpList Tryd.prog ops Q rest (a.put o.dst (RV r)) w) : wpList Tryd.prog ops Q (o :: rest) a w := by
  obtain ⟨fs, hu⟩ := Tryd.underR
  exact wpList_load_row hgd _ x ho g hx _ _ _ _ hr hu rfl Tryd.infoR h
theorem wpList_putR {ops : Array Oper} {rest : List Oper} {o : Oper} {a : Act} {w : World} {Q : Exit → Act → World → Prop} (hgd : o.guard = none) (x y : Operand) (ho : o.op = .store 25 x y)
    (g : Nat) (r r' : Rc) (hx : a.eval x = .pointer (some ⟨g, 0, none⟩)) (hy : a.eval y = RV r) (hr : RecB w g 25 r')
    (h : ∀ w', RecB w' g 25 r → w.grownBy w' (some g) → wpList Tryd.prog ops Q rest (a.put o.dst undef) w') : wpList Tryd.prog ops Q (o :: rest) a w :=
  wpList_store_row hgd _ x y ho g (recA r) hx hy _ _ hr Tryd.infoR rfl (recA_one r) (h _ (setRow_heap w g _ _ _ _ hr) (grownRowR w g _))
theorem results_R {fn : Func} {p : Tmp} (h : fn.results = #[.cell p 25]) (tmps : Array Value) (w : World) (g : Nat) (r : Rc)
    (hp : tmps.getD p undef = .pointer (some ⟨g, 0, none⟩)) (hr : RecB w g 25 r) : (results fn tmps).run Tryd.prog w = .ok (RV r) w := by
  obtain ⟨fs, hu⟩ := Tryd.underR
  exact results_cell_row h tmps w g _ _ _ _ hp hr hu rfl Tryd.infoR
theorem results_R2 {fn : Func} {p q : Tmp} (h : fn.results = #[.cell p 25, .tmp q]) (tmps : Array Value) (w : World) (g : Nat) (r : Rc) (x : Value)
    (hp : tmps.getD p undef = .pointer (some ⟨g, 0, none⟩)) (hx : tmps.getD q undef = x) (hr : RecB w g 25 r) : (results fn tmps).run Tryd.prog w = .ok (.tuple #[RV r, x]) w := by
  obtain ⟨fs, hu⟩ := Tryd.underR
  rw [results_cell_tmp h, hp, hx]
  simp only [asAddr, Sem.run_pure, Result.andThen_ok]
  rw [run_loadVar_row w g _ _ _ _ _ hr hu rfl Tryd.infoR]
  rfl

theorem Tryd.infoL : (Tryd.prog.info? 42).map (·.size) = some 4 := by kernel_rfl
theorem Tryd.underL : ∃ fs, Tryd.prog.underlying 42 = some (.struct fs) := ⟨_, Tryd.underlying42⟩
theorem wpList_getL {ops : Array Oper} {rest : List Oper} {o : Oper} {a : Act} {w : World} {Q : Exit → Act → World → Prop} (hgd : o.guard = none) (x : Operand) (ho : o.op = .load 42 x)
    (g : Nat) (hx : a.eval x = .pointer (some ⟨g, 0, none⟩)) (r : Rc) (hr : RecB w g 42 r)
    (h : wpList Tryd.prog ops Q rest (a.put o.dst (RV r)) w) : wpList Tryd.prog ops Q (o :: rest) a w := by
  obtain ⟨fs, hu⟩ := Tryd.underL
  exact wpList_load_row hgd _ x ho g hx _ _ _ _ hr hu rfl Tryd.infoL h

set_option maxRecDepth 20000 in
set_option maxHeartbeats 1000000 in
theorem toRecord_any (r : Rc) (w : World) :
    Calls Tryd.prog 25 #[RV r] w fun e w' => e = .returned (RV r) ∧ Below w.heap.size w w' := by
  unfold RV recA
  go_enter Tryd.func25, Tryd.ntmps25
  go_wp2_with fail
  refine bodyPost_ret (results_R rfl _ _ (w.heap.size + 1) r rfl ?_) rfl ?_
  · have := (RecB.new (w.alloc (.cells (recA r) 42)) 25 r).alloc (.cells (recA r) 25)
    rw [World.size_alloc] at this
    exact this
  · exact ⟨rfl, (((Below.refl _ _).alloc (Nat.le_refl _) _).alloc (by simp) _).alloc (by simp; omega) _⟩

set_option maxRecDepth 20000 in
set_option maxHeartbeats 1000000 in
theorem eqRecord_any (r q : Rc) (w : World) :
    Calls Tryd.prog 26 #[RV r, RV q] w fun e w' => e = .returned (.bool (sameR r q)) ∧ Below w.heap.size w w' := by
  have hb : Below w.heap.size w ((w.alloc (.cells (recA r) 25)).alloc (.cells (recA q) 25)) := ((Below.refl _ _).alloc (Nat.le_refl _) _).alloc (by simp) _
  obtain ⟨a1, a2, a3, a4⟩ := r
  obtain ⟨b1, b2, b3, b4⟩ := q
  have hd : sameR ⟨a1, a2, a3, a4⟩ ⟨b1, b2, b3, b4⟩ = (decide (a1 = b1) && decide (a2 = b2) && decide (a3 = b3) && decide (a4 = b4)) := rfl
  rw [hd]
  clear hd
  unfold RV recA at *
  dsimp only at hb ⊢
  by_cases h1 : a1 = b1
  · by_cases h2 : a2 = b2
    · by_cases h3 : a3 = b3
      · by_cases h4 : a4 = b4
        · subst h1 h2 h3 h4
          go_enter Tryd.func26, Tryd.ntmps26
          go_wp2
          go_ret
          exact ⟨ret_bool (by simp), hb⟩
        · have hn : (a4 != b4) = true := by simpa using h4
          have he : decide (a4 = b4) = false := by simpa using h4
          rw [he]
          subst h1 h2 h3
          go_enter Tryd.func26, Tryd.ntmps26
          go_wp2
          go_ret
          exact ⟨ret_bool (by simp), hb⟩
      · have hn : (a3 != b3) = true := by simpa using h3
        have he : decide (a3 = b3) = false := by simpa using h3
        rw [he]
        subst h1 h2
        go_enter Tryd.func26, Tryd.ntmps26
        go_wp2
        go_ret
        exact ⟨ret_bool (by simp), hb⟩
    · have hn : (a2 != b2) = true := by simpa using h2
      have he : decide (a2 = b2) = false := by simpa using h2
      rw [he]
      subst h1
      go_enter Tryd.func26, Tryd.ntmps26
      go_wp2
      go_ret
      exact ⟨ret_bool (by simp), hb⟩
  · have hn : (a1 != b1) = true := by simpa using h1
    have he : decide (a1 = b1) = false := by simpa using h1
    rw [he]
    go_enter Tryd.func26, Tryd.ntmps26
    go_wp2
    go_ret
    exact ⟨ret_bool (by simp), hb⟩
end Go.Proofs.YtjdmbjeginnjiaaDoor
