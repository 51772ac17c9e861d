/- Disks: the model's DiskOk, NewDisk, Written, Flushed, Loose and Lost answer what plain lists say, in new memory. -/
import Derived.Test.YteooloceaoinlaaDoorM5
import Derived.Deep.RegionHeld3
import Derived.Deep.RegionWith
import Derived.WalkSpells
import Derived.Test.YteooloceaoinlaaDoorMem
import Derived.Below
import Derived.Laws.Tables
import Derived.Laws.ResultCell
import Derived.Test.YteooloceaoinlaaDoorM1
import Derived.Test.YteooloceaoinlaaDoorM4
import Derived.BigRegion
import Derived.Test.YteooloceaoinlaaDoorM3
namespace Go.Proofs.YteooloceaoinlaaDoor
open Go.ChangeShapes Go.WideShapes Go.ChangeAt Go.RowKit

/- A parameter's box and the result's variable, both new, and nothing else has turned. -/
def Boxes (w wx : World) (u v : Value) : Prop :=
  Pair wx w.heap.size 24 u v ∧ Pair wx (w.heap.size + 1) 24 (.slice none 0 0) (.slice none 0 0) ∧ Below w.heap.size w wx ∧ w.heap.size + 2 ≤ wx.heap.size
theorem Boxes.start (w : World) (u v : Value) : Boxes w ((w.alloc (.cells #[u, v] 24)).alloc (.cells #[.slice none 0 0, .slice none 0 0] 24)) u v := by
  refine ⟨(Pair.new w _ u v).alloc _, ?_, ((Below.refl _ _).alloc (Nat.le_refl _) _).alloc (by simp) _, by simp⟩
  have := Pair.new (w.alloc (.cells #[u, v] 24)) 24 (.slice none 0 0) (.slice none 0 0)
  simpa using this
theorem Boxes.below {w wx wy : World} {u v : Value} (h : Boxes w wx u v) (b : Below wx.heap.size wx wy) : Boxes w wy u v :=
  ⟨h.1.below b, h.2.1.below b, h.2.2.1.trans (b.mono h.2.2.1.size), Nat.le_trans h.2.2.2 b.size⟩
theorem Boxes.drew {w wx : World} {u v : Value} (h : Boxes w wx u v) : Boxes w wx.drew u v := ⟨h.1, h.2.1, below_drewN h.2.2.1 1, h.2.2.2⟩
theorem Boxes.done {w wx wy : World} {u v a b : Value} {xs ys : List Int} {base base' : Nat} (h : Boxes w wx u v) (g : wx.grownBy wy (some (w.heap.size + 1))) (oa : Own wx base a xs) (ob : Own wx base' b ys) (hb : w.heap.size + 2 ≤ base) (hb' : w.heap.size + 2 ≤ base') (hap : apart a b) :
    OwnD wy w.heap.size a b xs ys ∧ Below w.heap.size w wy :=
  ⟨⟨(oa.keptLt g (by omega)).mono (by omega), (ob.keptLt g (by omega)).mono (by omega), hap⟩, h.2.2.1.grown g h.2.2.1.size (fun k e => by cases e; omega)⟩

theorem cell_set1 {w : World} {g j k : Nat} {x y : Value} (h : w.cell? ⟨g, j, none⟩ = some x) : (w.setCell ⟨g + 1, k, none⟩ y).cell? ⟨g, j, none⟩ = some x := by
  rw [World.cell?_of_block (w := w) (heap_setCell_other w ⟨g + 1, k, none⟩ g y (by simp)), h]
theorem grown_two (w : World) (g : Nat) (x y : Value) : w.grownBy ((w.setCell ⟨g, 0, none⟩ x).setCell ⟨g, 1, none⟩ y) (some g) := (grownSet w g 0 x).trans (grownSet _ g 1 y)
theorem apart.symm {u v : Value} (h : apart u v) : apart v u := ⟨h.2, h.1⟩

theorem beq_cast (n m : Nat) : ((n : Int) == (m : Int)) = decide (n = m) := by
  by_cases h : n = m
  · subst h; simp
  · have : (n : Int) ≠ m := by omega
    simp [h, this]
end Go.Proofs.YteooloceaoinlaaDoor
/- A struct in a block of its own, whatever its type: loads, stores and answers of the whole struct. -/
namespace Go.Proofs.YteooloceaoinlaaDoor
open Go.ChangeShapes Go.WideShapes Go.ChangeAt Go.RowKit

def StB (w : World) (g : Nat) (t : TypeId) (cs : Array Value) : Prop := w.heap[g]? = some (.cells cs t (0, 0))
theorem StB.lt {w : World} {g : Nat} {t : TypeId} {cs : Array Value} (h : StB w g t cs) : g < w.heap.size := by
  rcases Nat.lt_or_ge g w.heap.size with hlt | hge
  · exact hlt
  · rw [StB, Array.getElem?_eq_none hge] at h; cases h
theorem StB.new (w : World) (t : TypeId) (cs : Array Value) : StB (w.alloc (.cells cs t)) w.heap.size t cs := heap_alloc_new w _
theorem StB.below {w w' : World} {g : Nat} {t : TypeId} {cs : Array Value} (h : StB w g t cs) (hb : Below w.heap.size w w') : StB w' g t cs := (hb.block g h.lt).trans h
theorem StB.kept {w w' : World} {g : Nat} {t : TypeId} {cs : Array Value} {row : Option Nat} (h : StB w g t cs) (hg : w.grownBy w' row) (hne : some g ≠ row) : StB w' g t cs := (hg.block g h.lt hne).trans h
theorem StB.alloc {w : World} {g : Nat} {t : TypeId} {cs : Array Value} (h : StB w g t cs) (o : Obj) : StB (w.alloc o) g t cs := (Below.heap_alloc w o g h.lt).trans h
theorem StB.cell {w : World} {g : Nat} {t : TypeId} {cs : Array Value} (h : StB w g t cs) (j : Nat) {x : Value} (e : cs[j]? = some x) : w.cell? ⟨g, j, none⟩ = some x := by rw [cell_of_row w g j _ _ _ h, e]
theorem StB.frozen {w : World} {g : Nat} {t : TypeId} {cs : Array Value} (h : StB w g t cs) (j : Nat) : w.frozen? ⟨g, j, none⟩ = false := frozen_of_row w g j _ _ h
theorem StB.put {w : World} {g : Nat} {t : TypeId} {cs ds : Array Value} (h : StB w g t cs) (j : Nat) (x : Value) (e : cs.setIfInBounds j x = ds) : StB (w.setCell ⟨g, j, none⟩ x) g t ds := by
  have := heap_setCell_same w g j _ _ x h
  rw [e] at this
  exact this
theorem StB.other {w : World} {g : Nat} {t : TypeId} {cs : Array Value} (h : StB w g t cs) (a : Addr) (x : Value) (hne : g ≠ a.block) : StB (w.setCell a x) g t cs := (heap_setCell_other w a g x hne).trans h
theorem grownRowS (w : World) (g : Nat) (cs : Array Value) : w.grownBy (w.setRow g cs) (some g) :=
  ⟨rfl, rfl, rfl, by simp, fun k _ hne => _root_.Go.setRow_other w g k cs (fun e => hne (by rw [e]))⟩
/- Type t is a struct of n cells. -/
def IsS (t : TypeId) (n : Nat) : Prop := (∃ fs, Tryd.prog.underlying t = some (.struct fs)) ∧ (Tryd.prog.info? t).map (·.size) = some n
theorem wpList_getS {t : TypeId} {n : Nat} (hS : IsS t n) {ops : Array Oper} {rest : List Oper} {o : Oper} {a : Act} {w : World} {Q : Exit → Act → World → Prop} (hgd : o.guard = none) (x : Operand) (ho : o.op = .load t x)
    (g : Nat) (hx : a.eval x = .pointer (some ⟨g, 0, none⟩)) (cs : Array Value) (hn : cs.size = n) (hr : StB w g t cs)
    (h : wpList Tryd.prog ops Q rest (a.put o.dst (.agg cs)) w) : wpList Tryd.prog ops Q (o :: rest) a w := by
  obtain ⟨⟨fs, hu⟩, hi⟩ := hS
  exact wpList_load_row hgd _ x ho g hx _ _ _ _ hr hu rfl (by rw [hi, hn]) h
theorem wpList_putS {t : TypeId} {n : Nat} (hS : IsS t n) {ops : Array Oper} {rest : List Oper} {o : Oper} {a : Act} {w : World} {Q : Exit → Act → World → Prop} (hgd : o.guard = none) (x y : Operand) (ho : o.op = .store t x y)
    (g : Nat) (cs ds : Array Value) (hx : a.eval x = .pointer (some ⟨g, 0, none⟩)) (hy : a.eval y = .agg cs) (hn : cs.size = n) (hd : ds.size = n) (h1 : cs.all (·.oneCell') = true) (hr : StB w g t ds)
    (h : ∀ w', StB w' g t cs → w.grownBy w' (some g) → wpList Tryd.prog ops Q rest (a.put o.dst undef) w') : wpList Tryd.prog ops Q (o :: rest) a w :=
  wpList_store_row hgd _ x y ho g cs hx hy _ _ hr (by rw [hS.2, hn]) (by rw [hd, hn]) h1 (h _ (setRow_heap w g _ _ _ _ hr) (grownRowS w g _))
theorem load_S {t : TypeId} {n : Nat} (hS : IsS t n) (w : World) (g : Nat) (cs : Array Value) (hn : cs.size = n) (hr : StB w g t cs) : (loadVar t ⟨g, 0, none⟩).run Tryd.prog w = .ok (.agg cs) w := by
  obtain ⟨⟨fs, hu⟩, hi⟩ := hS
  exact run_loadVar_row w g _ _ _ _ _ hr hu rfl (by rw [hi, hn])
theorem results_S {t : TypeId} {n : Nat} (hS : IsS t n) {fn : Func} {p : Tmp} (h : fn.results = #[.cell p t]) (tmps : Array Value) (w : World) (g : Nat) (cs : Array Value) (hn : cs.size = n)
    (hp : tmps.getD p undef = .pointer (some ⟨g, 0, none⟩)) (hr : StB w g t cs) : (results fn tmps).run Tryd.prog w = .ok (.agg cs) w := by
  obtain ⟨⟨fs, hu⟩, hi⟩ := hS
  exact results_cell_row h tmps w g _ _ _ _ hp hr hu rfl (by rw [hi, hn])
theorem results_S2 {t : TypeId} {n : Nat} (hS : IsS t n) {fn : Func} {p q : Tmp} (h : fn.results = #[.cell p t, .tmp q]) (tmps : Array Value) (w : World) (g : Nat) (cs : Array Value) (x : Value) (hn : cs.size = n)
    (hp : tmps.getD p undef = .pointer (some ⟨g, 0, none⟩)) (hx : tmps.getD q undef = x) (hr : StB w g t cs) : (results fn tmps).run Tryd.prog w = .ok (.tuple #[.agg cs, x]) w := by
  rw [results_cell_tmp h, hp, hx]
  simp only [asAddr, Sem.run_pure, Result.andThen_ok]
  rw [load_S hS w g cs hn hr]
  rfl
theorem results_S3 {t : TypeId} {n : Nat} (hS : IsS t n) {fn : Func} {p q r : Tmp} (h : fn.results = #[.cell p t, .tmp q, .tmp r]) (tmps : Array Value) (w : World) (g : Nat) (cs : Array Value) (x y : Value) (hn : cs.size = n)
    (hp : tmps.getD p undef = .pointer (some ⟨g, 0, none⟩)) (hx : tmps.getD q undef = x) (hy : tmps.getD r undef = y) (hr : StB w g t cs) : (results fn tmps).run Tryd.prog w = .ok (.tuple #[.agg cs, x, y]) w := by
  have hl := load_S hS w g cs hn hr
  have hp' : tmps[p]?.getD undef = .pointer (some ⟨g, 0, none⟩) := by simpa using hp
  have hx' : tmps[q]?.getD undef = x := by simpa using hx
  have hy' : tmps[r]?.getD undef = y := by simpa using hy
  simp [results, h, hp', hx', hy', asAddr, hl]
theorem reads_cells {w : World} {ao : Option Addr} {n cap : Nat} {xs : List Int} (h : Reads w (.slice ao n cap) xs) : n = xs.length ∧ n ≤ cap ∧ cap ≤ maxLen ∧ ∀ j, j < n → ∃ b off, ao = some ⟨b, off, none⟩ ∧ w.cell? ⟨b, off + j, none⟩ = some (.int .i64 (xs.getD j 0)) := by
  obtain ⟨ao', cap', e, hl, ⟨hm, -⟩, hc⟩ := h
  simp only [Value.slice.injEq] at e
  obtain ⟨rfl, rfl, rfl⟩ := e
  refine ⟨rfl, hl, hm, fun j hj => ?_⟩
  rcases hc with rfl | ⟨b, off, rfl, h4⟩
  · simp at hj
  · exact ⟨b, off, rfl, h4 j hj⟩
theorem reads_form {w : World} {v : Value} {xs : List Int} (h : Reads w v xs) : ∃ ao cap, v = .slice ao xs.length cap := by
  obtain ⟨ao, cap, e, _⟩ := h
  exact ⟨ao, cap, e⟩
theorem reads_one {w : World} {v : Value} {xs : List Int} (h : Reads w v xs) : v.oneCell' = true := by
  obtain ⟨ao, cap, rfl, _⟩ := h; rfl
end Go.Proofs.YteooloceaoinlaaDoor
/- Whether a number lies between two others, by the model: l1In, l6Key, l6Word. -/
namespace Go.Proofs.YteooloceaoinlaaDoor
open Go.ChangeShapes Go.WideShapes Go.ChangeAt Go.RowKit

set_option maxRecDepth 20000 in
set_option maxHeartbeats 400000 in
theorem sin6_any (x lo hi : Int) (w : World) :
    Calls Tryd.prog 10 #[.int .i64 x, .int .i64 lo, .int .i64 hi] w fun e w' => e = .returned (.bool (inI x lo hi)) ∧ w' = w := by
  by_cases h0 : lo ≤ x
  · by_cases h1 : x ≤ hi
    · have he : inI x lo hi = true := by simp [inI, h0, h1]
      rw [he]
      clear he
      go_enter Tryd.func10, Tryd.ntmps10
      go_wp2
      go_ret
      exact ⟨ret_bool (by simp), rfl⟩
    · have he : inI x lo hi = false := by simp [inI, h1]
      rw [he]
      clear he
      go_enter Tryd.func10, Tryd.ntmps10
      go_wp2
      go_ret
      exact ⟨ret_bool (by simp), rfl⟩
  · have he : inI x lo hi = false := by simp [inI, h0]
    rw [he]
    clear he
    go_enter Tryd.func10, Tryd.ntmps10
    go_wp2
    go_ret
    exact ⟨ret_bool (by simp), rfl⟩
end Go.Proofs.YteooloceaoinlaaDoor
/- Kinds, and who may, by the model: KindOk, Bars, ForAll, Allowed. -/
namespace Go.Proofs.YteooloceaoinlaaDoor
open Go.ChangeShapes Go.WideShapes Go.ChangeAt Go.RowKit
end Go.Proofs.YteooloceaoinlaaDoor
/- Holdings by the model: l8Who, l8Any, HoldingOk, l8Registered, Registered, l8Holds, Holds, l8May, May, NewHolding. -/
namespace Go.Proofs.YteooloceaoinlaaDoor
open Go.ChangeShapes Go.WideShapes Go.ChangeAt Go.RowKit

def hdA (v : Value) (h : Hd) : Array Value := #[v, .int .i64 h.kd, .int .i64 h.ho, .int .i64 h.tu]
def HV (v : Value) (h : Hd) : Value := .agg (hdA v h)
theorem Tryd.isH : IsS 26 4 := ⟨⟨_, Tryd.underlying26⟩, by kernel_rfl⟩
/- A holding lies in a block of the call's own, and its keys can be read. -/
def HdB (w : World) (g : Nat) (t : TypeId) (v : Value) (h : Hd) : Prop := StB w g t (hdA v h) ∧ Reads w v h.ks
theorem HdB.new {w : World} {v : Value} {h : Hd} (t : TypeId) (hr : Reads w v h.ks) : HdB (w.alloc (.cells (hdA v h) t)) w.heap.size t v h :=
  ⟨StB.new w t _, hr.below ((Below.refl _ _).alloc (Nat.le_refl _) _) (Nat.le_refl _)⟩
theorem HdB.below {w w' : World} {g : Nat} {t : TypeId} {v : Value} {h : Hd} (k : HdB w g t v h) (hb : Below w.heap.size w w') : HdB w' g t v h := ⟨k.1.below hb, k.2.below hb (Nat.le_refl _)⟩
theorem HdB.alloc {w : World} {g : Nat} {t : TypeId} {v : Value} {h : Hd} (k : HdB w g t v h) (o : Obj) : HdB (w.alloc o) g t v h := k.below ((Below.refl _ _).alloc (Nat.le_refl _) _)
theorem HdB.drewN {w : World} {g : Nat} {t : TypeId} {v : Value} {h : Hd} (k : HdB w g t v h) (n : Nat) : HdB (w.drewN n) g t v h := k.below (below_drewN (Below.refl _ _) n)
end Go.Proofs.YteooloceaoinlaaDoor
/- A store in plain lists and numbers: a disk and a holding; what is done to it. -/
namespace Go.Proofs.YteooloceaoinlaaDoor
open Go.ChangeShapes Go.WideShapes Go.ChangeAt Go.RowKit

/- The six cells of a store: the disk's two lists, the keys, kind, holder and turn. -/
def srA (a b k : Value) (h : Hd) : Array Value := #[a, b, k, .int .i64 h.kd, .int .i64 h.ho, .int .i64 h.tu]
def SRV (a b k : Value) (h : Hd) : Value := .agg (srA a b k h)

/- A store. -/
structure Sr where
  xs : List Int
  ys : List Int
  h : Hd
def Sr.zero : Sr := ⟨[], [], Hd.zero⟩
def Sr.ok (s : Sr) : Bool := bothOk s.xs s.ys && s.h.ok
def newS (n : Int) : Sr := if decide (1 ≤ n) && decide (n ≤ 8) then ⟨zerosI n, zerosI n, Hd.new⟩ else Sr.zero
def conf (r : Hd × Bool) : Hd × An := (r.1, if r.2 then ⟨0, []⟩ else ⟨3, []⟩)
def Hd.act (h : Hd) (who : Int) (c : Cm) : Hd × An :=
  if c.o = 6 then (h.regd who c.a, ⟨0, []⟩)
  else if c.o = 7 then conf (h.resd who c.k)
  else if c.o = 8 then conf (h.reld who)
  else if c.o = 9 then conf (h.clrd who)
  else if c.o = 10 then (if c.a = 0 then (h, ⟨1, []⟩) else conf (h.pred who c.a c.k))
  else if c.o = 11 then (h, ⟨0, h.keysT⟩)
  else (h, ⟨0, h.holdT⟩)
def Sr.doing (s : Sr) (who : Int) (c : Cm) : Sr × An :=
  if 5 < c.o then (⟨s.xs, s.ys, (s.h.act who c).1⟩, (s.h.act who c).2)
  else if s.h.may who (decide (c.o ≠ 1)) then (⟨(didI s.xs s.ys c).1, (didI s.xs s.ys c).2.1, s.h⟩, (didI s.xs s.ys c).2.2)
  else (s, ⟨3, []⟩)
def Sr.did (s : Sr) (who : Int) (c : Cm) : Sr × An :=
  if s.ok then (if inI who 0 3 && c.ok then s.doing who c else (s, ⟨7, []⟩)) else (Sr.zero, ⟨7, []⟩)
def Sr.power (s : Sr) (set : Int) : Sr :=
  if s.ok then (if setOk set then ⟨chosenUp s.xs s.ys set 8 s.xs.length, chosenUp s.xs s.ys set 8 s.xs.length, s.h⟩ else s) else Sr.zero
def Hd.eqB (a b : Hd) : Bool := decide (a.ks = b.ks) && decide (a.kd = b.kd) && decide (a.ho = b.ho) && decide (a.tu = b.tu)
def Sr.alike (s t : Sr) : Bool := s.ok && t.ok && (decide (s.xs = t.xs) && decide (s.ys = t.ys) && s.h.eqB t.h)
end Go.Proofs.YteooloceaoinlaaDoor
/- What the law on holdings says, of plain numbers: who holds it, how many do. -/
namespace Go.Proofs.YteooloceaoinlaaDoor
open Go.RowKit

def cnt (p : Int → Bool) : Nat → Nat
  | 0 => 0
  | j + 1 => cnt p j + (if p j = true then 1 else 0)
theorem cnt_le (p : Int → Bool) (j : Nat) : cnt p j ≤ j := by
  induction j with
  | zero => exact Nat.le_refl _
  | succ j ih => unfold cnt; split <;> omega
theorem cnt_none (p : Int → Bool) (h : ∀ i, p i = false) (j : Nat) : cnt p j = 0 := by
  induction j with
  | zero => rfl
  | succ j ih => simp [cnt, ih, h]
theorem cnt_same (p q : Int → Bool) (h : ∀ i, p i = q i) (j : Nat) : cnt p j = cnt q j := by
  induction j with
  | zero => rfl
  | succ j ih => simp [cnt, ih, h]
theorem cnt_some (p : Int → Bool) (k : Nat) (h : p k = true) (j : Nat) (hj : k < j) : 0 < cnt p j := by
  induction j with
  | zero => omega
  | succ j ih =>
    unfold cnt
    by_cases e : k = j
    · subst e; rw [if_pos h]; omega
    · have := ih (by omega); omega
theorem cnt_at (p : Int → Bool) (k : Nat) (h : ∀ i : Nat, p i = decide (i = k)) (j : Nat) : cnt p j = if k < j then 1 else 0 := by
  induction j with
  | zero => rfl
  | succ j ih =>
    unfold cnt
    rw [ih, h j]
    by_cases e : j = k
    · subst e; simp
    · simp [e]; split <;> split <;> omega

theorem Hd.ok_parts {h : Hd} (e : h.ok = true) : h.ks.length = 4 ∧ h.mid = true := by
  unfold Hd.ok at e
  simp only [Bool.and_eq_true, decide_eq_true_eq] at e
  exact ⟨e.1.1.1, e.2⟩
theorem Hd.not_ok {h : Hd} (e : h.ok = false) (i : Int) (w : Bool) : h.Reg i = false ∧ h.Hol i = false ∧ h.May i w = false := by
  simp [Hd.Reg, Hd.Hol, Hd.May, e]
/- Where nothing is held nobody holds it. -/
theorem Hd.hol_none {h : Hd} (e : h.kd = 0) (i : Int) : h.Hol i = false := by
  simp [Hd.Hol, Hd.holds, e]
/- Where it is for all each that is registered holds it. -/
theorem Hd.hol_all {h : Hd} (ok : h.ok = true) (ha : allI h.kd = true) (i : Int) : h.Hol i = h.Reg i := by
  have hm := (Hd.ok_parts ok).2
  have hk : h.kd ≠ 0 := by intro e; rw [e] at ha; cases ha
  unfold Hd.mid at hm
  rw [if_neg hk, if_pos ha] at hm
  simp only [Bool.and_eq_true, decide_eq_true_eq] at hm
  unfold Hd.Hol Hd.Reg Hd.holds
  cases hi : inI i 0 3 with
  | false => simp
  | true =>
    have := (inI_iff i 0 3).1 hi
    have hne : ¬ h.ho = i := by omega
    simp [hk, hne, ha]
/- Where one alone holds it the holder does. -/
theorem Hd.hol_one {h : Hd} (ok : h.ok = true) (hk : h.kd ≠ 0) (ha : allI h.kd = false) : ∃ k : Nat, k < 4 ∧ h.ho = k ∧ regI h.ks h.ho = true ∧ ∀ i : Int, inI i 0 3 = true → h.Hol i = decide (i = k) := by
  have hm := (Hd.ok_parts ok).2
  unfold Hd.mid at hm
  rw [if_neg hk, if_neg (by rw [ha]; decide)] at hm
  simp only [Bool.and_eq_true] at hm
  have hr := (inI_iff _ _ _).1 hm.1.2
  refine ⟨h.ho.toNat, by omega, by omega, hm.2, fun i hi => ?_⟩
  have hi' := (inI_iff _ _ _).1 hi
  unfold Hd.Hol Hd.holds
  rw [ok, hi, ha]
  by_cases e : h.ho = i
  · have e2 : i = ((h.ho.toNat : Nat) : Int) := by omega
    simp [hk, e]
    omega
  · have e2 : ¬ i = ((h.ho.toNat : Nat) : Int) := by omega
    simp [e]
    omega
theorem Hd.hol_reg {h : Hd} (i : Int) (e : h.Hol i = true) : h.Reg i = true := by
  have e' := e
  unfold Hd.Hol at e'
  simp only [Bool.and_eq_true] at e'
  obtain ⟨⟨ok, hi⟩, hh⟩ := e'
  by_cases hk : h.kd = 0
  · rw [Hd.hol_none hk i] at e; cases e
  · cases ha : allI h.kd with
    | true => rw [← Hd.hol_all ok ha i]; exact e
    | false =>
      obtain ⟨k, hk4, hho, hr, hall⟩ := Hd.hol_one ok hk ha
      rw [hall i hi] at e
      have : i = h.ho := by rw [hho]; exact of_decide_eq_true e
      unfold Hd.Reg
      rw [ok, hi, this, hr]; rfl
theorem Hd.hol_may {h : Hd} (i : Int) (w : Bool) (e : h.Hol i = true) : h.May i w = true := by
  unfold Hd.Hol at e
  simp only [Bool.and_eq_true] at e
  obtain ⟨⟨ok, hi⟩, hh⟩ := e
  have hk : h.kd ≠ 0 := by intro hk; simp [Hd.holds, hk] at hh
  have hm := (Hd.ok_parts ok).2
  have hkind : kiI h.kd = true := by
    unfold Hd.mid at hm
    rw [if_neg hk] at hm
    cases ha : allI h.kd with
    | true =>
      rcases kinds h.kd with h' | h' | h' | h' | h' | h' | h' | ⟨hn, -⟩
      all_goals first | exact absurd h' hk | (rw [h']; rfl) | (rw [none_all _ hn] at ha; cases ha)
    | false =>
      rw [if_neg (by rw [ha]; decide)] at hm
      simp only [Bool.and_eq_true] at hm
      exact hm.1.1
  unfold Hd.May Hd.may
  rw [ok, hi, hh, mayI_holds h.kd w _ hkind]; rfl
theorem Hd.count {h : Hd} (ok : h.ok = true) : (h.kd = 0 → cnt h.Hol 4 = 0) ∧ (h.kd ≠ 0 → allI h.kd = true → cnt h.Hol 4 = cnt h.Reg 4 ∧ 0 < cnt h.Reg 4) ∧ (h.kd ≠ 0 → allI h.kd = false → cnt h.Hol 4 = 1) := by
  refine ⟨fun e => cnt_none _ (Hd.hol_none e) 4, fun hk ha => ⟨cnt_same _ _ (Hd.hol_all ok ha) 4, ?_⟩, fun hk ha => ?_⟩
  · have hm := (Hd.ok_parts ok).2
    have hl := (Hd.ok_parts ok).1
    unfold Hd.mid at hm
    rw [if_neg hk, if_pos ha] at hm
    simp only [Bool.and_eq_true] at hm
    have ha2 := hm.2
    unfold anyI at ha2
    rw [List.any_eq_true] at ha2
    obtain ⟨x, hx, hx2⟩ := ha2
    obtain ⟨k, hk4, rfl⟩ := List.mem_iff_getElem.1 hx
    refine cnt_some _ k ?_ 4 (by omega)
    unfold Hd.Reg regI
    have h3 : inI (k : Int) 0 3 = true := (inI_iff _ _ _).2 (by omega)
    rw [ok, h3]
    simp [hk4] at hx2 ⊢
    exact hx2
  · obtain ⟨k, hk4, hho, hr, hall⟩ := Hd.hol_one ok hk ha
    have e : cnt h.Hol 4 = cnt (fun i => decide (i = (k : Int))) 4 := by
      have h0 := hall 0 (by decide)
      have h1 := hall 1 (by decide)
      have h2 := hall 2 (by decide)
      have h3 := hall 3 (by decide)
      simp [cnt, h0, h1, h2, h3]
    rw [e, cnt_at _ k (fun i => by simp; omega) 4, if_pos hk4]
end Go.Proofs.YteooloceaoinlaaDoor
