/- What the law on holdings draws: l8DrawWho, DrawMay. -/
import Derived.Test.YtpdggofaobmnlaaM9
import Derived.Test.YtpdggofaobmnlaaM7
import Derived.Deep.RegionHeld3
import Derived.Test.YtpdggofaobmnlaaM6
import Derived.Test.YtpdggofaobmnlaaM2
import Derived.Test.YtpdggofaobmnlaaM8
namespace Go.Proofs.Ytpdggofaobmnlaa
open Go.ChangeShapes Go.WideShapes Go.ChangeAt Go.RowKit

theorem DrawnH.kept {w w' w2 : World} {u : Value} {h : Hd} {row : Option Nat} (d : DrawnH w w' u h) (G : w'.grownBy w2 row) (hr : ∀ k, row = some k → k < w.heap.size ∨ w'.heap.size ≤ k) : DrawnH w w2 u h := by
  obtain ⟨⟨ao, cap', e, h1, h2, h3⟩, ⟨q, off, cap, e2, hq1, hq2⟩, hl⟩ := d
  subst e
  simp only [Value.slice.injEq] at e2
  obtain ⟨rfl, -, rfl⟩ := e2
  refine ⟨⟨_, _, rfl, h1, h2, ?_⟩, ⟨q, off, cap', rfl, hq1, Nat.lt_of_lt_of_le hq2 G.size⟩, hl⟩
  rcases h3 with h3 | ⟨b, o2, e3, h3⟩
  · exact .inl h3
  · refine .inr ⟨b, o2, e3, fun j hj => ?_⟩
    simp only [Option.some.injEq, Addr.mk.injEq] at e3
    obtain ⟨rfl, rfl, -⟩ := e3
    exact G.cell (h3 j hj) (fun e => by rcases hr q e.symm with h | h <;> omega)
theorem DrawnH.mono {w0 w w' : World} {u : Value} {h : Hd} (d : DrawnH w w' u h) (hb : w0.heap.size ≤ w.heap.size) : DrawnH w0 w' u h := by
  obtain ⟨h1, ⟨q, off, cap, e2, hq1, hq2⟩, hl⟩ := d
  exact ⟨h1, ⟨q, off, cap, e2, Nat.le_trans hb hq1, hq2⟩, hl⟩

/- The answer's block g holds the zero holding, block k the one that was drawn. -/
def DM (w w1 wx : World) (B c g k : Nat) (u : Value) (h : Hd) : Prop :=
  Cur wx B c ∧ Below w.heap.size w wx ∧ StB wx g 28 zeroH ∧ StB wx k 28 (hdA u h) ∧ DrawnH w1 wx u h ∧ (w.heap.size ≤ g ∧ g < w1.heap.size ∧ w.heap.size ≤ c ∧ c < w1.heap.size ∧ g ≠ c ∧ w1.heap.size ≤ k ∧ g ≠ k ∧ w.heap.size ≤ w1.heap.size)
theorem DM.draw {w w1 wx wy : World} {B c g k : Nat} {u : Value} {h : Hd} (d : DM w w1 wx B c g k u h) (C : Cur wy B c) (G : wx.grownBy wy (some c)) : DM w w1 wy B c g k u h := by
  obtain ⟨h1, h2, h3, h4, h5, h6⟩ := d
  refine ⟨C, h2.grown G h2.size (fun x e => by cases e; omega), h3.kept G ?_, h4.kept G ?_, h5.kept G (fun x e => by cases e; omega), h6⟩
  · intro e; have := Option.some.inj e; omega
  · intro e; have := Option.some.inj e; omega
theorem DM.drew {w w1 wx : World} {B c g k : Nat} {u : Value} {h : Hd} (d : DM w w1 wx B c g k u h) : DM w w1 wx.drew B c g k u h := by
  obtain ⟨h1, h2, h3, h4, h5, h6⟩ := d
  exact ⟨h1, h2.drew, h3, h4, h5, h6⟩
theorem DM.fin {w w1 wx wy : World} {B c g k : Nat} {u : Value} {h : Hd} (d : DM w w1 wx B c g k u h) (G : wx.grownBy wy (some g)) : DrawnH w wy u h ∧ Below w.heap.size w wy := by
  obtain ⟨h1, h2, h3, h4, h5, h6⟩ := d
  exact ⟨(h5.kept G (fun x e => by cases e; omega)).mono h6.2.2.2.2.2.2.2, h2.grown G h2.size (fun x e => by cases e; omega)⟩
end Go.Proofs.Ytpdggofaobmnlaa
/- Regions that draw their order, with calls that make memory, new variables and stores into them, whatever the order: what is needed at each step is found by the world's own shape. -/
namespace Go.Proofs.Ytpdggofaobmnlaa
open Go.ChangeShapes Go.WideShapes Go.ChangeAt Go.RowKit

theorem bel_alloc {w wx : World} {o : Obj} (h : Below w.heap.size w wx) : Below w.heap.size w (wx.alloc o) := h.alloc h.size _
theorem bel_drew {w wx : World} (h : Below w.heap.size w wx) : Below w.heap.size w wx.drew := h.drew
theorem bel_trans {w wx wy : World} (h : Below w.heap.size w wx) (b : Below wx.heap.size wx wy) : Below w.heap.size w wy := h.trans (b.mono h.size)
/- The same as 'Below', under a name of its own: what a region holds. -/
def Sx (w wx : World) : Prop := Below w.heap.size w wx
theorem later_cell {w wx : World} {a : Addr} {v : Value} (h : w.cell? a = some v) (b : Below w.heap.size w wx) : wx.cell? a = some v := by
  rw [b.cell (World.block_lt_of_cell? w _ h)]; exact h
theorem StB.newE (w : World) (t : TypeId) (cs : Array Value) {g : Nat} (h : g = w.heap.size) : StB (w.alloc (.cells cs t)) g t cs := by subst h; exact StB.new w t cs
theorem StB.dr {w : World} {g : Nat} {t : TypeId} {cs : Array Value} (h : StB w g t cs) : StB w.drew g t cs := h
theorem StB.al {w : World} {g : Nat} {t : TypeId} {cs : Array Value} {o : Obj} (h : StB w g t cs) : StB (w.alloc o) g t cs := h.alloc o
theorem StB.bel {w w' : World} {g : Nat} {t : TypeId} {cs : Array Value} (h : StB w g t cs) (b : Below w.heap.size w w') : StB w' g t cs := h.below b
/- One block has one type. -/
theorem StB.typ {w : World} {g k : Nat} {t s : TypeId} {cs ds : Array Value} (h : StB w g t cs) (h' : StB w k s ds) (hne : t ≠ s) : g ≠ k := by
  rintro rfl
  unfold StB at h h'
  rw [h] at h'
  simp at h'
  exact hne h'.2
theorem Own.ne {w : World} {base g : Nat} {v : Value} {xs : List Int} {t : TypeId} {cs : Array Value} (h : Own w base v xs) (h' : StB w g t cs) (hne : t ≠ 2) : v.ownBlock ≠ some g := by
  intro e
  rcases h.2 with ⟨rfl, -⟩ | ⟨k, cap, cur, rfl, -, hg, -⟩
  · cases e
  · simp only [Value.ownBlock, Option.some.injEq] at e
    subst e
    unfold StB at h'
    rw [hg] at h'
    simp at h'
    exact hne h'.2.symm
theorem Own.putBy {w w' : World} {base g : Nat} {v : Value} {xs : List Int} {t : TypeId} {cs : Array Value} (h : Own w base v xs) (h' : StB w g t cs) (hne : t ≠ 2) (b : w.grownBy w' (some g)) : Own w' base v xs :=
  h.kept b (.inr (h.ne h' hne))
theorem bel_put {w wx wy : World} {g : Nat} (h : Below w.heap.size w wx) (b : wx.grownBy wy (some g)) (hg : w.heap.size ≤ g) : Below w.heap.size w wy :=
  h.grown b h.size (fun k e => by cases e; exact hg)
theorem step_putS {t : TypeId} {n : Nat} (hS : IsS t n) {ops : Array Oper} {o : Oper} {a : Act} {w : World} {K : Act → World → Prop} {Q : Exit → Act → World → Prop} {E : Prop} (hgd : o.guard = none) (x y : Operand) (ho : o.op = .store t x y)
    (g : Nat) (cs ds : Array Value) (hx : a.eval x = .pointer (some ⟨g, 0, none⟩)) (hy : a.eval y = .agg cs) (hn : cs.size = n) (hd : ds.size = n) (h1 : cs.all (·.oneCell') = true) (hr : StB w g t ds)
    (h : ∀ w', StB w' g t cs → w.grownBy w' (some g) → K (a.put o.dst undef) w') : if Region.wanted o (yielded ops a.tmps) = true then Oper.wp Try.prog o a w K Q else E := by
  have hw : Region.wanted o (yielded ops a.tmps) = true := by simp [Region.wanted, hgd]
  rw [if_pos hw]
  exact wp_store_row t x y ho g cs hx hy _ _ hr (by rw [hS.2, hn]) (by rw [hd, hn]) h1 (h _ (setRow_heap w g _ _ _ _ hr) (grownRowS w g _))
theorem ge_of {w wx wy : World} {g : Nat} (_ : wx.grownBy wy (some g)) (l : w.heap.size ≤ g) : w.heap.size ≤ g := l
theorem StB.keptT {w w' : World} {g k : Nat} {t s : TypeId} {cs ds : Array Value} (h : StB w k s ds) (h' : StB w g t cs) (b : w.grownBy w' (some g)) (ne : t ≠ s) : StB w' k s ds := h.kept b (fun e => StB.typ h' h ne (Option.some.inj e).symm)
/- A whole struct, folded, is stored into a variable: as it comes to the arms of a region that draws. -/
theorem upon_putS {o : Oper} {a : Act} {w : World} {K : Act → World → Prop} {Q : Exit → Act → World → Prop} (g : Nat) (t : TypeId) (cs ds : Array Value) (hd : ds.size = cs.size) (h1 : cs.all (·.oneCell') = true) (hr : StB w g t ds)
    (h : ∀ w', StB w' g t cs → w.grownBy w' (some g) → Oper.upon Try.prog o a K Q (.ok .skip w')) :
    Oper.upon Try.prog o a K Q (((storeCells ⟨g, 0, none⟩ cs.toList).run Try.prog w).andThen fun _ w' => .ok .skip w') := by
  have e := run_storeCells_from (P := Try.prog) g t cs.toList 0 ds w hr (by simp; omega) (fun v hv => (Array.all_eq_true_iff_forall_mem.1 h1) v (by simpa using hv))
  rw [e]
  simp only [List.take_zero, List.nil_append, Array.toArray_toList, Result.andThen_ok]
  exact h _ (setRow_heap w g _ _ _ _ hr) (grownRowS w g _)
def dkA (u v : Value) : Array Value := #[u, v]
end Go.Proofs.Ytpdggofaobmnlaa
/- Which commands read, and which write, in plain numbers. -/
namespace Go.Proofs.Ytpdggofaobmnlaa

def Cm.rd (c : Cm) : Bool := c.ok && decide (c.o = 1)
def Cm.wr (c : Cm) : Bool := c.ok && inI c.o 2 5
end Go.Proofs.Ytpdggofaobmnlaa
/- Blocks by commands, as plain lists: what one command does to a disk, and its answer. -/
namespace Go.Proofs.Ytpdggofaobmnlaa
open Go.RowKit

structure An where
  st : Int
  tx : Bs
def anA (x : An) : Array Value := #[.int .i64 x.st, S x.tx]
def AV (x : An) : Value := .agg (anA x)
def rangeI (ys : List Int) (c : Cm) : Bool := decide ((ys.length : Int) ≤ c.p) || (decide (c.o = 2) && !valOk c.a) || (decide (c.o = 3) && !valOk c.b)
def atI (ys : List Int) (c : Cm) : Int := ys.getD c.p.toNat 0
def didI (xs ys : List Int) (c : Cm) : List Int × List Int × An :=
  if c.o = 5 then (ys, ys, ⟨0, []⟩)
  else if rangeI ys c then (xs, ys, ⟨1, []⟩)
  else if c.o = 1 then (xs, ys, ⟨0, decI (atI ys c)⟩)
  else if c.o = 2 then (xs, ys.set c.p.toNat c.a, ⟨0, []⟩)
  else if c.o = 3 then (if atI ys c = c.a then (xs, ys.set c.p.toNat c.b, ⟨0, []⟩) else (xs, ys, ⟨2, decI (atI ys c)⟩))
  else (xs, ys.set c.p.toNat 0, ⟨0, []⟩)
def didD (xs ys : List Int) (c : Cm) : List Int × List Int × An :=
  if bothOk xs ys then (if c.ok && decide (c.o ≤ 5) then didI xs ys c else (xs, ys, ⟨7, []⟩)) else ([], [], ⟨7, []⟩)

theorem Cm.ok_vol {c : Cm} (h : c.ok = true) (h5 : c.o ≤ 5) : (c.o = 1 ∨ c.o = 2 ∨ c.o = 3 ∨ c.o = 4 ∨ c.o = 5) ∧ 0 ≤ c.p := by
  obtain ⟨o, p, a, b, k⟩ := c
  have hb := Cm.ok_byt h
  unfold Cm.ok Cm.told at h
  dsimp only at h h5
  simp only [Bool.and_eq_true, inI_iff] at h
  unfold Cm.Byt at hb
  dsimp only at hb
  dsimp only
  omega
theorem didI_len (xs ys : List Int) (c : Cm) (h : xs.length ≤ 1048576) (h' : ys.length ≤ 1048576) : (didI xs ys c).1.length ≤ 1048576 ∧ (didI xs ys c).2.1.length ≤ 1048576 := by
  unfold didI
  split
  · exact ⟨h', h'⟩
  · split
    · exact ⟨h, h'⟩
    · split
      · exact ⟨h, h'⟩
      · split
        · exact ⟨h, by simpa using h'⟩
        · split
          · split
            · exact ⟨h, by simpa using h'⟩
            · exact ⟨h, h'⟩
          · exact ⟨h, by simpa using h'⟩
theorem didD_len (xs ys : List Int) (c : Cm) (h : xs.length ≤ 1048576) (h' : ys.length ≤ 1048576) : (didD xs ys c).1.length ≤ 1048576 ∧ (didD xs ys c).2.1.length ≤ 1048576 := by
  unfold didD
  split
  · split
    · exact didI_len xs ys c h h'
    · exact ⟨h, h'⟩
  · simp
end Go.Proofs.Ytpdggofaobmnlaa
