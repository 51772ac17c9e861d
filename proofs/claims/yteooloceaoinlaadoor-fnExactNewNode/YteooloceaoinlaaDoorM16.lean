/- Copiers by the model: l13Turns, CopierOk, Clean. -/
import Derived.Test.YteooloceaoinlaaDoorM13
import Derived.Test.YteooloceaoinlaaDoorM6
import Derived.Test.YteooloceaoinlaaDoorM15
import Derived.Test.YteooloceaoinlaaDoorM2
import Derived.Test.YteooloceaoinlaaDoorSta
import Derived.Test.YteooloceaoinlaaDoorM5
import Derived.BigRegion
import Derived.Deep.RegionHeld3
import Derived.Deep.DeepCutAuto
import Derived.Test.YteooloceaoinlaaDoorM8
namespace Go.Proofs.YteooloceaoinlaaDoor
open Go.ChangeShapes Go.WideShapes Go.ChangeAt Go.RowKit

def cpA (v : Value) (c : Cp) : Array Value := #[.int .i64 c.tr, .bool c.op, .int .i64 c.di, .int .i64 c.wa, v]
def CpV (v : Value) (c : Cp) : Value := .agg (cpA v c)
def zeroCp : Array Value := #[.int .i64 0, .bool false, .int .i64 0, .int .i64 0, .slice none 0 0]
theorem zeroCp_one : zeroCp.all (·.oneCell') = true := by simp [zeroCp, Value.oneCell']
theorem Tryd.isCp : IsS 30 5 := ⟨⟨_, Tryd.underlying30⟩, by kernel_rfl⟩
theorem cpA_one {v : Value} (c : Cp) (hv : v.oneCell' = true) : (cpA v c).all (·.oneCell') = true := by
  unfold cpA
  simp [hv, show ∀ k n, (Value.int k n).oneCell' = true from fun _ _ => rfl, show ∀ b, (Value.bool b).oneCell' = true from fun _ => rfl]
end Go.Proofs.YteooloceaoinlaaDoor
/- Copiers by the model: l13Copy, l13Has, and the hands on one that lies behind a pointer: l13Mark, l13Next, l13Ack, l13Again. -/
namespace Go.Proofs.YteooloceaoinlaaDoor
open Go.ChangeShapes Go.WideShapes Go.ChangeAt Go.RowKit
end Go.Proofs.YteooloceaoinlaaDoor
/- A copier inside a block, behind a pointer to its first cell: what a hand on it leaves. -/
namespace Go.Proofs.YteooloceaoinlaaDoor
open Go.ChangeShapes Go.WideShapes Go.ChangeAt Go.RowKit

theorem Turned.sub {w w' : World} {bs cs : List Nat} (h : Turned w w' bs) (hs : ∀ b ∈ bs, b ∈ cs) : Turned w w' cs :=
  ⟨h.os, h.tape, h.output, h.size, fun k hk hn => h.block k hk (fun e => hn (hs k e))⟩
theorem Turned.then {w w' w'' : World} {bs : List Nat} (h : Turned w w' bs) (h' : Turned w' w'' bs) : Turned w w'' bs := (h.trans h').sub (by simp)
theorem Turned.refl (w : World) (bs : List Nat) : Turned w w bs := (Turned.of_below (Below.refl _ _)).sub (by simp)
theorem Turned.below {w w' : World} (bs : List Nat) (h : Below w.heap.size w w') : Turned w w' bs := (Turned.of_below h).sub (by simp)

theorem Turned.belowAt {B : Nat} {w w' : World} {bs : List Nat} (h : Turned w w' bs) (hb : ∀ b ∈ bs, B ≤ b) (hB : B ≤ w.heap.size) : Below B w w' :=
  ⟨h.os, h.tape, h.output, h.size, fun k hk => h.block k (Nat.lt_of_lt_of_le hk hB) (fun e => by have := hb k e; omega)⟩
theorem Own.up {w : World} {base base' : Nat} {v : Value} {xs : List Int} (h : Own w base v xs) (hb : ∀ k, v.ownBlock = some k → base' ≤ k) : Own w base' v xs := by
  refine ⟨h.1, ?_⟩
  rcases h.2 with h' | ⟨g, cap, cur, rfl, hg, r⟩
  · exact .inl h'
  · exact .inr ⟨g, cap, cur, rfl, hb g rfl, r⟩
theorem StB.turned {w w' : World} {g : Nat} {t : TypeId} {cs : Array Value} {bs : List Nat} (h : StB w g t cs) (ht : Turned w w' bs) (hn : g ∉ bs) : StB w' g t cs := (ht.block g h.lt hn).trans h

structure CpB (w : World) (g off : Nat) (t : TypeId) (cs : Array Value) (v : Value) (c : Cp) : Prop where
  st : StB w g t cs
  i0 : cs[off]? = some (.int .i64 c.tr)
  i1 : cs[off + 1]? = some (.bool c.op)
  i2 : cs[off + 2]? = some (.int .i64 c.di)
  i3 : cs[off + 3]? = some (.int .i64 c.wa)
  i4 : cs[off + 4]? = some v
  own : Own w 0 v c.ts
  ne : v.ownBlock ≠ some g
def cpPut (cs : Array Value) (off : Nat) (d w : Int) : Array Value := (cs.setIfInBounds (off + 2) (.int .i64 d)).setIfInBounds (off + 3) (.int .i64 w)
theorem put_same {cs : Array Value} {j : Nat} {x : Value} (h : cs[j]? = some x) : cs.setIfInBounds j x = cs := by
  apply Array.ext_getElem?
  intro i
  rw [Array.getElem?_setIfInBounds]
  split
  · rename_i e; subst e
    have hlt : j < cs.size := by
      rcases Nat.lt_or_ge j cs.size with hlt | hge
      · exact hlt
      · rw [Array.getElem?_eq_none hge] at h; cases h
    simp [hlt] at h ⊢
    exact h.symm
  · rfl
theorem cpPut_same {cs : Array Value} {off : Nat} {d w : Int} (h2 : cs[off + 2]? = some (.int .i64 d)) (h3 : cs[off + 3]? = some (.int .i64 w)) : cpPut cs off d w = cs := by
  unfold cpPut
  rw [put_same h2, put_same h3]
theorem put_at {cs : Array Value} {j : Nat} {x y : Value} (h : cs[j]? = some x) : (cs.setIfInBounds j y)[j]? = some y := by
  have hlt : j < cs.size := by
    rcases Nat.lt_or_ge j cs.size with hlt | hge
    · exact hlt
    · rw [Array.getElem?_eq_none hge] at h; cases h
  simp [hlt]
theorem put_else {cs : Array Value} {i j : Nat} {y : Value} (h : j ≠ i) : (cs.setIfInBounds j y)[i]? = cs[i]? := by
  rw [Array.getElem?_setIfInBounds_ne h]
theorem cpPut_di {cs : Array Value} {off : Nat} {d w : Int} (h3 : cs[off + 3]? = some (.int .i64 w)) : cs.setIfInBounds (off + 2) (.int .i64 d) = cpPut cs off d w := by
  unfold cpPut
  exact (put_same (by rw [put_else (by omega)]; exact h3)).symm
theorem cpPut_wa {cs : Array Value} {off : Nat} {d w : Int} (h2 : cs[off + 2]? = some (.int .i64 d)) : cs.setIfInBounds (off + 3) (.int .i64 w) = cpPut cs off d w := by
  unfold cpPut
  rw [put_same h2]
theorem cpPut_twice {cs : Array Value} {off : Nat} {d w d' w' : Int} : cpPut (cpPut cs off d w) off d' w' = cpPut cs off d' w' := by
  unfold cpPut
  apply Array.ext_getElem?
  intro i
  simp only [Array.getElem?_setIfInBounds, Array.size_setIfInBounds]
  split
  · rfl
  · split
    · rfl
    · rfl
theorem CpB.below {w w' : World} {g off : Nat} {t : TypeId} {cs : Array Value} {v : Value} {c : Cp} (h : CpB w g off t cs v c) (b : Below w.heap.size w w') : CpB w' g off t cs v c :=
  ⟨h.st.below b, h.i0, h.i1, h.i2, h.i3, h.i4, h.own.below b, h.ne⟩
/- A number is put into one of the two sets. -/
theorem CpB.putD {w : World} {g off : Nat} {t : TypeId} {cs : Array Value} {v : Value} {c : Cp} (h : CpB w g off t cs v c) (d : Int) :
    CpB (w.setCell ⟨g, off + 2, none⟩ (.int .i64 d)) g off t (cpPut cs off d c.wa) v { c with di := d } ∧ Turned w (w.setCell ⟨g, off + 2, none⟩ (.int .i64 d)) (g :: v.ownBlock.toList) := by
  have e := cpPut_di (d := d) h.i3
  refine ⟨⟨h.st.put (off + 2) _ e, ?_, ?_, ?_, ?_, ?_, h.own.kept (grownSet w g _ _) (.inr h.ne), h.ne⟩, (Turned.of_grown (grownSet w g _ _)).sub (by simp)⟩
  · rw [← e, put_else (by omega)]; exact h.i0
  · rw [← e, put_else (by omega)]; exact h.i1
  · rw [← e]; exact put_at h.i2
  · rw [← e, put_else (by omega)]; exact h.i3
  · rw [← e, put_else (by omega)]; exact h.i4
theorem CpB.putW {w : World} {g off : Nat} {t : TypeId} {cs : Array Value} {v : Value} {c : Cp} (h : CpB w g off t cs v c) (d : Int) :
    CpB (w.setCell ⟨g, off + 3, none⟩ (.int .i64 d)) g off t (cpPut cs off c.di d) v { c with wa := d } ∧ Turned w (w.setCell ⟨g, off + 3, none⟩ (.int .i64 d)) (g :: v.ownBlock.toList) := by
  have e := cpPut_wa (w := d) h.i2
  refine ⟨⟨h.st.put (off + 3) _ e, ?_, ?_, ?_, ?_, ?_, h.own.kept (grownSet w g _ _) (.inr h.ne), h.ne⟩, (Turned.of_grown (grownSet w g _ _)).sub (by simp)⟩
  · rw [← e, put_else (by omega)]; exact h.i0
  · rw [← e, put_else (by omega)]; exact h.i1
  · rw [← e, put_else (by omega)]; exact h.i2
  · rw [← e]; exact put_at h.i3
  · rw [← e, put_else (by omega)]; exact h.i4
theorem CpB.same {w : World} {g off : Nat} {t : TypeId} {cs : Array Value} {v : Value} {c : Cp} (h : CpB w g off t cs v c) : CpB w g off t (cpPut cs off c.di c.wa) v c := by
  rw [cpPut_same h.i2 h.i3]; exact h
/- The five cells, as the walk reads them. -/
theorem CpB.cell {w : World} {g off : Nat} {t : TypeId} {cs : Array Value} {v : Value} {c : Cp} (h : CpB w g off t cs v c) :
    w.cell? ⟨g, off, none⟩ = some (.int .i64 c.tr) ∧ w.cell? ⟨g, off + 1, none⟩ = some (.bool c.op) ∧ w.cell? ⟨g, off + 2, none⟩ = some (.int .i64 c.di) ∧ w.cell? ⟨g, off + 3, none⟩ = some (.int .i64 c.wa) ∧ w.cell? ⟨g, off + 4, none⟩ = some v :=
  ⟨h.st.cell off h.i0, h.st.cell _ h.i1, h.st.cell _ h.i2, h.st.cell _ h.i3, h.st.cell _ h.i4⟩
end Go.Proofs.YteooloceaoinlaaDoor
/- Copiers by the model, behind a pointer: l13Next, l13Ack, l13Again. -/
namespace Go.Proofs.YteooloceaoinlaaDoor
open Go.ChangeShapes Go.WideShapes Go.ChangeAt Go.RowKit

theorem Turned.drew {w w' : World} {bs : List Nat} (h : Turned w w' bs) : Turned w w'.drew bs := h.then (Turned.below _ (Below.refl _ _).drew)
theorem CpB.drew {w : World} {g off : Nat} {t : TypeId} {cs : Array Value} {v : Value} {c : Cp} (h : CpB w g off t cs v c) : CpB w.drew g off t cs v c := h.below (Below.refl _ _).drew
/- The turn of one that is there: its cell, and what is put there. -/
theorem CpB.turn {w : World} {g off : Nat} {t : TypeId} {cs : Array Value} {v : Value} {c : Cp} (h : CpB w g off t cs v c) (j : Nat) (hj : j < c.ts.length) :
    ∃ q cap, v = .slice (some ⟨q, 0, none⟩) c.ts.length cap ∧ q ≠ g ∧ c.ts.length ≤ cap ∧ cap ≤ maxLen ∧ w.cell? ⟨q, j, none⟩ = some (.int .i64 (c.ts.getD j 0)) ∧ w.frozen? ⟨q, j, none⟩ = false ∧
      ∀ x : Int, CpB (w.setCell ⟨q, j, none⟩ (.int .i64 x)) g off t cs v { c with ts := c.ts.set j x } ∧ Turned w (w.setCell ⟨q, j, none⟩ (.int .i64 x)) (g :: v.ownBlock.toList) := by
  obtain ⟨ao, cap, rfl⟩ := reads_form h.own.reads
  obtain ⟨-, hc1, hc2, hcell⟩ := reads_cells h.own.reads
  obtain ⟨q, rfl⟩ : ∃ q, ao = some ⟨q, 0, none⟩ := by
    rcases h.own.2 with e | ⟨q, cap', cur, e, _⟩
    · have e1 : c.ts.length = 0 := e.2
      omega
    · simp only [Value.slice.injEq] at e
      exact ⟨q, e.1⟩
  obtain ⟨b, o, e, hx⟩ := hcell j hj
  simp only [Option.some.injEq, Addr.mk.injEq] at e
  obtain ⟨rfl, rfl, -⟩ := e
  rw [Nat.zero_add] at hx
  have hne : q ≠ g := fun e => h.ne (by rw [← e]; rfl)
  refine ⟨q, cap, rfl, hne, hc1, hc2, hx, (h.own.put rfl j hj 0).1, fun x => ?_⟩
  have o := (h.own.put rfl j hj x).2.2
  exact ⟨⟨h.st.other _ _ (fun e => hne e.symm), h.i0, h.i1, h.i2, h.i3, h.i4, o, h.ne⟩, (Turned.of_grown (grownSet w q j _)).sub (by simp [Value.ownBlock])⟩
end Go.Proofs.YteooloceaoinlaaDoor
/- Copiers by the model: Marked, Next, Acked, Again, Clean, NewCopier. -/
namespace Go.Proofs.YteooloceaoinlaaDoor
open Go.ChangeShapes Go.WideShapes Go.ChangeAt Go.RowKit

end Go.Proofs.YteooloceaoinlaaDoor
/- A new copier by the model. -/
namespace Go.Proofs.YteooloceaoinlaaDoor
open Go.ChangeShapes Go.WideShapes Go.ChangeAt Go.RowKit

set_option maxRecDepth 20000 in
set_option maxHeartbeats 400000 in
theorem upon_makeI {o : Oper} {a : Act} {w : World} {K : Act → World → Prop} {Q : Exit → Act → World → Prop} (k : Nat) (hk : k ≤ 1000)
    (h : ∀ w', Own w' w.heap.size (.slice (some ⟨w.heap.size, 0, none⟩) k k) (List.replicate k 0) → w.grownBy w' none → Oper.upon Tryd.prog o a K Q (.ok (.value (.slice (some ⟨w.heap.size, 0, none⟩) k k)) w')) :
    Oper.upon Tryd.prog o a K Q (((Instr.makeSlice 22 (.int .i64 (k : Int)) (.int .i64 (k : Int))).run Tryd.prog w).andThen fun v w' => .ok (.value v) w') := by
  obtain ⟨i0, hi, hz0, hz1, hz2⟩ := info_parts Tryd.infoI
  obtain ⟨w', hrun, h1, h2⟩ := run_makeSlice_full (P := Tryd.prog) w w.heap.size 22 2 i0 (.int .i64 0) 1 Tryd.underlying22 hi hz0 hz1 .i64 .i64 k (by omega) (by rw [hz2]; omega) (by unfold maxLen; omega) (Nat.le_refl _)
  rw [hrun]
  refine h w' ?_ h2
  have e := zeros_eq k
  rw [Nat.mul_one] at h1
  rw [show Value.cells (.int .i64 0) = #[.int .i64 0] from rfl, e] at h1
  unfold Own
  simpa using h1
theorem made_own {w w1 w2 : World} {v : Value} {xs : List Int} (HB : Below w.heap.size w w1) (hlt : w.heap.size < w1.heap.size) (o2 : Own w2 w1.drew.heap.size v xs) (g2 : w1.drew.grownBy w2 none) : Own w2 (w.heap.size + 1) v xs ∧ Below w.heap.size w w2 :=
  ⟨o2.mono hlt, HB.grown (show w1.grownBy w2 none from ⟨g2.os, g2.tape, g2.output, g2.size, g2.block⟩) HB.size (fun k e => by cases e)⟩
def putC5 (w : World) (g : Nat) (v : Value) (c : Cp) : World := ((((w.setCell ⟨g, 0, none⟩ (.int .i64 c.tr)).setCell ⟨g, 1, none⟩ (.bool c.op)).setCell ⟨g, 2, none⟩ (.int .i64 c.di)).setCell ⟨g, 3, none⟩ (.int .i64 c.wa)).setCell ⟨g, 4, none⟩ v
theorem putC5_st {w : World} {g : Nat} {t : TypeId} (v : Value) (c : Cp) (h : StB w g t zeroCp) : StB (putC5 w g v c) g t (cpA v c) :=
  ((((h.put 0 _ rfl).put 1 _ rfl).put 2 _ rfl).put 3 _ rfl).put 4 _ rfl
theorem putC5_grown (w : World) (g : Nat) (v : Value) (c : Cp) : w.grownBy (putC5 w g v c) (some g) :=
  ((((grownSet w g 0 _).trans (grownSet _ g 1 _)).trans (grownSet _ g 2 _)).trans (grownSet _ g 3 _)).trans (grownSet _ g 4 _)
end Go.Proofs.YteooloceaoinlaaDoor
/- Regions that draw their order, with calls that make memory, new variables and stores into them, whatever the order: what is needed at each step is found by the world's own shape. -/
namespace Go.Proofs.YteooloceaoinlaaDoor
open Go.ChangeShapes Go.WideShapes Go.ChangeAt Go.RowKit

theorem bel_alloc {w wx : World} {o : Obj} (h : Below w.heap.size w wx) : Below w.heap.size w (wx.alloc o) := h.alloc h.size _
theorem bel_drew {w wx : World} (h : Below w.heap.size w wx) : Below w.heap.size w wx.drew := h.drew
theorem bel_trans {w wx wy : World} (h : Below w.heap.size w wx) (b : Below wx.heap.size wx wy) : Below w.heap.size w wy := h.trans (b.mono h.size)
/- The same as 'Below', under a name of its own: what a region holds. -/
def Sx (w wx : World) : Prop := Below w.heap.size w wx
theorem later_cell {w wx : World} {a : Addr} {v : Value} (h : w.cell? a = some v) (b : Below w.heap.size w wx) : wx.cell? a = some v := by
  rw [b.cell (World.block_lt_of_cell? w _ h)]; exact h
theorem StB.newE (w : World) (t : TypeId) (cs : Array Value) {g : Nat} (h : g = w.heap.size) : StB (w.alloc (.cells cs t)) g t cs := by subst h; exact StB.new w t cs
theorem StB.dr {w : World} {g : Nat} {t : TypeId} {cs : Array Value} (h : StB w g t cs) : StB w.drew g t cs := h
theorem StB.al {w : World} {g : Nat} {t : TypeId} {cs : Array Value} {o : Obj} (h : StB w g t cs) : StB (w.alloc o) g t cs := h.alloc o
theorem StB.bel {w w' : World} {g : Nat} {t : TypeId} {cs : Array Value} (h : StB w g t cs) (b : Below w.heap.size w w') : StB w' g t cs := h.below b
/- One block has one type. -/
theorem StB.typ {w : World} {g k : Nat} {t s : TypeId} {cs ds : Array Value} (h : StB w g t cs) (h' : StB w k s ds) (hne : t ≠ s) : g ≠ k := by
  rintro rfl
  unfold StB at h h'
  rw [h] at h'
  simp at h'
  exact hne h'.2
theorem Own.ne {w : World} {base g : Nat} {v : Value} {xs : List Int} {t : TypeId} {cs : Array Value} (h : Own w base v xs) (h' : StB w g t cs) (hne : t ≠ 2) : v.ownBlock ≠ some g := by
  intro e
  rcases h.2 with ⟨rfl, -⟩ | ⟨k, cap, cur, rfl, -, hg, -⟩
  · cases e
  · simp only [Value.ownBlock, Option.some.injEq] at e
    subst e
    unfold StB at h'
    rw [hg] at h'
    simp at h'
    exact hne h'.2.symm
theorem Own.putBy {w w' : World} {base g : Nat} {v : Value} {xs : List Int} {t : TypeId} {cs : Array Value} (h : Own w base v xs) (h' : StB w g t cs) (hne : t ≠ 2) (b : w.grownBy w' (some g)) : Own w' base v xs :=
  h.kept b (.inr (h.ne h' hne))
theorem bel_put {w wx wy : World} {g : Nat} (h : Below w.heap.size w wx) (b : wx.grownBy wy (some g)) (hg : w.heap.size ≤ g) : Below w.heap.size w wy :=
  h.grown b h.size (fun k e => by cases e; exact hg)
theorem step_putS {t : TypeId} {n : Nat} (hS : IsS t n) {ops : Array Oper} {o : Oper} {a : Act} {w : World} {K : Act → World → Prop} {Q : Exit → Act → World → Prop} {E : Prop} (hgd : o.guard = none) (x y : Operand) (ho : o.op = .store t x y)
    (g : Nat) (cs ds : Array Value) (hx : a.eval x = .pointer (some ⟨g, 0, none⟩)) (hy : a.eval y = .agg cs) (hn : cs.size = n) (hd : ds.size = n) (h1 : cs.all (·.oneCell') = true) (hr : StB w g t ds)
    (h : ∀ w', StB w' g t cs → w.grownBy w' (some g) → K (a.put o.dst undef) w') : if Region.wanted o (yielded ops a.tmps) = true then Oper.wp Tryd.prog o a w K Q else E := by
  have hw : Region.wanted o (yielded ops a.tmps) = true := by simp [Region.wanted, hgd]
  rw [if_pos hw]
  exact wp_store_row t x y ho g cs hx hy _ _ hr (by rw [hS.2, hn]) (by rw [hd, hn]) h1 (h _ (setRow_heap w g _ _ _ _ hr) (grownRowS w g _))
theorem ge_of {w wx wy : World} {g : Nat} (_ : wx.grownBy wy (some g)) (l : w.heap.size ≤ g) : w.heap.size ≤ g := l
theorem StB.keptT {w w' : World} {g k : Nat} {t s : TypeId} {cs ds : Array Value} (h : StB w k s ds) (h' : StB w g t cs) (b : w.grownBy w' (some g)) (ne : t ≠ s) : StB w' k s ds := h.kept b (fun e => StB.typ h' h ne (Option.some.inj e).symm)
/- A whole struct, folded, is stored into a variable: as it comes to the arms of a region that draws. -/
theorem upon_putS {o : Oper} {a : Act} {w : World} {K : Act → World → Prop} {Q : Exit → Act → World → Prop} (g : Nat) (t : TypeId) (cs ds : Array Value) (hd : ds.size = cs.size) (h1 : cs.all (·.oneCell') = true) (hr : StB w g t ds)
    (h : ∀ w', StB w' g t cs → w.grownBy w' (some g) → Oper.upon Tryd.prog o a K Q (.ok .skip w')) :
    Oper.upon Tryd.prog o a K Q (((storeCells ⟨g, 0, none⟩ cs.toList).run Tryd.prog w).andThen fun _ w' => .ok .skip w') := by
  have e := run_storeCells_from (P := Tryd.prog) g t cs.toList 0 ds w hr (by simp; omega) (fun v hv => (Array.all_eq_true_iff_forall_mem.1 h1) v (by simpa using hv))
  rw [e]
  simp only [List.take_zero, List.nil_append, Array.toArray_toList, Result.andThen_ok]
  exact h _ (setRow_heap w g _ _ _ _ hr) (grownRowS w g _)
def dkA (u v : Value) : Array Value := #[u, v]
end Go.Proofs.YteooloceaoinlaaDoor
