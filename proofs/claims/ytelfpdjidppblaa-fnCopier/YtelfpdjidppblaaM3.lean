/- Regions that draw their order, with calls that make memory, new variables and stores into them, whatever the order: what is needed at each step is found by the world's own shape. -/
import Derived.Test.YtelfpdjidppblaaStB
import Derived.Deep.RegionHeld3
import Derived.Test.YtelfpdjidppblaaGiv
namespace Go.Proofs.Ytelfpdjidppblaa
open Go.ChangeShapes Go.WideShapes Go.ChangeAt Go.RowKit

theorem bel_alloc {w wx : World} {o : Obj} (h : Below w.heap.size w wx) : Below w.heap.size w (wx.alloc o) := h.alloc h.size _
theorem bel_drew {w wx : World} (h : Below w.heap.size w wx) : Below w.heap.size w wx.drew := h.drew
theorem bel_trans {w wx wy : World} (h : Below w.heap.size w wx) (b : Below wx.heap.size wx wy) : Below w.heap.size w wy := h.trans (b.mono h.size)
/- The same as 'Below', under a name of its own: what a region holds. -/
def Sx (w wx : World) : Prop := Below w.heap.size w wx
theorem later_cell {w wx : World} {a : Addr} {v : Value} (h : w.cell? a = some v) (b : Below w.heap.size w wx) : wx.cell? a = some v := by
  rw [b.cell (World.block_lt_of_cell? w _ h)]; exact h
theorem StB.newE (w : World) (t : TypeId) (cs : Array Value) {g : Nat} (h : g = w.heap.size) : StB (w.alloc (.cells cs t)) g t cs := by subst h; exact StB.new w t cs
theorem StB.dr {w : World} {g : Nat} {t : TypeId} {cs : Array Value} (h : StB w g t cs) : StB w.drew g t cs := h
theorem StB.al {w : World} {g : Nat} {t : TypeId} {cs : Array Value} {o : Obj} (h : StB w g t cs) : StB (w.alloc o) g t cs := h.alloc o
theorem StB.bel {w w' : World} {g : Nat} {t : TypeId} {cs : Array Value} (h : StB w g t cs) (b : Below w.heap.size w w') : StB w' g t cs := h.below b
/- One block has one type. -/
theorem StB.typ {w : World} {g k : Nat} {t s : TypeId} {cs ds : Array Value} (h : StB w g t cs) (h' : StB w k s ds) (hne : t ≠ s) : g ≠ k := by
  rintro rfl
  unfold StB at h h'
  rw [h] at h'
  simp at h'
  exact hne h'.2
theorem Own.ne {w : World} {base g : Nat} {v : Value} {xs : List Int} {t : TypeId} {cs : Array Value} (h : Own w base v xs) (h' : StB w g t cs) (hne : t ≠ 2) : v.ownBlock ≠ some g := by
  intro e
  rcases h.2 with ⟨rfl, -⟩ | ⟨k, cap, cur, rfl, -, hg, -⟩
  · cases e
  · simp only [Value.ownBlock, Option.some.injEq] at e
    subst e
    unfold StB at h'
    rw [hg] at h'
    simp at h'
    exact hne h'.2.symm
theorem Own.putBy {w w' : World} {base g : Nat} {v : Value} {xs : List Int} {t : TypeId} {cs : Array Value} (h : Own w base v xs) (h' : StB w g t cs) (hne : t ≠ 2) (b : w.grownBy w' (some g)) : Own w' base v xs :=
  h.kept b (.inr (h.ne h' hne))
theorem bel_put {w wx wy : World} {g : Nat} (h : Below w.heap.size w wx) (b : wx.grownBy wy (some g)) (hg : w.heap.size ≤ g) : Below w.heap.size w wy :=
  h.grown b h.size (fun k e => by cases e; exact hg)
theorem step_putS {t : TypeId} {n : Nat} (hS : IsS t n) {ops : Array Oper} {o : Oper} {a : Act} {w : World} {K : Act → World → Prop} {Q : Exit → Act → World → Prop} {E : Prop} (hgd : o.guard = none) (x y : Operand) (ho : o.op = .store t x y)
    (g : Nat) (cs ds : Array Value) (hx : a.eval x = .pointer (some ⟨g, 0, none⟩)) (hy : a.eval y = .agg cs) (hn : cs.size = n) (hd : ds.size = n) (h1 : cs.all (·.oneCell') = true) (hr : StB w g t ds)
    (h : ∀ w', StB w' g t cs → w.grownBy w' (some g) → K (a.put o.dst undef) w') : if Region.wanted o (yielded ops a.tmps) = true then Oper.wp Try.prog o a w K Q else E := by
  have hw : Region.wanted o (yielded ops a.tmps) = true := by simp [Region.wanted, hgd]
  rw [if_pos hw]
  exact wp_store_row t x y ho g cs hx hy _ _ hr (by rw [hS.2, hn]) (by rw [hd, hn]) h1 (h _ (setRow_heap w g _ _ _ _ hr) (grownRowS w g _))
theorem ge_of {w wx wy : World} {g : Nat} (_ : wx.grownBy wy (some g)) (l : w.heap.size ≤ g) : w.heap.size ≤ g := l
theorem StB.keptT {w w' : World} {g k : Nat} {t s : TypeId} {cs ds : Array Value} (h : StB w k s ds) (h' : StB w g t cs) (b : w.grownBy w' (some g)) (ne : t ≠ s) : StB w' k s ds := h.kept b (fun e => StB.typ h' h ne (Option.some.inj e).symm)
/- A whole struct, folded, is stored into a variable: as it comes to the arms of a region that draws. -/
theorem upon_putS {o : Oper} {a : Act} {w : World} {K : Act → World → Prop} {Q : Exit → Act → World → Prop} (g : Nat) (t : TypeId) (cs ds : Array Value) (hd : ds.size = cs.size) (h1 : cs.all (·.oneCell') = true) (hr : StB w g t ds)
    (h : ∀ w', StB w' g t cs → w.grownBy w' (some g) → Oper.upon Try.prog o a K Q (.ok .skip w')) :
    Oper.upon Try.prog o a K Q (((storeCells ⟨g, 0, none⟩ cs.toList).run Try.prog w).andThen fun _ w' => .ok .skip w') := by
  have e := run_storeCells_from (P := Try.prog) g t cs.toList 0 ds w hr (by simp; omega) (fun v hv => (Array.all_eq_true_iff_forall_mem.1 h1) v (by simpa using hv))
  rw [e]
  simp only [List.take_zero, List.nil_append, Array.toArray_toList, Result.andThen_ok]
  exact h _ (setRow_heap w g _ _ _ _ hr) (grownRowS w g _)
def dkA (u v : Value) : Array Value := #[u, v]
end Go.Proofs.Ytelfpdjidppblaa
/- Numbers and truths that a call answers in a region that draws its order. -/
namespace Go.Proofs.Ytelfpdjidppblaa
open Go.ChangeShapes Go.WideShapes Go.ChangeAt Go.RowKit

/- A number is answered, and the world is as it was. -/
def numG (n : Int) : GSpec := ⟨fun u => u = .int .i64 n, fun _ _ => True⟩
theorem numG_later {n : Int} {u : Value} {x y : World} (hx : (numG n).F u x) (_ : Later x y) : (numG n).F u y := hx
theorem num_of {P : Program} {f : FuncId} {args : Array Value} {w : World} {n : Int} (h : Calls P f args w fun e w' => e = .returned (.int .i64 n) ∧ w' = w) : Calls P f args w (fun e w'' => ∃ u, e = .returned u ∧ (numG n).V u ∧ (numG n).F u w'' ∧ Later w w'') :=
  h.mono fun _ _ ⟨he, hb⟩ => ⟨_, he, rfl, trivial, by rw [hb]; exact Below.refl _ _⟩
theorem truthC_later {b : Bool} {u : Value} {x y : World} (hx : (truth b).F u x) (_ : Later x y) : (truth b).F u y := hx
theorem truthS_of {P : Program} {f : FuncId} {args : Array Value} {w : World} {b : Bool} (h : Calls P f args w fun e w' => e = .returned (.bool b) ∧ w' = w) : Calls P f args w (fun e w'' => ∃ u, e = .returned u ∧ (truth b).V u ∧ (truth b).F u w'' ∧ Later w w'') :=
  h.mono fun _ _ ⟨he, hb⟩ => ⟨_, he, rfl, trivial, by rw [hb]; exact Below.refl _ _⟩
/- A value is moved. -/
theorem giv_move {P : Program} {ops : Array Oper} {C : World → Prop} {E : Oper → Act → Option GSpec} {R : World → World → Prop} {Q : Act → Known → Prop} {o : Oper} {rest : List Oper} {a : Act} {G : Known} (hs : E o a = none) (hw : Region.wanted o (yielded ops a.tmps) = true) (x : Operand) (ho : o.op = .move x) (v : Value) (hv : a.eval x = v)
    (k : wpGiv P ops C E R Q rest (a.put o.dst v) G) : wpGiv P ops C E R Q (o :: rest) a G := by
  refine giv_plain hs (fun K hK => ?_)
  rw [if_pos hw]
  refine ⟨v, fun w _ => ?_, hK _ k⟩
  unfold Oper.quietAt execOp
  simp [ho, hv, Oper.quietUpon]
end Go.Proofs.Ytelfpdjidppblaa
