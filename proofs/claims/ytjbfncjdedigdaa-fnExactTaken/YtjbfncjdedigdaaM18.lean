/- Regions that draw their order, with calls that make memory, new variables and stores into them, whatever the order: what is needed at each step is found by the world's own shape. -/
import Derived.Test.YtjbfncjdedigdaaM6
import Derived.Deep.RegionHeld3
import Derived.Test.YtjbfncjdedigdaaSta
import Derived.Test.YtjbfncjdedigdaaM5
import Derived.Test.YtjbfncjdedigdaaM17
import Derived.Test.YtjbfncjdedigdaaSHold
namespace Go.Proofs.Ytjbfncjdedigdaa
open Go.ChangeShapes Go.WideShapes Go.ChangeAt Go.RowKit

theorem bel_alloc {w wx : World} {o : Obj} (h : Below w.heap.size w wx) : Below w.heap.size w (wx.alloc o) := h.alloc h.size _
theorem bel_drew {w wx : World} (h : Below w.heap.size w wx) : Below w.heap.size w wx.drew := h.drew
theorem bel_trans {w wx wy : World} (h : Below w.heap.size w wx) (b : Below wx.heap.size wx wy) : Below w.heap.size w wy := h.trans (b.mono h.size)
/- The same as 'Below', under a name of its own: what a region holds. -/
def Sx (w wx : World) : Prop := Below w.heap.size w wx
theorem later_cell {w wx : World} {a : Addr} {v : Value} (h : w.cell? a = some v) (b : Below w.heap.size w wx) : wx.cell? a = some v := by
  rw [b.cell (World.block_lt_of_cell? w _ h)]; exact h
theorem StB.newE (w : World) (t : TypeId) (cs : Array Value) {g : Nat} (h : g = w.heap.size) : StB (w.alloc (.cells cs t)) g t cs := by subst h; exact StB.new w t cs
theorem StB.dr {w : World} {g : Nat} {t : TypeId} {cs : Array Value} (h : StB w g t cs) : StB w.drew g t cs := h
theorem StB.al {w : World} {g : Nat} {t : TypeId} {cs : Array Value} {o : Obj} (h : StB w g t cs) : StB (w.alloc o) g t cs := h.alloc o
theorem StB.bel {w w' : World} {g : Nat} {t : TypeId} {cs : Array Value} (h : StB w g t cs) (b : Below w.heap.size w w') : StB w' g t cs := h.below b
/- One block has one type. -/
theorem StB.typ {w : World} {g k : Nat} {t s : TypeId} {cs ds : Array Value} (h : StB w g t cs) (h' : StB w k s ds) (hne : t ≠ s) : g ≠ k := by
  rintro rfl
  unfold StB at h h'
  rw [h] at h'
  simp at h'
  exact hne h'.2
theorem Own.ne {w : World} {base g : Nat} {v : Value} {xs : List Int} {t : TypeId} {cs : Array Value} (h : Own w base v xs) (h' : StB w g t cs) (hne : t ≠ 2) : v.ownBlock ≠ some g := by
  intro e
  rcases h.2 with ⟨rfl, -⟩ | ⟨k, cap, cur, rfl, -, hg, -⟩
  · cases e
  · simp only [Value.ownBlock, Option.some.injEq] at e
    subst e
    unfold StB at h'
    rw [hg] at h'
    simp at h'
    exact hne h'.2.symm
theorem Own.putBy {w w' : World} {base g : Nat} {v : Value} {xs : List Int} {t : TypeId} {cs : Array Value} (h : Own w base v xs) (h' : StB w g t cs) (hne : t ≠ 2) (b : w.grownBy w' (some g)) : Own w' base v xs :=
  h.kept b (.inr (h.ne h' hne))
theorem bel_put {w wx wy : World} {g : Nat} (h : Below w.heap.size w wx) (b : wx.grownBy wy (some g)) (hg : w.heap.size ≤ g) : Below w.heap.size w wy :=
  h.grown b h.size (fun k e => by cases e; exact hg)
theorem step_putS {t : TypeId} {n : Nat} (hS : IsS t n) {ops : Array Oper} {o : Oper} {a : Act} {w : World} {K : Act → World → Prop} {Q : Exit → Act → World → Prop} {E : Prop} (hgd : o.guard = none) (x y : Operand) (ho : o.op = .store t x y)
    (g : Nat) (cs ds : Array Value) (hx : a.eval x = .pointer (some ⟨g, 0, none⟩)) (hy : a.eval y = .agg cs) (hn : cs.size = n) (hd : ds.size = n) (h1 : cs.all (·.oneCell') = true) (hr : StB w g t ds)
    (h : ∀ w', StB w' g t cs → w.grownBy w' (some g) → K (a.put o.dst undef) w') : if Region.wanted o (yielded ops a.tmps) = true then Oper.wp Try.prog o a w K Q else E := by
  have hw : Region.wanted o (yielded ops a.tmps) = true := by simp [Region.wanted, hgd]
  rw [if_pos hw]
  exact wp_store_row t x y ho g cs hx hy _ _ hr (by rw [hS.2, hn]) (by rw [hd, hn]) h1 (h _ (setRow_heap w g _ _ _ _ hr) (grownRowS w g _))
theorem ge_of {w wx wy : World} {g : Nat} (_ : wx.grownBy wy (some g)) (l : w.heap.size ≤ g) : w.heap.size ≤ g := l
theorem StB.keptT {w w' : World} {g k : Nat} {t s : TypeId} {cs ds : Array Value} (h : StB w k s ds) (h' : StB w g t cs) (b : w.grownBy w' (some g)) (ne : t ≠ s) : StB w' k s ds := h.kept b (fun e => StB.typ h' h ne (Option.some.inj e).symm)
/- A whole struct, folded, is stored into a variable: as it comes to the arms of a region that draws. -/
theorem upon_putS {o : Oper} {a : Act} {w : World} {K : Act → World → Prop} {Q : Exit → Act → World → Prop} (g : Nat) (t : TypeId) (cs ds : Array Value) (hd : ds.size = cs.size) (h1 : cs.all (·.oneCell') = true) (hr : StB w g t ds)
    (h : ∀ w', StB w' g t cs → w.grownBy w' (some g) → Oper.upon Try.prog o a K Q (.ok .skip w')) :
    Oper.upon Try.prog o a K Q (((storeCells ⟨g, 0, none⟩ cs.toList).run Try.prog w).andThen fun _ w' => .ok .skip w') := by
  have e := run_storeCells_from (P := Try.prog) g t cs.toList 0 ds w hr (by simp; omega) (fun v hv => (Array.all_eq_true_iff_forall_mem.1 h1) v (by simpa using hv))
  rw [e]
  simp only [List.take_zero, List.nil_append, Array.toArray_toList, Result.andThen_ok]
  exact h _ (setRow_heap w g _ _ _ _ hr) (grownRowS w g _)
def dkA (u v : Value) : Array Value := #[u, v]
end Go.Proofs.Ytjbfncjdedigdaa
/- A list of the call's own, or an empty one wherever it points to: what is answered where nothing was copied. -/
namespace Go.Proofs.Ytjbfncjdedigdaa
open Go.ChangeShapes Go.WideShapes Go.ChangeAt Go.RowKit

def Mine (w : World) (base : Nat) (v : Value) (xs : List Int) : Prop := Own w base v xs ∨ (xs = [] ∧ ∃ ao cap, v = .slice ao 0 cap ∧ cap ≤ maxLen ∧ (ao = none → cap = 0))
theorem Own.mine {w : World} {base : Nat} {v : Value} {xs : List Int} (h : Own w base v xs) : Mine w base v xs := .inl h
theorem Mine.reads {w : World} {base : Nat} {v : Value} {xs : List Int} (h : Mine w base v xs) : Reads w v xs := by
  rcases h with h | ⟨rfl, ao, cap, rfl, h1, h2⟩
  · exact h.reads
  · exact ⟨ao, cap, rfl, Nat.zero_le _, ⟨h1, h2⟩, .inl rfl⟩
theorem Reads.mine {w : World} {base : Nat} {v : Value} (h : Reads w v []) : Mine w base v [] := by
  obtain ⟨ao, cap, rfl, -, ⟨h1, h2⟩, -⟩ := h
  exact .inr ⟨rfl, ao, cap, rfl, h1, h2⟩
theorem Mine.mono {w : World} {base base' : Nat} {v : Value} {xs : List Int} (h : Mine w base v xs) (hb : base' ≤ base) : Mine w base' v xs := h.imp (fun h => h.mono hb) id
theorem Mine.below {w w' : World} {base : Nat} {v : Value} {xs : List Int} (h : Mine w base v xs) (b : Below w.heap.size w w') : Mine w' base v xs := h.imp (fun h => h.below b) id
theorem Mine.keptLt {w w' : World} {base g : Nat} {v : Value} {xs : List Int} (h : Mine w base v xs) (hg : w.grownBy w' (some g)) (hb : g < base) : Mine w' base v xs := h.imp (fun h => h.keptLt hg hb) id
theorem Mine.setLt {w : World} {base g : Nat} {v : Value} {xs : List Int} (h : Mine w base v xs) (hb : g < base) (j : Nat) (x : Value) : Mine (w.setCell ⟨g, j, none⟩ x) base v xs := h.imp (fun h => h.setLt hb j x) id
theorem Mine.putBy {w w' : World} {base g : Nat} {v : Value} {xs : List Int} {t : TypeId} {cs : Array Value} (h : Mine w base v xs) (h' : StB w g t cs) (hne : t ≠ 2) (b : w.grownBy w' (some g)) : Mine w' base v xs := h.imp (fun h => h.putBy h' hne b) id
theorem Mine.set {w : World} {base g j : Nat} {v : Value} {xs : List Int} {t : TypeId} {cs : Array Value} (h : Mine w base v xs) (h' : StB w g t cs) (hne : t ≠ 2) (x : Value) : Mine (w.setCell ⟨g, j, none⟩ x) base v xs := h.putBy h' hne (grownSet w g j x)
theorem Mine.drew {w w' : World} {base n : Nat} {v : Value} {xs : List Int} (h : Mine w base v xs) (e : w' = w.drewN n) : Mine w' base v xs := h.imp (fun h => h.drew_eq e) id
theorem Mine.own {w : World} {base : Nat} {v : Value} {xs : List Int} (h : Mine w base v xs) (hx : xs ≠ []) : Own w base v xs := h.resolve_right (fun h => hx h.1)
/- What is left of new memory where all that lies below is as it was. -/
theorem Mine.lower {w w' : World} {base B : Nat} {v : Value} {xs : List Int} (h : Mine w base v xs) (b : Below B w w') (hB : ∀ k, v.ownBlock = some k → k < w.heap.size → k < B) : Mine w' base v xs := by
  refine h.imp (fun h => Own.frame h (fun k hk => ?_)) id
  simp at hk
  exact b.block k (hB k hk (h.lt k hk).2)

theorem Reads.later {w w' : World} {v : Value} (h : Reads w v []) : Reads w' v [] := by
  obtain ⟨ao, cap, rfl, h0, h1, -⟩ := h
  exact ⟨ao, cap, rfl, h0, h1, .inl rfl⟩
/- In the state of a long walk. -/
def mineOf (v : Value) (xs : List Int) : List Nat := if xs.length = 0 then [] else v.ownBlock.toList
theorem Mine.frame {w w' : World} {base : Nat} {v : Value} {xs : List Int} (h : Mine w base v xs) (e : ∀ b ∈ mineOf v xs, w'.heap[b]? = w.heap[b]?) : Mine w' base v xs := by
  rcases h with h | h
  · by_cases hx : xs.length = 0
    · have e0 : xs = [] := List.eq_nil_of_length_eq_zero hx
      subst e0
      exact Reads.mine (h.reads.later)
    · unfold mineOf at e
      rw [if_neg hx] at e
      exact .inl (Own.frame h e)
  · exact .inr h
def LstM (v : Value) (xs : List Int) : Item := ⟨mineOf v xs, 0, fun w => Mine w 0 v xs, fun _ _ e _ h => Mine.frame h e⟩
theorem Sta.listM {w wx wy : World} {L : List Item} {v : Value} {xs : List Int} (h : Sta w wx L) (o : Mine wy wx.heap.size v xs) (b : Below wx.heap.size wx wy) : Sta w wy (LstM v xs :: L) := by
  refine h.add b (LstM v xs) (o.mono (Nat.zero_le _)) (fun k hk => ?_)
  have hk' : k ∈ mineOf v xs := hk
  unfold mineOf at hk'
  split at hk'
  · simp at hk'
  · rename_i hx
    exact (o.own (fun e => hx (by rw [e]; rfl))).lt k (by simpa using hk')
theorem Sta.readsM {w wx : World} {L : List Item} {v : Value} {xs : List Int} (h : Sta w wx L) (n : Nat) (e : L[n]? = some (LstM v xs)) : Reads wx v xs := (h.get n e).reads
theorem Sta.markM {w wx wy : World} {L : List Item} {v : Value} {xs ys : List Int} (h : Sta w wx L) (n : Nat) (e : L[n]? = some (LstM v xs)) (hl : ys.length = xs.length) (o : Mine wy 0 v ys) (m : Turned wx wy (mineOf v xs)) : Sta w wy (L.set n (LstM v ys)) :=
  h.turn n e m (LstM v ys) (by show mineOf v ys = mineOf v xs; unfold mineOf; rw [hl]) o
end Go.Proofs.Ytjbfncjdedigdaa
/- Copiers by the model: l13Copy, l13Has, and the hands on one that lies behind a pointer: l13Mark, l13Next, l13Ack, l13Again. -/
namespace Go.Proofs.Ytjbfncjdedigdaa
open Go.ChangeShapes Go.WideShapes Go.ChangeAt Go.RowKit
end Go.Proofs.Ytjbfncjdedigdaa
/- Holdings by the model, on: l8Registered, Registered, l8Holds, Holds, l8May, May. -/
namespace Go.Proofs.Ytjbfncjdedigdaa
open Go.ChangeShapes Go.WideShapes Go.ChangeAt Go.RowKit
end Go.Proofs.Ytjbfncjdedigdaa
