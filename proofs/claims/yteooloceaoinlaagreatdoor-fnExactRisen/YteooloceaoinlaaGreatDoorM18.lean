/- Regions that draw their order, with calls that make memory, new variables and stores into them, whatever the order: what is needed at each step is found by the world's own shape. -/
import Derived.Test.YteooloceaoinlaaGreatDoorM6
import Derived.Deep.RegionHeld3
import Derived.Test.YteooloceaoinlaaGreatDoorM14
import Derived.Test.YteooloceaoinlaaGreatDoorM5
import Derived.Test.YteooloceaoinlaaGreatDoorSNode2
import Derived.Test.YteooloceaoinlaaGreatDoorM17
import Derived.Test.YteooloceaoinlaaGreatDoorM8
namespace Go.Proofs.YteooloceaoinlaaGreatDoor
open Go.ChangeShapes Go.WideShapes Go.ChangeAt Go.RowKit

theorem bel_alloc {w wx : World} {o : Obj} (h : Below w.heap.size w wx) : Below w.heap.size w (wx.alloc o) := h.alloc h.size _
theorem bel_drew {w wx : World} (h : Below w.heap.size w wx) : Below w.heap.size w wx.drew := h.drew
theorem bel_trans {w wx wy : World} (h : Below w.heap.size w wx) (b : Below wx.heap.size wx wy) : Below w.heap.size w wy := h.trans (b.mono h.size)
/- The same as 'Below', under a name of its own: what a region holds. -/
def Sx (w wx : World) : Prop := Below w.heap.size w wx
theorem later_cell {w wx : World} {a : Addr} {v : Value} (h : w.cell? a = some v) (b : Below w.heap.size w wx) : wx.cell? a = some v := by
  rw [b.cell (World.block_lt_of_cell? w _ h)]; exact h
theorem StB.newE (w : World) (t : TypeId) (cs : Array Value) {g : Nat} (h : g = w.heap.size) : StB (w.alloc (.cells cs t)) g t cs := by subst h; exact StB.new w t cs
theorem StB.dr {w : World} {g : Nat} {t : TypeId} {cs : Array Value} (h : StB w g t cs) : StB w.drew g t cs := h
theorem StB.al {w : World} {g : Nat} {t : TypeId} {cs : Array Value} {o : Obj} (h : StB w g t cs) : StB (w.alloc o) g t cs := h.alloc o
theorem StB.bel {w w' : World} {g : Nat} {t : TypeId} {cs : Array Value} (h : StB w g t cs) (b : Below w.heap.size w w') : StB w' g t cs := h.below b
/- One block has one type. -/
theorem StB.typ {w : World} {g k : Nat} {t s : TypeId} {cs ds : Array Value} (h : StB w g t cs) (h' : StB w k s ds) (hne : t ≠ s) : g ≠ k := by
  rintro rfl
  unfold StB at h h'
  rw [h] at h'
  simp at h'
  exact hne h'.2
theorem Own.ne {w : World} {base g : Nat} {v : Value} {xs : List Int} {t : TypeId} {cs : Array Value} (h : Own w base v xs) (h' : StB w g t cs) (hne : t ≠ 2) : v.ownBlock ≠ some g := by
  intro e
  rcases h.2 with ⟨rfl, -⟩ | ⟨k, cap, cur, rfl, -, hg, -⟩
  · cases e
  · simp only [Value.ownBlock, Option.some.injEq] at e
    subst e
    unfold StB at h'
    rw [hg] at h'
    simp at h'
    exact hne h'.2.symm
theorem Own.putBy {w w' : World} {base g : Nat} {v : Value} {xs : List Int} {t : TypeId} {cs : Array Value} (h : Own w base v xs) (h' : StB w g t cs) (hne : t ≠ 2) (b : w.grownBy w' (some g)) : Own w' base v xs :=
  h.kept b (.inr (h.ne h' hne))
theorem bel_put {w wx wy : World} {g : Nat} (h : Below w.heap.size w wx) (b : wx.grownBy wy (some g)) (hg : w.heap.size ≤ g) : Below w.heap.size w wy :=
  h.grown b h.size (fun k e => by cases e; exact hg)
theorem step_putS {t : TypeId} {n : Nat} (hS : IsS t n) {ops : Array Oper} {o : Oper} {a : Act} {w : World} {K : Act → World → Prop} {Q : Exit → Act → World → Prop} {E : Prop} (hgd : o.guard = none) (x y : Operand) (ho : o.op = .store t x y)
    (g : Nat) (cs ds : Array Value) (hx : a.eval x = .pointer (some ⟨g, 0, none⟩)) (hy : a.eval y = .agg cs) (hn : cs.size = n) (hd : ds.size = n) (h1 : cs.all (·.oneCell') = true) (hr : StB w g t ds)
    (h : ∀ w', StB w' g t cs → w.grownBy w' (some g) → K (a.put o.dst undef) w') : if Region.wanted o (yielded ops a.tmps) = true then Oper.wp Tryz.prog o a w K Q else E := by
  have hw : Region.wanted o (yielded ops a.tmps) = true := by simp [Region.wanted, hgd]
  rw [if_pos hw]
  exact wp_store_row t x y ho g cs hx hy _ _ hr (by rw [hS.2, hn]) (by rw [hd, hn]) h1 (h _ (setRow_heap w g _ _ _ _ hr) (grownRowS w g _))
theorem ge_of {w wx wy : World} {g : Nat} (_ : wx.grownBy wy (some g)) (l : w.heap.size ≤ g) : w.heap.size ≤ g := l
theorem StB.keptT {w w' : World} {g k : Nat} {t s : TypeId} {cs ds : Array Value} (h : StB w k s ds) (h' : StB w g t cs) (b : w.grownBy w' (some g)) (ne : t ≠ s) : StB w' k s ds := h.kept b (fun e => StB.typ h' h ne (Option.some.inj e).symm)
/- A whole struct, folded, is stored into a variable: as it comes to the arms of a region that draws. -/
theorem upon_putS {o : Oper} {a : Act} {w : World} {K : Act → World → Prop} {Q : Exit → Act → World → Prop} (g : Nat) (t : TypeId) (cs ds : Array Value) (hd : ds.size = cs.size) (h1 : cs.all (·.oneCell') = true) (hr : StB w g t ds)
    (h : ∀ w', StB w' g t cs → w.grownBy w' (some g) → Oper.upon Tryz.prog o a K Q (.ok .skip w')) :
    Oper.upon Tryz.prog o a K Q (((storeCells ⟨g, 0, none⟩ cs.toList).run Tryz.prog w).andThen fun _ w' => .ok .skip w') := by
  have e := run_storeCells_from (P := Tryz.prog) g t cs.toList 0 ds w hr (by simp; omega) (fun v hv => (Array.all_eq_true_iff_forall_mem.1 h1) v (by simpa using hv))
  rw [e]
  simp only [List.take_zero, List.nil_append, Array.toArray_toList, Result.andThen_ok]
  exact h _ (setRow_heap w g _ _ _ _ hr) (grownRowS w g _)
def dkA (u v : Value) : Array Value := #[u, v]
end Go.Proofs.YteooloceaoinlaaGreatDoor
/- A list of the call's own, or an empty one wherever it points to: what is answered where nothing was copied. -/
namespace Go.Proofs.YteooloceaoinlaaGreatDoor
open Go.ChangeShapes Go.WideShapes Go.ChangeAt Go.RowKit

def Mine (w : World) (base : Nat) (v : Value) (xs : List Int) : Prop := Own w base v xs ∨ (xs = [] ∧ ∃ ao cap, v = .slice ao 0 cap ∧ cap ≤ maxLen ∧ (ao = none → cap = 0))
theorem Own.mine {w : World} {base : Nat} {v : Value} {xs : List Int} (h : Own w base v xs) : Mine w base v xs := .inl h
theorem Mine.reads {w : World} {base : Nat} {v : Value} {xs : List Int} (h : Mine w base v xs) : Reads w v xs := by
  rcases h with h | ⟨rfl, ao, cap, rfl, h1, h2⟩
  · exact h.reads
  · exact ⟨ao, cap, rfl, Nat.zero_le _, ⟨h1, h2⟩, .inl rfl⟩
theorem Reads.mine {w : World} {base : Nat} {v : Value} (h : Reads w v []) : Mine w base v [] := by
  obtain ⟨ao, cap, rfl, -, ⟨h1, h2⟩, -⟩ := h
  exact .inr ⟨rfl, ao, cap, rfl, h1, h2⟩
theorem Mine.mono {w : World} {base base' : Nat} {v : Value} {xs : List Int} (h : Mine w base v xs) (hb : base' ≤ base) : Mine w base' v xs := h.imp (fun h => h.mono hb) id
theorem Mine.below {w w' : World} {base : Nat} {v : Value} {xs : List Int} (h : Mine w base v xs) (b : Below w.heap.size w w') : Mine w' base v xs := h.imp (fun h => h.below b) id
theorem Mine.keptLt {w w' : World} {base g : Nat} {v : Value} {xs : List Int} (h : Mine w base v xs) (hg : w.grownBy w' (some g)) (hb : g < base) : Mine w' base v xs := h.imp (fun h => h.keptLt hg hb) id
theorem Mine.setLt {w : World} {base g : Nat} {v : Value} {xs : List Int} (h : Mine w base v xs) (hb : g < base) (j : Nat) (x : Value) : Mine (w.setCell ⟨g, j, none⟩ x) base v xs := h.imp (fun h => h.setLt hb j x) id
theorem Mine.putBy {w w' : World} {base g : Nat} {v : Value} {xs : List Int} {t : TypeId} {cs : Array Value} (h : Mine w base v xs) (h' : StB w g t cs) (hne : t ≠ 2) (b : w.grownBy w' (some g)) : Mine w' base v xs := h.imp (fun h => h.putBy h' hne b) id
theorem Mine.set {w : World} {base g j : Nat} {v : Value} {xs : List Int} {t : TypeId} {cs : Array Value} (h : Mine w base v xs) (h' : StB w g t cs) (hne : t ≠ 2) (x : Value) : Mine (w.setCell ⟨g, j, none⟩ x) base v xs := h.putBy h' hne (grownSet w g j x)
theorem Mine.drew {w w' : World} {base n : Nat} {v : Value} {xs : List Int} (h : Mine w base v xs) (e : w' = w.drewN n) : Mine w' base v xs := h.imp (fun h => h.drew_eq e) id
theorem Mine.own {w : World} {base : Nat} {v : Value} {xs : List Int} (h : Mine w base v xs) (hx : xs ≠ []) : Own w base v xs := h.resolve_right (fun h => hx h.1)
/- What is left of new memory where all that lies below is as it was. -/
theorem Mine.lower {w w' : World} {base B : Nat} {v : Value} {xs : List Int} (h : Mine w base v xs) (b : Below B w w') (hB : ∀ k, v.ownBlock = some k → k < w.heap.size → k < B) : Mine w' base v xs := by
  refine h.imp (fun h => Own.frame h (fun k hk => ?_)) id
  simp at hk
  exact b.block k (hB k hk (h.lt k hk).2)

theorem Reads.later {w w' : World} {v : Value} (h : Reads w v []) : Reads w' v [] := by
  obtain ⟨ao, cap, rfl, h0, h1, -⟩ := h
  exact ⟨ao, cap, rfl, h0, h1, .inl rfl⟩
/- In the state of a long walk. -/
def mineOf (v : Value) (xs : List Int) : List Nat := if xs.length = 0 then [] else v.ownBlock.toList
theorem Mine.frame {w w' : World} {base : Nat} {v : Value} {xs : List Int} (h : Mine w base v xs) (e : ∀ b ∈ mineOf v xs, w'.heap[b]? = w.heap[b]?) : Mine w' base v xs := by
  rcases h with h | h
  · by_cases hx : xs.length = 0
    · have e0 : xs = [] := List.eq_nil_of_length_eq_zero hx
      subst e0
      exact Reads.mine (h.reads.later)
    · unfold mineOf at e
      rw [if_neg hx] at e
      exact .inl (Own.frame h e)
  · exact .inr h
def LstM (v : Value) (xs : List Int) : Item := ⟨mineOf v xs, 0, fun w => Mine w 0 v xs, fun _ _ e _ h => Mine.frame h e⟩
theorem Sta.listM {w wx wy : World} {L : List Item} {v : Value} {xs : List Int} (h : Sta w wx L) (o : Mine wy wx.heap.size v xs) (b : Below wx.heap.size wx wy) : Sta w wy (LstM v xs :: L) := by
  refine h.add b (LstM v xs) (o.mono (Nat.zero_le _)) (fun k hk => ?_)
  have hk' : k ∈ mineOf v xs := hk
  unfold mineOf at hk'
  split at hk'
  · simp at hk'
  · rename_i hx
    exact (o.own (fun e => hx (by rw [e]; rfl))).lt k (by simpa using hk')
theorem Sta.readsM {w wx : World} {L : List Item} {v : Value} {xs : List Int} (h : Sta w wx L) (n : Nat) (e : L[n]? = some (LstM v xs)) : Reads wx v xs := (h.get n e).reads
theorem Sta.markM {w wx wy : World} {L : List Item} {v : Value} {xs ys : List Int} (h : Sta w wx L) (n : Nat) (e : L[n]? = some (LstM v xs)) (hl : ys.length = xs.length) (o : Mine wy 0 v ys) (m : Turned wx wy (mineOf v xs)) : Sta w wy (L.set n (LstM v ys)) :=
  h.turn n e m (LstM v ys) (by show mineOf v ys = mineOf v xs; unfold mineOf; rw [hl]) o
end Go.Proofs.YteooloceaoinlaaGreatDoor
/- A house that was answered: its lists are the call's own, or empty wherever they point to; in the state of a long walk. -/
namespace Go.Proofs.YteooloceaoinlaaGreatDoor
open Go.ChangeShapes Go.WideShapes Go.ChangeAt Go.RowKit

theorem apart_iff {u v : Value} : apart u v ↔ ∀ x, x ∈ blk u → x ∈ blk v → False := by
  constructor
  · intro h x h1 h2
    have e1 : u.ownBlock = some x := by simpa [blk] using h1
    have e2 : v.ownBlock = some x := by simpa [blk] using h2
    rcases h.1 with h | h
    · rw [e1] at h; cases h
    · exact h (e1.trans e2.symm)
  · intro h
    constructor
    · cases hu : u.ownBlock with
      | none => exact .inl rfl
      | some x => exact .inr (fun e => h x (by simp [blk, hu]) (by simp [blk, ← e]))
    · cases hv : v.ownBlock with
      | none => exact .inl rfl
      | some x => exact .inr (fun e => h x (by simp [blk, ← e]) (by simp [blk, hv]))
theorem mineOf_sub {v : Value} {xs : List Int} {x : Nat} (h : x ∈ mineOf v xs) : x ∈ blk v := by
  unfold mineOf at h
  split at h
  · cases h
  · exact h
theorem mineOf_lt {w : World} {B : Nat} {v : Value} {xs : List Int} (h : Mine w B v xs) {x : Nat} (hx : x ∈ mineOf v xs) : B ≤ x ∧ x < w.heap.size := by
  have e : xs ≠ [] := fun e => by rw [e] at hx; simp [mineOf] at hx
  exact blk_new (h.own e) x (mineOf_sub hx)
/- Blocks that are all apart, five kinds of them. -/
structure Five (l1 l2 l3 l4 l5 : List Nat) : Prop where
  h12 : ∀ x, x ∈ l1 → x ∈ l2 → False
  h13 : ∀ x, x ∈ l1 → x ∈ l3 → False
  h14 : ∀ x, x ∈ l1 → x ∈ l4 → False
  h15 : ∀ x, x ∈ l1 → x ∈ l5 → False
  h23 : ∀ x, x ∈ l2 → x ∈ l3 → False
  h24 : ∀ x, x ∈ l2 → x ∈ l4 → False
  h25 : ∀ x, x ∈ l2 → x ∈ l5 → False
  h34 : ∀ x, x ∈ l3 → x ∈ l4 → False
  h35 : ∀ x, x ∈ l3 → x ∈ l5 → False
  h45 : ∀ x, x ∈ l4 → x ∈ l5 → False
structure MineN (w : World) (base : Nat) (a b k q z : Value) (n : Nd) : Prop where
  oa : Own w base a n.xs
  ob : Own w base b n.ys
  ok : Own w base k n.h.ks
  oq : Mine w base q n.c.ts
  oz : Mine w base z n.s.ts
  ap : Five (blk a) (blk b) (blk k) (mineOf q n.c.ts) (mineOf z n.s.ts)
def own5 (a b k q z : Value) (n : Nd) : List Nat := blk a ++ (blk b ++ (blk k ++ (mineOf q n.c.ts ++ mineOf z n.s.ts)))
theorem own5_in {a b k q z : Value} {n : Nd} {x : Nat} : x ∈ own5 a b k q z n ↔ x ∈ blk a ∨ x ∈ blk b ∨ x ∈ blk k ∨ x ∈ mineOf q n.c.ts ∨ x ∈ mineOf z n.s.ts := by
  unfold own5
  simp only [List.mem_append]
theorem OwnN.mine {w : World} {base : Nat} {a b k q z : Value} {n : Nd} (h : OwnN w base a b k q z n) : MineN w base a b k q z n := by
  have p : (apart z q ∧ apart z k ∧ apart z b ∧ apart z a) ∧ (apart q k ∧ apart q b ∧ apart q a) ∧ (apart k b ∧ apart k a) ∧ apart b a := by
    have := h.ap
    simpa [List.pairwise_cons] using this
  obtain ⟨⟨p1, p2, p3, p4⟩, ⟨p5, p6, p7⟩, ⟨p8, p9⟩, p0⟩ := p
  simp only [apart_iff] at *
  exact ⟨h.oa, h.ob, h.ok, .inl h.oq, .inl h.oz, ⟨fun x h1 h2 => p0 x h2 h1, fun x h1 h2 => p9 x h2 h1, fun x h1 h2 => p7 x (mineOf_sub h2) h1, fun x h1 h2 => p4 x (mineOf_sub h2) h1, fun x h1 h2 => p8 x h2 h1, fun x h1 h2 => p6 x (mineOf_sub h2) h1, fun x h1 h2 => p3 x (mineOf_sub h2) h1, fun x h1 h2 => p5 x (mineOf_sub h2) h1, fun x h1 h2 => p2 x (mineOf_sub h2) h1, fun x h1 h2 => p1 x (mineOf_sub h2) (mineOf_sub h1)⟩⟩
theorem MineN.reads {w : World} {base : Nat} {a b k q z : Value} {n : Nd} (h : MineN w base a b k q z n) : RdN w a b k q z n := ⟨h.oa.reads, h.ob.reads, h.ok.reads, h.oq.reads, h.oz.reads⟩
theorem MineN.mono {w : World} {base base' : Nat} {a b k q z : Value} {n : Nd} (h : MineN w base a b k q z n) (hb : base' ≤ base) : MineN w base' a b k q z n := ⟨h.oa.mono hb, h.ob.mono hb, h.ok.mono hb, h.oq.mono hb, h.oz.mono hb, h.ap⟩
theorem MineN.below {w w' : World} {base : Nat} {a b k q z : Value} {n : Nd} (h : MineN w base a b k q z n) (B : Below w.heap.size w w') : MineN w' base a b k q z n := ⟨h.oa.below B, h.ob.below B, h.ok.below B, h.oq.below B, h.oz.below B, h.ap⟩
theorem MineN.keptLt {w w' : World} {base g : Nat} {a b k q z : Value} {n : Nd} (h : MineN w base a b k q z n) (hg : w.grownBy w' (some g)) (hb : g < base) : MineN w' base a b k q z n := ⟨h.oa.keptLt hg hb, h.ob.keptLt hg hb, h.ok.keptLt hg hb, h.oq.keptLt hg hb, h.oz.keptLt hg hb, h.ap⟩
theorem MineN.putBy {w w' : World} {base g : Nat} {a b k q z : Value} {n : Nd} {t : TypeId} {cs : Array Value} (h : MineN w base a b k q z n) (s : StB w g t cs) (ty : t ≠ 2) (G : w.grownBy w' (some g)) : MineN w' base a b k q z n :=
  ⟨h.oa.putBy s ty G, h.ob.putBy s ty G, h.ok.putBy s ty G, h.oq.putBy s ty G, h.oz.putBy s ty G, h.ap⟩
theorem MineN.lt {w : World} {base : Nat} {a b k q z : Value} {n : Nd} (h : MineN w base a b k q z n) {x : Nat} (hx : x ∈ own5 a b k q z n) : base ≤ x ∧ x < w.heap.size := by
  rcases own5_in.1 hx with hx | hx | hx | hx | hx
  · exact blk_new h.oa x hx
  · exact blk_new h.ob x hx
  · exact blk_new h.ok x hx
  · exact mineOf_lt h.oq hx
  · exact mineOf_lt h.oz hx
theorem MineN.nil (w : World) (base : Nat) : MineN w base (.slice none 0 0) (.slice none 0 0) (.slice none 0 0) (.slice none 0 0) (.slice none 0 0) Nd.zero :=
  ⟨Own.nil _ _, Own.nil _ _, Own.nil _ _, .inl (Own.nil _ _), .inl (Own.nil _ _), by constructor <;> (intro x h; cases h)⟩
theorem MineN.frame {w w' : World} {base : Nat} {a b k q z : Value} {n : Nd} (h : MineN w base a b k q z n) (e : ∀ x ∈ own5 a b k q z n, w'.heap[x]? = w.heap[x]?) : MineN w' base a b k q z n :=
  ⟨h.oa.frame (fun x hx => e x (own5_in.2 (.inl hx))), h.ob.frame (fun x hx => e x (own5_in.2 (.inr (.inl hx)))), h.ok.frame (fun x hx => e x (own5_in.2 (.inr (.inr (.inl hx))))), h.oq.frame (fun x hx => e x (own5_in.2 (.inr (.inr (.inr (.inl hx)))))), h.oz.frame (fun x hx => e x (own5_in.2 (.inr (.inr (.inr (.inr hx)))))), h.ap⟩
/- A house as a thing of the state. -/
def NdI (a b k q z : Value) (n : Nd) : Item := ⟨own5 a b k q z n, 0, fun w => MineN w 0 a b k q z n, fun _ _ e _ h => h.frame e⟩
theorem Sta.house {w wx wy : World} {L : List Item} {a b k q z : Value} {n : Nd} (h : Sta w wx L) (o : MineN wy wx.heap.size a b k q z n) (B : Below wx.heap.size wx wy) : Sta w wy (NdI a b k q z n :: L) :=
  h.add B (NdI a b k q z n) (o.mono (Nat.zero_le _)) (fun x hx => o.lt hx)
theorem Sta.rdN {w wx : World} {L : List Item} {a b k q z : Value} {n : Nd} (h : Sta w wx L) (i : Nat) (e : L[i]? = some (NdI a b k q z n)) : RdN wx a b k q z n := (h.get i e).reads
/- Its lists are marked. -/
def Nd.inked (n : Nd) (k : Int) : Nd := { n with xs := marks k n.xs.length, ys := marks (k + n.xs.length) n.ys.length, h := { n.h with ks := marks (k + n.xs.length + n.ys.length) n.h.ks.length }, c := { n.c with ts := marks (k + n.xs.length + n.ys.length + n.h.ks.length) n.c.ts.length }, s := { n.s with ts := marks (k + n.xs.length + n.ys.length + n.h.ks.length + n.c.ts.length) n.s.ts.length } }
def Nd.len (n : Nd) : Nat := n.xs.length + n.ys.length + n.h.ks.length + n.c.ts.length + n.s.ts.length
end Go.Proofs.YteooloceaoinlaaGreatDoor
/- A copier inside a block, behind a pointer to its first cell: what a hand on it leaves. -/
namespace Go.Proofs.YteooloceaoinlaaGreatDoor
open Go.ChangeShapes Go.WideShapes Go.ChangeAt Go.RowKit

theorem Turned.sub {w w' : World} {bs cs : List Nat} (h : Turned w w' bs) (hs : ∀ b ∈ bs, b ∈ cs) : Turned w w' cs :=
  ⟨h.os, h.tape, h.output, h.size, fun k hk hn => h.block k hk (fun e => hn (hs k e))⟩
theorem Turned.then {w w' w'' : World} {bs : List Nat} (h : Turned w w' bs) (h' : Turned w' w'' bs) : Turned w w'' bs := (h.trans h').sub (by simp)
theorem Turned.refl (w : World) (bs : List Nat) : Turned w w bs := (Turned.of_below (Below.refl _ _)).sub (by simp)
theorem Turned.below {w w' : World} (bs : List Nat) (h : Below w.heap.size w w') : Turned w w' bs := (Turned.of_below h).sub (by simp)

theorem Turned.belowAt {B : Nat} {w w' : World} {bs : List Nat} (h : Turned w w' bs) (hb : ∀ b ∈ bs, B ≤ b) (hB : B ≤ w.heap.size) : Below B w w' :=
  ⟨h.os, h.tape, h.output, h.size, fun k hk => h.block k (Nat.lt_of_lt_of_le hk hB) (fun e => by have := hb k e; omega)⟩
theorem Own.up {w : World} {base base' : Nat} {v : Value} {xs : List Int} (h : Own w base v xs) (hb : ∀ k, v.ownBlock = some k → base' ≤ k) : Own w base' v xs := by
  refine ⟨h.1, ?_⟩
  rcases h.2 with h' | ⟨g, cap, cur, rfl, hg, r⟩
  · exact .inl h'
  · exact .inr ⟨g, cap, cur, rfl, hb g rfl, r⟩
theorem StB.turned {w w' : World} {g : Nat} {t : TypeId} {cs : Array Value} {bs : List Nat} (h : StB w g t cs) (ht : Turned w w' bs) (hn : g ∉ bs) : StB w' g t cs := (ht.block g h.lt hn).trans h

structure CpB (w : World) (g off : Nat) (t : TypeId) (cs : Array Value) (v : Value) (c : Cp) : Prop where
  st : StB w g t cs
  i0 : cs[off]? = some (.int .i64 c.tr)
  i1 : cs[off + 1]? = some (.bool c.op)
  i2 : cs[off + 2]? = some (.int .i64 c.di)
  i3 : cs[off + 3]? = some (.int .i64 c.wa)
  i4 : cs[off + 4]? = some v
  own : Own w 0 v c.ts
  ne : v.ownBlock ≠ some g
def cpPut (cs : Array Value) (off : Nat) (d w : Int) : Array Value := (cs.setIfInBounds (off + 2) (.int .i64 d)).setIfInBounds (off + 3) (.int .i64 w)
theorem put_same {cs : Array Value} {j : Nat} {x : Value} (h : cs[j]? = some x) : cs.setIfInBounds j x = cs := by
  apply Array.ext_getElem?
  intro i
  rw [Array.getElem?_setIfInBounds]
  split
  · rename_i e; subst e
    have hlt : j < cs.size := by
      rcases Nat.lt_or_ge j cs.size with hlt | hge
      · exact hlt
      · rw [Array.getElem?_eq_none hge] at h; cases h
    simp [hlt] at h ⊢
    exact h.symm
  · rfl
theorem cpPut_same {cs : Array Value} {off : Nat} {d w : Int} (h2 : cs[off + 2]? = some (.int .i64 d)) (h3 : cs[off + 3]? = some (.int .i64 w)) : cpPut cs off d w = cs := by
  unfold cpPut
  rw [put_same h2, put_same h3]
theorem put_at {cs : Array Value} {j : Nat} {x y : Value} (h : cs[j]? = some x) : (cs.setIfInBounds j y)[j]? = some y := by
  have hlt : j < cs.size := by
    rcases Nat.lt_or_ge j cs.size with hlt | hge
    · exact hlt
    · rw [Array.getElem?_eq_none hge] at h; cases h
  simp [hlt]
theorem put_else {cs : Array Value} {i j : Nat} {y : Value} (h : j ≠ i) : (cs.setIfInBounds j y)[i]? = cs[i]? := by
  rw [Array.getElem?_setIfInBounds_ne h]
theorem cpPut_di {cs : Array Value} {off : Nat} {d w : Int} (h3 : cs[off + 3]? = some (.int .i64 w)) : cs.setIfInBounds (off + 2) (.int .i64 d) = cpPut cs off d w := by
  unfold cpPut
  exact (put_same (by rw [put_else (by omega)]; exact h3)).symm
theorem cpPut_wa {cs : Array Value} {off : Nat} {d w : Int} (h2 : cs[off + 2]? = some (.int .i64 d)) : cs.setIfInBounds (off + 3) (.int .i64 w) = cpPut cs off d w := by
  unfold cpPut
  rw [put_same h2]
theorem cpPut_twice {cs : Array Value} {off : Nat} {d w d' w' : Int} : cpPut (cpPut cs off d w) off d' w' = cpPut cs off d' w' := by
  unfold cpPut
  apply Array.ext_getElem?
  intro i
  simp only [Array.getElem?_setIfInBounds, Array.size_setIfInBounds]
  split
  · rfl
  · split
    · rfl
    · rfl
theorem CpB.below {w w' : World} {g off : Nat} {t : TypeId} {cs : Array Value} {v : Value} {c : Cp} (h : CpB w g off t cs v c) (b : Below w.heap.size w w') : CpB w' g off t cs v c :=
  ⟨h.st.below b, h.i0, h.i1, h.i2, h.i3, h.i4, h.own.below b, h.ne⟩
/- A number is put into one of the two sets. -/
theorem CpB.putD {w : World} {g off : Nat} {t : TypeId} {cs : Array Value} {v : Value} {c : Cp} (h : CpB w g off t cs v c) (d : Int) :
    CpB (w.setCell ⟨g, off + 2, none⟩ (.int .i64 d)) g off t (cpPut cs off d c.wa) v { c with di := d } ∧ Turned w (w.setCell ⟨g, off + 2, none⟩ (.int .i64 d)) (g :: v.ownBlock.toList) := by
  have e := cpPut_di (d := d) h.i3
  refine ⟨⟨h.st.put (off + 2) _ e, ?_, ?_, ?_, ?_, ?_, h.own.kept (grownSet w g _ _) (.inr h.ne), h.ne⟩, (Turned.of_grown (grownSet w g _ _)).sub (by simp)⟩
  · rw [← e, put_else (by omega)]; exact h.i0
  · rw [← e, put_else (by omega)]; exact h.i1
  · rw [← e]; exact put_at h.i2
  · rw [← e, put_else (by omega)]; exact h.i3
  · rw [← e, put_else (by omega)]; exact h.i4
theorem CpB.putW {w : World} {g off : Nat} {t : TypeId} {cs : Array Value} {v : Value} {c : Cp} (h : CpB w g off t cs v c) (d : Int) :
    CpB (w.setCell ⟨g, off + 3, none⟩ (.int .i64 d)) g off t (cpPut cs off c.di d) v { c with wa := d } ∧ Turned w (w.setCell ⟨g, off + 3, none⟩ (.int .i64 d)) (g :: v.ownBlock.toList) := by
  have e := cpPut_wa (w := d) h.i2
  refine ⟨⟨h.st.put (off + 3) _ e, ?_, ?_, ?_, ?_, ?_, h.own.kept (grownSet w g _ _) (.inr h.ne), h.ne⟩, (Turned.of_grown (grownSet w g _ _)).sub (by simp)⟩
  · rw [← e, put_else (by omega)]; exact h.i0
  · rw [← e, put_else (by omega)]; exact h.i1
  · rw [← e, put_else (by omega)]; exact h.i2
  · rw [← e]; exact put_at h.i3
  · rw [← e, put_else (by omega)]; exact h.i4
theorem CpB.same {w : World} {g off : Nat} {t : TypeId} {cs : Array Value} {v : Value} {c : Cp} (h : CpB w g off t cs v c) : CpB w g off t (cpPut cs off c.di c.wa) v c := by
  rw [cpPut_same h.i2 h.i3]; exact h
/- The five cells, as the walk reads them. -/
theorem CpB.cell {w : World} {g off : Nat} {t : TypeId} {cs : Array Value} {v : Value} {c : Cp} (h : CpB w g off t cs v c) :
    w.cell? ⟨g, off, none⟩ = some (.int .i64 c.tr) ∧ w.cell? ⟨g, off + 1, none⟩ = some (.bool c.op) ∧ w.cell? ⟨g, off + 2, none⟩ = some (.int .i64 c.di) ∧ w.cell? ⟨g, off + 3, none⟩ = some (.int .i64 c.wa) ∧ w.cell? ⟨g, off + 4, none⟩ = some v :=
  ⟨h.st.cell off h.i0, h.st.cell _ h.i1, h.st.cell _ h.i2, h.st.cell _ h.i3, h.st.cell _ h.i4⟩
end Go.Proofs.YteooloceaoinlaaGreatDoor
/- How the laws take a copier over, compare two, mark one and look at the marks. -/
namespace Go.Proofs.YteooloceaoinlaaGreatDoor
open Go.ChangeShapes Go.WideShapes Go.ChangeAt Go.RowKit

theorem Tryz.isLCp : IsS 30 5 := ⟨⟨_, Tryz.underlying30⟩, by kernel_rfl⟩

set_option maxRecDepth 20000 in
set_option maxHeartbeats 1000000 in
theorem szCopier_any (v : Value) (c : Cp) (k : Int) (w : World) (hr : Reads w v c.ts) (h0 : 0 ≤ k) (h1 : k ≤ 1048576) :
    Calls Tryz.prog 19 #[CpV v c, .int .i64 k] w fun e w' => e = .returned (.int .i64 (szI k c.ts.length)) ∧ Below w.heap.size w w' := by
  have B1 : Below w.heap.size w (w.alloc (.cells (cpA v c) 30)) := (Below.refl _ _).alloc (Nat.le_refl _) _
  have c1 := sz_any v c.ts k _ (hr.below B1 (Nat.le_refl _)) h0 h1
  have hs : szI k c.ts.length = -1 ∨ 0 ≤ szI k c.ts.length := by unfold szI; split <;> omega
  obtain ⟨x, hx⟩ : ∃ x, x = szI k c.ts.length := ⟨_, rfl⟩
  rw [← hx] at c1 hs ⊢
  obtain ⟨ao, cap, rfl⟩ := reads_form hr
  clear hx hr
  unfold CpV cpA at *
  rcases hs with hs | hs
  · subst hs
    go_enter Tryz.func19, Tryz.ntmps19
    go_wp2_with fail
    refine c1.mono ?_
    rintro e w' ⟨rfl, hw⟩; subst w'
    go_wp2
    go_ret
    exact ⟨rfl, B1⟩
  · go_enter Tryz.func19, Tryz.ntmps19
    go_wp2_with fail
    refine c1.mono ?_
    rintro e w' ⟨rfl, hw⟩; subst w'
    go_wp2
    go_ret
    exact ⟨rfl, B1⟩

set_option maxRecDepth 20000 in
set_option maxHeartbeats 2000000 in
theorem toCopier_any (v : Value) (c : Cp) (w : World) (hr : Reads w v c.ts) (hl : c.ts.length ≤ 1099511627776) :
    Calls Tryz.prog 31 #[CpV v c] w fun e w' => ∃ u, e = .returned (CpV u c) ∧ Own w' w.heap.size u c.ts ∧ Below w.heap.size w w' := by
  obtain ⟨w1, hw1⟩ : ∃ w1, w1 = ((w.alloc (.cells (cpA v c) 30)).alloc (.cells zeroCp 40)).alloc (.cells #[.int .i64 c.tr, .bool c.op, .int .i64 c.di, .int .i64 c.wa, .slice none 0 0] 40) := ⟨_, rfl⟩
  have q0 : StB w1 (w.heap.size + 1) 40 zeroCp := by
    rw [hw1]
    have := (StB.new (w.alloc (.cells (cpA v c) 30)) 40 zeroCp).alloc (.cells #[.int .i64 c.tr, .bool c.op, .int .i64 c.di, .int .i64 c.wa, .slice none 0 0] 40)
    rwa [World.size_alloc] at this
  have r0 : StB w1 (w.heap.size + 1 + 1) 40 #[.int .i64 c.tr, .bool c.op, .int .i64 c.di, .int .i64 c.wa, .slice none 0 0] := by
    rw [hw1]
    have := StB.new ((w.alloc (.cells (cpA v c) 30)).alloc (.cells zeroCp 40)) 40 #[.int .i64 c.tr, .bool c.op, .int .i64 c.di, .int .i64 c.wa, .slice none 0 0]
    rwa [World.size_alloc, World.size_alloc] at this
  have b1 : Below w.heap.size w w1 := by rw [hw1]; exact (((Below.refl _ _).alloc (Nat.le_refl _) _).alloc (by simp) _).alloc (by simp; omega) _
  have c1 := to_any v c.ts w1 (hr.below b1 (Nat.le_refl _)) hl
  have hs1 := r0.lt
  obtain ⟨ao, cap, rfl⟩ := reads_form hr
  have HW : Hid (w1 = ((w.alloc (.cells #[.int .i64 c.tr, .bool c.op, .int .i64 c.di, .int .i64 c.wa, .slice ao c.ts.length cap] 30)).alloc (.cells #[.int .i64 0, .bool false, .int .i64 0, .int .i64 0, .slice none 0 0] 40)).alloc (.cells #[.int .i64 c.tr, .bool c.op, .int .i64 c.di, .int .i64 c.wa, .slice none 0 0] 40)) := hw1
  clear hw1 hr hl
  unfold CpV
  conv in cpA (.slice ao c.ts.length cap) c => unfold cpA
  go_enter Tryz.func31, Tryz.ntmps31
  go_wp2_with fail
  rw [← HW.out]
  clear HW
  refine c1.mono ?_
  rintro e w3 ⟨u, rfl, o3, b3⟩
  replace q0 := q0.below b3
  replace r0 := r0.below b3
  have B3 := b1.trans (b3.mono b1.size)
  obtain ⟨ab, cb, rfl⟩ := reads_form o3.reads
  have m4 : w3.cell? ⟨w.heap.size + 1 + 1, 4, none⟩ = some (.slice none 0 0) := r0.cell 4 rfl
  have f4 := r0.frozen 4
  have R4 := r0.put 4 (.slice ab c.ts.length cb) (ds := cpA (.slice ab c.ts.length cb) c) rfl
  have Q4 := q0.other ⟨w.heap.size + 1 + 1, 4, none⟩ (.slice ab c.ts.length cb) (by simp)
  have HP : Hid (Own (w3.setCell ⟨w.heap.size + 1 + 1, 4, none⟩ (.slice ab c.ts.length cb)) w1.heap.size (.slice ab c.ts.length cb) c.ts ∧ Below w.heap.size w (w3.setCell ⟨w.heap.size + 1 + 1, 4, none⟩ (.slice ab c.ts.length cb))) := ⟨o3.setLt (by omega) 4 _, B3.setCell (by simp; omega) _⟩
  clear q0 r0 c1 o3 b3 b1 B3
  go_upto_region 7 with fail
  obtain ⟨w4, hw4⟩ : ∃ w4, w4 = w3.setCell ⟨w.heap.size + 1 + 1, 4, none⟩ (.slice ab c.ts.length cb) := ⟨_, rfl⟩
  rw [← hw4] at R4 Q4 HP ⊢
  clear hw4 m4 f4
  go_wp2_with (first | (refine wpList_getS Tryz.isCp rfl _ rfl (w.heap.size + 1 + 1) rfl (cpA (.slice ab c.ts.length cb) c) rfl R4 ?_) | (refine wpList_putS Tryz.isCp rfl _ _ rfl (w.heap.size + 1) (cpA (.slice ab c.ts.length cb) c) zeroCp rfl rfl rfl rfl (cpA_one c rfl) Q4 ?_; intro w8 s8 g8))
  refine bodyPost_ret (results_S Tryz.isCp rfl _ _ (w.heap.size + 1) _ rfl rfl s8) rfl ?_
  exact ⟨_, rfl, (HP.out.1.keptLt g8 (by omega)).mono (by omega), HP.out.2.grown g8 HP.out.2.size (fun k e => by cases e; omega)⟩

set_option maxRecDepth 20000 in
set_option maxHeartbeats 1000000 in
theorem eqCopier_any (u v : Value) (c : Cp) (w : World) (hu : Reads w u c.ts) (hv : Reads w v c.ts) (hl : c.ts.length ≤ 1099511627776) :
    Calls Tryz.prog 42 #[CpV u c, CpV v c] w fun e w' => e = .returned (.bool true) ∧ Below w.heap.size w w' := by
  obtain ⟨w1, hw1⟩ : ∃ w1, w1 = (w.alloc (.cells (cpA u c) 40)).alloc (.cells (cpA v c) 40) := ⟨_, rfl⟩
  have HB : Hid (Below w.heap.size w w1) := by rw [hw1]; exact ((Below.refl _ _).alloc (Nat.le_refl _) _).alloc (by simp) _
  have c1 := eq_any u v c.ts c.ts w1 (hu.below HB.out (Nat.le_refl _)) (hv.below HB.out (Nat.le_refl _)) hl
  rw [show decide (c.ts = c.ts) = true by simp] at c1
  obtain ⟨ao, ca, rfl⟩ := reads_form hu
  obtain ⟨bo, cb, rfl⟩ := reads_form hv
  have HW : Hid (w1 = (w.alloc (.cells #[.int .i64 c.tr, .bool c.op, .int .i64 c.di, .int .i64 c.wa, .slice ao c.ts.length ca] 40)).alloc (.cells #[.int .i64 c.tr, .bool c.op, .int .i64 c.di, .int .i64 c.wa, .slice bo c.ts.length cb] 40)) := hw1
  clear hw1 hu hv hl
  unfold CpV cpA
  go_enter Tryz.func42, Tryz.ntmps42
  go_wp2_with fail
  rw [← HW.out]
  clear HW
  refine c1.mono ?_
  rintro e w3 ⟨rfl, n3, hw3⟩
  have B3 : Hid (Below w.heap.size w w3) := by rw [hw3]; exact below_drewN HB.out n3
  clear hw3 c1 HB
  go_wp2
  go_ret
  exact ⟨rfl, B3.out⟩

set_option maxRecDepth 20000 in
set_option maxHeartbeats 1000000 in
theorem markCopier_any (v : Value) (c : Cp) (k : Int) (w : World) (base : Nat) (ho : Own w base v c.ts) (hl : c.ts.length ≤ 1048576) (h0 : 0 ≤ k) (h1 : k ≤ 4194304) :
    Calls Tryz.prog 52 #[CpV v c, .int .i64 k] w fun e w' => e = .returned (.int .i64 (k + c.ts.length)) ∧ Own w' base v (marks k c.ts.length) ∧ w.grownBy w' v.ownBlock := by
  have B1 : Below w.heap.size w (w.alloc (.cells (cpA v c) 40)) := (Below.refl _ _).alloc (Nat.le_refl _) _
  have G1 : w.grownBy (w.alloc (.cells (cpA v c) 40)) v.ownBlock := World.grownBy_alloc w _ _
  have c1 := mark_any v c.ts k _ base (ho.below B1) (by omega) h0 (by omega)
  obtain ⟨ao, cap, rfl⟩ := reads_form ho.reads
  have hl' : (c.ts.length : Int) ≤ 1048576 := by omega
  clear ho hl
  unfold CpV cpA at *
  go_enter Tryz.func52, Tryz.ntmps52
  go_wp2_with fail
  refine c1.mono ?_
  rintro e w2 ⟨rfl, o2, g2⟩
  have HC : Hid (Own w2 base (.slice ao c.ts.length cap) (marks k c.ts.length) ∧ w.grownBy w2 (Value.slice ao c.ts.length cap).ownBlock) := ⟨o2, G1.trans g2⟩
  clear o2 g2 G1 B1 c1
  go_wp2
  go_ret
  exact ⟨rfl, HC.out⟩

set_option maxRecDepth 20000 in
set_option maxHeartbeats 1000000 in
theorem heldCopier_any (v : Value) (c : Cp) (n : Nat) (k : Int) (w : World) (hn : n = c.ts.length) (hr : Reads w v (marks k n)) (hl : n ≤ 1048576) (h0 : 0 ≤ k) (h1 : k ≤ 4194304) :
    Calls Tryz.prog 56 #[CpV v c, .int .i64 k] w fun e w' => e = .returned (.int .i64 (k + n)) ∧ Below w.heap.size w w' := by
  have B1 : Below w.heap.size w (w.alloc (.cells (cpA v c) 40)) := (Below.refl _ _).alloc (Nat.le_refl _) _
  have c1 := held_marks v n k _ (hr.below B1 (Nat.le_refl _)) (by omega) h0 (by omega)
  obtain ⟨ao, cap, rfl⟩ := reads_form hr
  have hl' : (n : Int) ≤ 1048576 := by omega
  clear hr hl hn
  unfold CpV cpA at *
  go_enter Tryz.func56, Tryz.ntmps56
  go_wp2_with fail
  refine c1.mono ?_
  rintro e w' ⟨rfl, hw⟩; subst w'
  go_wp2
  go_ret
  exact ⟨rfl, B1⟩
end Go.Proofs.YteooloceaoinlaaGreatDoor
