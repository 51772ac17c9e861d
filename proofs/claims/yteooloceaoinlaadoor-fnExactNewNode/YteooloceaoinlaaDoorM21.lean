/- A house that was answered: its lists are the call's own, or empty wherever they point to; in the state of a long walk. -/
import Derived.Test.YteooloceaoinlaaDoorM20
import Derived.Test.YteooloceaoinlaaDoorM17
import Derived.Test.YteooloceaoinlaaDoorM6
import Derived.Deep.DeepCutAuto
import Derived.Test.YteooloceaoinlaaDoorM16
import Derived.Test.YteooloceaoinlaaDoorM5
import Derived.Laws.Tables
import Derived.Laws.ResultCell
namespace Go.Proofs.YteooloceaoinlaaDoor
open Go.ChangeShapes Go.WideShapes Go.ChangeAt Go.RowKit

theorem apart_iff {u v : Value} : apart u v ↔ ∀ x, x ∈ blk u → x ∈ blk v → False := by
  constructor
  · intro h x h1 h2
    have e1 : u.ownBlock = some x := by simpa [blk] using h1
    have e2 : v.ownBlock = some x := by simpa [blk] using h2
    rcases h.1 with h | h
    · rw [e1] at h; cases h
    · exact h (e1.trans e2.symm)
  · intro h
    constructor
    · cases hu : u.ownBlock with
      | none => exact .inl rfl
      | some x => exact .inr (fun e => h x (by simp [blk, hu]) (by simp [blk, ← e]))
    · cases hv : v.ownBlock with
      | none => exact .inl rfl
      | some x => exact .inr (fun e => h x (by simp [blk, ← e]) (by simp [blk, hv]))
theorem mineOf_sub {v : Value} {xs : List Int} {x : Nat} (h : x ∈ mineOf v xs) : x ∈ blk v := by
  unfold mineOf at h
  split at h
  · cases h
  · exact h
theorem mineOf_lt {w : World} {B : Nat} {v : Value} {xs : List Int} (h : Mine w B v xs) {x : Nat} (hx : x ∈ mineOf v xs) : B ≤ x ∧ x < w.heap.size := by
  have e : xs ≠ [] := fun e => by rw [e] at hx; simp [mineOf] at hx
  exact blk_new (h.own e) x (mineOf_sub hx)
/- Blocks that are all apart, five kinds of them. -/
structure Five (l1 l2 l3 l4 l5 : List Nat) : Prop where
  h12 : ∀ x, x ∈ l1 → x ∈ l2 → False
  h13 : ∀ x, x ∈ l1 → x ∈ l3 → False
  h14 : ∀ x, x ∈ l1 → x ∈ l4 → False
  h15 : ∀ x, x ∈ l1 → x ∈ l5 → False
  h23 : ∀ x, x ∈ l2 → x ∈ l3 → False
  h24 : ∀ x, x ∈ l2 → x ∈ l4 → False
  h25 : ∀ x, x ∈ l2 → x ∈ l5 → False
  h34 : ∀ x, x ∈ l3 → x ∈ l4 → False
  h35 : ∀ x, x ∈ l3 → x ∈ l5 → False
  h45 : ∀ x, x ∈ l4 → x ∈ l5 → False
structure MineN (w : World) (base : Nat) (a b k q z : Value) (n : Nd) : Prop where
  oa : Own w base a n.xs
  ob : Own w base b n.ys
  ok : Own w base k n.h.ks
  oq : Mine w base q n.c.ts
  oz : Mine w base z n.s.ts
  ap : Five (blk a) (blk b) (blk k) (mineOf q n.c.ts) (mineOf z n.s.ts)
def own5 (a b k q z : Value) (n : Nd) : List Nat := blk a ++ (blk b ++ (blk k ++ (mineOf q n.c.ts ++ mineOf z n.s.ts)))
theorem own5_in {a b k q z : Value} {n : Nd} {x : Nat} : x ∈ own5 a b k q z n ↔ x ∈ blk a ∨ x ∈ blk b ∨ x ∈ blk k ∨ x ∈ mineOf q n.c.ts ∨ x ∈ mineOf z n.s.ts := by
  unfold own5
  simp only [List.mem_append]
theorem OwnN.mine {w : World} {base : Nat} {a b k q z : Value} {n : Nd} (h : OwnN w base a b k q z n) : MineN w base a b k q z n := by
  have p : (apart z q ∧ apart z k ∧ apart z b ∧ apart z a) ∧ (apart q k ∧ apart q b ∧ apart q a) ∧ (apart k b ∧ apart k a) ∧ apart b a := by
    have := h.ap
    simpa [List.pairwise_cons] using this
  obtain ⟨⟨p1, p2, p3, p4⟩, ⟨p5, p6, p7⟩, ⟨p8, p9⟩, p0⟩ := p
  simp only [apart_iff] at *
  exact ⟨h.oa, h.ob, h.ok, .inl h.oq, .inl h.oz, ⟨fun x h1 h2 => p0 x h2 h1, fun x h1 h2 => p9 x h2 h1, fun x h1 h2 => p7 x (mineOf_sub h2) h1, fun x h1 h2 => p4 x (mineOf_sub h2) h1, fun x h1 h2 => p8 x h2 h1, fun x h1 h2 => p6 x (mineOf_sub h2) h1, fun x h1 h2 => p3 x (mineOf_sub h2) h1, fun x h1 h2 => p5 x (mineOf_sub h2) h1, fun x h1 h2 => p2 x (mineOf_sub h2) h1, fun x h1 h2 => p1 x (mineOf_sub h2) (mineOf_sub h1)⟩⟩
theorem MineN.reads {w : World} {base : Nat} {a b k q z : Value} {n : Nd} (h : MineN w base a b k q z n) : RdN w a b k q z n := ⟨h.oa.reads, h.ob.reads, h.ok.reads, h.oq.reads, h.oz.reads⟩
theorem MineN.mono {w : World} {base base' : Nat} {a b k q z : Value} {n : Nd} (h : MineN w base a b k q z n) (hb : base' ≤ base) : MineN w base' a b k q z n := ⟨h.oa.mono hb, h.ob.mono hb, h.ok.mono hb, h.oq.mono hb, h.oz.mono hb, h.ap⟩
theorem MineN.below {w w' : World} {base : Nat} {a b k q z : Value} {n : Nd} (h : MineN w base a b k q z n) (B : Below w.heap.size w w') : MineN w' base a b k q z n := ⟨h.oa.below B, h.ob.below B, h.ok.below B, h.oq.below B, h.oz.below B, h.ap⟩
theorem MineN.keptLt {w w' : World} {base g : Nat} {a b k q z : Value} {n : Nd} (h : MineN w base a b k q z n) (hg : w.grownBy w' (some g)) (hb : g < base) : MineN w' base a b k q z n := ⟨h.oa.keptLt hg hb, h.ob.keptLt hg hb, h.ok.keptLt hg hb, h.oq.keptLt hg hb, h.oz.keptLt hg hb, h.ap⟩
theorem MineN.putBy {w w' : World} {base g : Nat} {a b k q z : Value} {n : Nd} {t : TypeId} {cs : Array Value} (h : MineN w base a b k q z n) (s : StB w g t cs) (ty : t ≠ 2) (G : w.grownBy w' (some g)) : MineN w' base a b k q z n :=
  ⟨h.oa.putBy s ty G, h.ob.putBy s ty G, h.ok.putBy s ty G, h.oq.putBy s ty G, h.oz.putBy s ty G, h.ap⟩
theorem MineN.lt {w : World} {base : Nat} {a b k q z : Value} {n : Nd} (h : MineN w base a b k q z n) {x : Nat} (hx : x ∈ own5 a b k q z n) : base ≤ x ∧ x < w.heap.size := by
  rcases own5_in.1 hx with hx | hx | hx | hx | hx
  · exact blk_new h.oa x hx
  · exact blk_new h.ob x hx
  · exact blk_new h.ok x hx
  · exact mineOf_lt h.oq hx
  · exact mineOf_lt h.oz hx
theorem MineN.nil (w : World) (base : Nat) : MineN w base (.slice none 0 0) (.slice none 0 0) (.slice none 0 0) (.slice none 0 0) (.slice none 0 0) Nd.zero :=
  ⟨Own.nil _ _, Own.nil _ _, Own.nil _ _, .inl (Own.nil _ _), .inl (Own.nil _ _), by constructor <;> (intro x h; cases h)⟩
theorem MineN.frame {w w' : World} {base : Nat} {a b k q z : Value} {n : Nd} (h : MineN w base a b k q z n) (e : ∀ x ∈ own5 a b k q z n, w'.heap[x]? = w.heap[x]?) : MineN w' base a b k q z n :=
  ⟨h.oa.frame (fun x hx => e x (own5_in.2 (.inl hx))), h.ob.frame (fun x hx => e x (own5_in.2 (.inr (.inl hx)))), h.ok.frame (fun x hx => e x (own5_in.2 (.inr (.inr (.inl hx))))), h.oq.frame (fun x hx => e x (own5_in.2 (.inr (.inr (.inr (.inl hx)))))), h.oz.frame (fun x hx => e x (own5_in.2 (.inr (.inr (.inr (.inr hx)))))), h.ap⟩
/- A house as a thing of the state. -/
def NdI (a b k q z : Value) (n : Nd) : Item := ⟨own5 a b k q z n, 0, fun w => MineN w 0 a b k q z n, fun _ _ e _ h => h.frame e⟩
theorem Sta.house {w wx wy : World} {L : List Item} {a b k q z : Value} {n : Nd} (h : Sta w wx L) (o : MineN wy wx.heap.size a b k q z n) (B : Below wx.heap.size wx wy) : Sta w wy (NdI a b k q z n :: L) :=
  h.add B (NdI a b k q z n) (o.mono (Nat.zero_le _)) (fun x hx => o.lt hx)
theorem Sta.rdN {w wx : World} {L : List Item} {a b k q z : Value} {n : Nd} (h : Sta w wx L) (i : Nat) (e : L[i]? = some (NdI a b k q z n)) : RdN wx a b k q z n := (h.get i e).reads
/- Its lists are marked. -/
def Nd.inked (n : Nd) (k : Int) : Nd := { n with xs := marks k n.xs.length, ys := marks (k + n.xs.length) n.ys.length, h := { n.h with ks := marks (k + n.xs.length + n.ys.length) n.h.ks.length }, c := { n.c with ts := marks (k + n.xs.length + n.ys.length + n.h.ks.length) n.c.ts.length }, s := { n.s with ts := marks (k + n.xs.length + n.ys.length + n.h.ks.length + n.c.ts.length) n.s.ts.length } }
def Nd.len (n : Nd) : Nat := n.xs.length + n.ys.length + n.h.ks.length + n.c.ts.length + n.s.ts.length
end Go.Proofs.YteooloceaoinlaaDoor
/- How the laws take a store over, measure it, compare two, mark one and look at the marks. -/
namespace Go.Proofs.YteooloceaoinlaaDoor
open Go.ChangeShapes Go.WideShapes Go.ChangeAt Go.RowKit

theorem Tryd.isR : IsS 47 6 := ⟨⟨_, Tryd.underlying47⟩, by kernel_rfl⟩
/- A store's three lists, each in a block of its own. -/
def OwnR (w : World) (base : Nat) (a b k : Value) (xs ys ks : List Int) : Prop := OwnD w base a b xs ys ∧ Own w base k ks ∧ apart a k ∧ apart b k
def zeR : Array Value := #[.slice none 0 0, .slice none 0 0, .slice none 0 0, .int .i64 0, .int .i64 0, .int .i64 0]
theorem srA_one {a b k : Value} (h : Hd) (ha : a.oneCell' = true) (hb : b.oneCell' = true) (hk : k.oneCell' = true) : (srA a b k h).all (·.oneCell') = true := by
  unfold srA
  simp [ha, hb, hk, show ∀ k n, (Value.int k n).oneCell' = true from fun _ _ => rfl]
theorem OwnR.below {w w' : World} {base : Nat} {a b k : Value} {xs ys ks : List Int} (h : OwnR w base a b k xs ys ks) (e : Below w.heap.size w w') : OwnR w' base a b k xs ys ks :=
  ⟨⟨h.1.1.below e, h.1.2.1.below e, h.1.2.2⟩, h.2.1.below e, h.2.2⟩
theorem OwnR.mono {w : World} {base base' : Nat} {a b k : Value} {xs ys ks : List Int} (h : OwnR w base a b k xs ys ks) (e : base' ≤ base) : OwnR w base' a b k xs ys ks :=
  ⟨⟨h.1.1.mono e, h.1.2.1.mono e, h.1.2.2⟩, h.2.1.mono e, h.2.2⟩
theorem OwnR.keptLt {w w' : World} {base g : Nat} {a b k : Value} {xs ys ks : List Int} (h : OwnR w base a b k xs ys ks) (e : w.grownBy w' (some g)) (hg : g < base) : OwnR w' base a b k xs ys ks :=
  ⟨⟨h.1.1.keptLt e hg, h.1.2.1.keptLt e hg, h.1.2.2⟩, h.2.1.keptLt e hg, h.2.2⟩
theorem OwnR.nil (w : World) (base : Nat) : OwnR w base (.slice none 0 0) (.slice none 0 0) (.slice none 0 0) [] [] [] :=
  ⟨⟨Own.nil w base, Own.nil w base, ⟨.inl rfl, .inl rfl⟩⟩, Own.nil w base, ⟨.inl rfl, .inl rfl⟩, ⟨.inl rfl, .inl rfl⟩⟩
end Go.Proofs.YteooloceaoinlaaDoor
/- The model's store: StoreOk, l12Copy. -/
namespace Go.Proofs.YteooloceaoinlaaDoor
open Go.ChangeShapes Go.WideShapes Go.ChangeAt Go.RowKit
end Go.Proofs.YteooloceaoinlaaDoor
/- Arrays of eight numbers in memory: 'Row w g f': block g holds them. What a load, a store, a new one make of it. And rowOf, rowsOf, list, valueOk, countOk answer what plain lists say. -/
namespace Go.Proofs.YteooloceaoinlaaDoor
open Go.ChangeShapes Go.WideShapes Go.ChangeAt Go.RowKit

def rowA (f : Nat → Int) : Array Value := #[.int .i64 (f 0), .int .i64 (f 1), .int .i64 (f 2), .int .i64 (f 3), .int .i64 (f 4), .int .i64 (f 5), .int .i64 (f 6), .int .i64 (f 7)]
def Row (w : World) (g : Nat) (f : Nat → Int) : Prop := w.heap[g]? = some (.cells (rowA f) 78 (0, 0))
def upd (f : Nat → Int) (j : Nat) (x : Int) : Nat → Int := fun k => if k = j then x else f k

theorem eight {p : Nat → Prop} (h0 : p 0) (h1 : p 1) (h2 : p 2) (h3 : p 3) (h4 : p 4) (h5 : p 5) (h6 : p 6) (h7 : p 7) : ∀ j, j < 8 → p j
  | 0, _ => h0 | 1, _ => h1 | 2, _ => h2 | 3, _ => h3 | 4, _ => h4 | 5, _ => h5 | 6, _ => h6 | 7, _ => h7
  | _ + 8, h => by omega

theorem rowA_at (f : Nat → Int) : ∀ j, j < 8 → (rowA f)[j]? = some (.int .i64 (f j)) := eight rfl rfl rfl rfl rfl rfl rfl rfl
theorem rowA_set (f : Nat → Int) (x : Int) : ∀ j, j < 8 → (rowA f).setIfInBounds j (.int .i64 x) = rowA (upd f j x) := eight rfl rfl rfl rfl rfl rfl rfl rfl
theorem rowA_size (f : Nat → Int) : (rowA f).size = 8 := rfl
theorem rowA_one (f : Nat → Int) : (rowA f).all (·.oneCell') = true := by simp [rowA, Value.oneCell']
theorem rowA_congr {f g : Nat → Int} (h : ∀ j, j < 8 → f j = g j) : rowA f = rowA g := by
  simp [rowA, h 0, h 1, h 2, h 3, h 4, h 5, h 6, h 7]

theorem Row.cell {w : World} {g : Nat} {f : Nat → Int} (h : Row w g f) (j : Nat) (hj : j < 8) : w.cell? ⟨g, j, none⟩ = some (.int .i64 (f j)) := by
  rw [cell_of_row w g j _ _ _ h, rowA_at f j hj]
theorem Row.frozen {w : World} {g : Nat} {f : Nat → Int} (h : Row w g f) (j : Nat) : w.frozen? ⟨g, j, none⟩ = false := frozen_of_row w g j _ _ h
theorem Row.lt {w : World} {g : Nat} {f : Nat → Int} (h : Row w g f) : g < w.heap.size := by
  rcases Nat.lt_or_ge g w.heap.size with hlt | hge
  · exact hlt
  · rw [Row, Array.getElem?_eq_none hge] at h; cases h
theorem Row.below {w w' : World} {g : Nat} {f : Nat → Int} (h : Row w g f) (hb : Below w.heap.size w w') : Row w' g f := (hb.block g h.lt).trans h
theorem Row.alloc {w : World} {g : Nat} {f : Nat → Int} (h : Row w g f) (o : Obj) : Row (w.alloc o) g f := (Below.heap_alloc w o g h.lt).trans h
theorem Row.new (w : World) (f : Nat → Int) : Row (w.alloc (.cells (rowA f) 78)) w.heap.size f := heap_alloc_new w _
theorem Row.setCell {w : World} {g : Nat} {f : Nat → Int} (h : Row w g f) (j : Nat) (hj : j < 8) (x : Int) : Row (w.setCell ⟨g, j, none⟩ (.int .i64 x)) g (upd f j x) := by
  have := heap_setCell_same w g j _ _ (.int .i64 x) h
  rw [rowA_set f x j hj] at this
  exact this
theorem Row.other {w : World} {g : Nat} {f : Nat → Int} (h : Row w g f) (a : Addr) (v : Value) (hne : g ≠ a.block) : Row (w.setCell a v) g f := (heap_setCell_other w a g v hne).trans h
theorem Row.setRow {w : World} {g : Nat} {f : Nat → Int} (h : Row w g f) (f' : Nat → Int) : Row (w.setRow g (rowA f')) g f' := setRow_heap w g _ _ _ _ h
theorem Row.setRow_other {w : World} {g k : Nat} {f : Nat → Int} (h : Row w g f) (cs : Array Value) (hne : g ≠ k) : Row (w.setRow k cs) g f := (_root_.Go.setRow_other w k g cs hne).trans h
theorem below_row {B g : Nat} {w0 w : World} (h : Below B w0 w) (hB : B ≤ g) (cs : Array Value) : Below B w0 (w.setRow g cs) :=
  h.trans ⟨rfl, rfl, rfl, by simp, fun k hk => _root_.Go.setRow_other w g k cs (by omega)⟩

theorem Tryd.info8 (f : Nat → Int) : (Tryd.prog.info? 78).map (·.size) = some (rowA f).size := by
  rw [rowA_size]; kernel_rfl
theorem Tryd.under8 : Tryd.prog.underlying 78 = some (.array 8 2) := by kernel_rfl

theorem grown_setRow (w : World) (g : Nat) (cs : Array Value) : w.grownBy (w.setRow g cs) (some g) :=
  ⟨rfl, rfl, rfl, by simp, fun k _ hne => _root_.Go.setRow_other w g k cs (fun e => hne (by rw [e]))⟩
theorem Row.kept {w w' : World} {g : Nat} {f : Nat → Int} {row : Option Nat} (h : Row w g f) (hg : w.grownBy w' row) (hne : some g ≠ row) : Row w' g f := (hg.block g h.lt hne).trans h
theorem wpList_get8 {ops : Array Oper} {rest : List Oper} {o : Oper} {a : Act} {w : World} {Q : Exit → Act → World → Prop} (hgd : o.guard = none) (x : Operand) (ho : o.op = .load 78 x)
    (g : Nat) (hx : a.eval x = .pointer (some ⟨g, 0, none⟩)) (f : Nat → Int) (hr : Row w g f)
    (h : wpList Tryd.prog ops Q rest (a.put o.dst (.agg (rowA f))) w) : wpList Tryd.prog ops Q (o :: rest) a w :=
  wpList_load_row hgd _ x ho g hx _ _ _ _ hr Tryd.under8 rfl (Tryd.info8 f) h
theorem wpList_put8 {ops : Array Oper} {rest : List Oper} {o : Oper} {a : Act} {w : World} {Q : Exit → Act → World → Prop} (hgd : o.guard = none) (x y : Operand) (ho : o.op = .store 78 x y)
    (g : Nat) (f : Nat → Int) (hx : a.eval x = .pointer (some ⟨g, 0, none⟩)) (hy : a.eval y = .agg (rowA f)) (old : Nat → Int) (hr : Row w g old)
    (h : ∀ w', Row w' g f → w.grownBy w' (some g) → wpList Tryd.prog ops Q rest (a.put o.dst undef) w') : wpList Tryd.prog ops Q (o :: rest) a w :=
  wpList_store_row hgd _ x y ho g (rowA f) hx hy _ _ hr (Tryd.info8 f) rfl (rowA_one f) (h _ (hr.setRow f) (grown_setRow w g _))

set_option maxRecDepth 20000 in
set_option maxHeartbeats 400000 in
theorem cnt_any (x : Int) (w : World) :
    Calls Tryd.prog 45 #[.int .i64 x] w fun e w' => e = .returned (.bool (cntOk x)) ∧ w' = w := by
  by_cases h0 : 1 ≤ x
  · by_cases h1 : x ≤ 8
    · rw [cntOk_yes h0 h1]
      go_enter Tryd.func45, Tryd.ntmps45
      go_wp2
      go_ret
      exact ⟨ret_bool (by simp), rfl⟩
    · rw [cntOk_no (by omega)]
      go_enter Tryd.func45, Tryd.ntmps45
      go_wp2
      go_ret
      exact ⟨ret_bool (by simp), rfl⟩
  · rw [cntOk_no (by omega)]
    go_enter Tryd.func45, Tryd.ntmps45
    go_wp2
    go_ret
    exact ⟨ret_bool (by simp), rfl⟩
end Go.Proofs.YteooloceaoinlaaDoor
