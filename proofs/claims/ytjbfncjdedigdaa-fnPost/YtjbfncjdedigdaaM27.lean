/- The walk of a region that draws its order (Giv), behind a structure: what is left of the walk is not unfolded by whoever looks at the goal. -/
import Derived.Test.YtjbfncjdedigdaaGiv
import Derived.Test.YtjbfncjdedigdaaM16
import Derived.Test.YtjbfncjdedigdaaM15
import Derived.Test.YtjbfncjdedigdaaM18
import Derived.Test.YtjbfncjdedigdaaSMsg
import Derived.Test.YtjbfncjdedigdaaRowS
import Derived.Test.YtjbfncjdedigdaaM17
import Derived.Test.YtjbfncjdedigdaaDrawHold
import Derived.Test.YtjbfncjdedigdaaM26
import Derived.Deep.DeepCutAuto
namespace Go.Proofs.Ytjbfncjdedigdaa
open Go.ChangeShapes Go.WideShapes Go.ChangeAt Go.RowKit

structure GivS (P : Program) (ops : Array Oper) (C : World → Prop) (E : Oper → Act → Option GSpec) (R : World → World → Prop) (Q : Act → Known → Prop) (l : List Oper) (a : Act) (G : Known) : Prop where
  out : wpGiv P ops C E R Q l a G
section
variable {P : Program} {ops : Array Oper} {C : World → Prop} {E : Oper → Act → Option GSpec} {R : World → World → Prop} {Q : Act → Known → Prop} {o : Oper} {rest : List Oper} {a : Act} {G : Known}
theorem gs_plain (hs : E o a = none)
    (h : ∀ K : Act → Prop, (∀ a, GivS P ops C E R Q rest a G → K a) → if Region.wanted o (yielded ops a.tmps) then (∃ v, (∀ w, (∃ q : Kin C, w = q.x) → o.quietAt P a (fun _ => False) w v) ∧ K (a.put o.dst v)) else K (a.put o.dst undef)) : GivS P ops C E R Q (o :: rest) a G :=
  ⟨giv_plain hs (fun K hK => h K (fun a g => hK a g.out))⟩
theorem gs_skip (hw : Region.wanted o (yielded ops a.tmps) = false) (h : GivS P ops C E R Q rest (a.put o.dst undef) G) : GivS P ops C E R Q (o :: rest) a G := ⟨giv_skip hw h.out⟩
theorem gs_call (s : GSpec) (hs : E o a = some s) (hw : Region.wanted o (yielded ops a.tmps) = true)
    (h : ∀ w, Base ops C o G w → givesUpon P R s.V s.F w ((execOp a.eval o).run P w))
    (k : ∀ u, s.V u → GivS P ops C E R Q rest (a.put o.dst u) ((o, s.F u) :: G)) : GivS P ops C E R Q (o :: rest) a G := ⟨giv_call s hs hw h (fun u hu => (k u hu).out)⟩
end
theorem gs_end {P : Program} {ops : Array Oper} {C : World → Prop} {E : Oper → Act → Option GSpec} {R : World → World → Prop} {Q : Act → World → Prop} {a : Act} {G : Known} (h : ∀ w', Has C G w' → Q a w') : GivS P ops C E R (fun a' G => ∀ w', Has C G w' → Q a' w') [] a G := ⟨giv_end h⟩
theorem wp_region_gs {P : Program} {C : World → Prop} {E : Oper → Act → Option GSpec} {R : World → World → Prop} (hC : ∀ x y, C x → R x y → C y) (hE : ∀ o a s, E o a = some s → ∀ u x y, s.F u x → R x y → s.F u y)
    {id : Nat} {Q : Exit → Act → World → Prop} {a : Act} {w : World} {l : List Oper} (hA : ∀ o a dst v, (∀ d, dst = some d → d ∉ o.looksAt l.toArray) → E o (Act.put a dst v) = E o a) (hm : P.follows .mixedOrders = true) (hB : Region.lexB .any l.toArray = true) (h0 : C w.drew)
    (h : GivS P l.toArray C E R (fun a' G => ∀ w', Has C G w' → Q .normal a' w') l a []) : (Code.region id l.toArray true).wp P Q a w := wp_region_giv hC hE hA hm hB h0 h.out
end Go.Proofs.Ytjbfncjdedigdaa
/- Numbers and truths that a call answers in a region that draws its order. -/
namespace Go.Proofs.Ytjbfncjdedigdaa
open Go.ChangeShapes Go.WideShapes Go.ChangeAt Go.RowKit

/- A number is answered, and the world is as it was. -/
def numG (n : Int) : GSpec := ⟨fun u => u = .int .i64 n, fun _ _ => True⟩
theorem numG_later {n : Int} {u : Value} {x y : World} (hx : (numG n).F u x) (_ : Later x y) : (numG n).F u y := hx
theorem num_of {P : Program} {f : FuncId} {args : Array Value} {w : World} {n : Int} (h : Calls P f args w fun e w' => e = .returned (.int .i64 n) ∧ w' = w) : Calls P f args w (fun e w'' => ∃ u, e = .returned u ∧ (numG n).V u ∧ (numG n).F u w'' ∧ Later w w'') :=
  h.mono fun _ _ ⟨he, hb⟩ => ⟨_, he, rfl, trivial, by rw [hb]; exact Below.refl _ _⟩
theorem truthC_later {b : Bool} {u : Value} {x y : World} (hx : (truth b).F u x) (_ : Later x y) : (truth b).F u y := hx
theorem truthS_of {P : Program} {f : FuncId} {args : Array Value} {w : World} {b : Bool} (h : Calls P f args w fun e w' => e = .returned (.bool b) ∧ w' = w) : Calls P f args w (fun e w'' => ∃ u, e = .returned u ∧ (truth b).V u ∧ (truth b).F u w'' ∧ Later w w'') :=
  h.mono fun _ _ ⟨he, hb⟩ => ⟨_, he, rfl, trivial, by rw [hb]; exact Below.refl _ _⟩
/- A value is moved. -/
theorem giv_move {P : Program} {ops : Array Oper} {C : World → Prop} {E : Oper → Act → Option GSpec} {R : World → World → Prop} {Q : Act → Known → Prop} {o : Oper} {rest : List Oper} {a : Act} {G : Known} (hs : E o a = none) (hw : Region.wanted o (yielded ops a.tmps) = true) (x : Operand) (ho : o.op = .move x) (v : Value) (hv : a.eval x = v)
    (k : wpGiv P ops C E R Q rest (a.put o.dst v) G) : wpGiv P ops C E R Q (o :: rest) a G := by
  refine giv_plain hs (fun K hK => ?_)
  rw [if_pos hw]
  refine ⟨v, fun w _ => ?_, hK _ k⟩
  unfold Oper.quietAt execOp
  simp [ho, hv, Oper.quietUpon]
end Go.Proofs.Ytjbfncjdedigdaa
/- Copiers in regions that draw their order: what is known of one in every later world, and copiers that a call answers. -/
namespace Go.Proofs.Ytjbfncjdedigdaa
open Go.ChangeShapes Go.WideShapes Go.ChangeAt Go.RowKit

def CpI (w : World) (g : Nat) (v : Value) (c : Cp) : Prop := StB w g 78 (cpA v c) ∧ Mine w 0 v c.ts
theorem CpI.below {w w' : World} {g : Nat} {v : Value} {c : Cp} (h : CpI w g v c) (b : Below w.heap.size w w') : CpI w' g v c := ⟨h.1.below b, h.2.below b⟩
theorem CpI.reads {w : World} {g : Nat} {v : Value} {c : Cp} (h : CpI w g v c) : Reads w v c.ts := h.2.reads
theorem CpI.new {w : World} {base : Nat} {v : Value} {c : Cp} (h : Mine w base v c.ts) : CpI (w.alloc (.cells (cpA v c) 78)) w.heap.size v c :=
  ⟨StB.new w _ _, (h.mono (Nat.zero_le _)).below ((Below.refl _ _).alloc (Nat.le_refl _) _)⟩
/- Another copier is written over. -/
theorem CpI.kept {w w' : World} {g k : Nat} {v : Value} {c : Cp} {ds : Array Value} (h : CpI w g v c) (hk : StB w k 78 ds) (G : w.grownBy w' (some k)) (hne : g ≠ k) : CpI w' g v c :=
  ⟨h.1.kept G (fun e => hne (Option.some.inj e)), h.2.putBy hk (by decide) G⟩
theorem CpI.cell {w : World} {g : Nat} {v : Value} {c : Cp} (h : CpI w g v c) (j : Nat) {x : Value} (e : (cpA v c)[j]? = some x) : w.cell? ⟨g, j, none⟩ = some x := h.1.cell j e
theorem CpI.at {w : World} {g : Nat} {a : Option Addr} {n cap : Nat} {c : Cp} (h : CpI w g (.slice a n cap) c) (j : Nat) (hj : j < n) : ∃ b off, a = some ⟨b, off, none⟩ ∧ n ≤ cap ∧ cap ≤ maxLen ∧ w.cell? ⟨b, off + j, none⟩ = some (.int .i64 (c.ts.getD j 0)) := by
  obtain ⟨-, h1, h2, h3⟩ := reads_cells h.2.reads
  obtain ⟨b, off, e, h4⟩ := h3 j hj
  exact ⟨b, off, e, h1, h2, h4⟩
/- A copier is answered. -/
def cpG (c : Cp) : GSpec :=
  ⟨fun u => ∃ ao ac, u = .agg #[.int .i64 c.tr, .bool c.op, .int .i64 c.di, .int .i64 c.wa, .slice ao c.ts.length ac],
   fun u x => ∀ n1 b n2 n3 v, u = .agg #[n1, b, n2, n3, v] → Mine x 0 v c.ts⟩
theorem cpG_later {c : Cp} {u : Value} {x y : World} (hx : (cpG c).F u x) (b : Later x y) : (cpG c).F u y := fun n1 b' n2 n3 v e => (hx n1 b' n2 n3 v e).below b
theorem cpG_of {P : Program} {f : FuncId} {args : Array Value} {w : World} {c : Cp} (hc : Calls P f args w fun e w' => ∃ u, e = .returned (.agg #[.int .i64 c.tr, .bool c.op, .int .i64 c.di, .int .i64 c.wa, u]) ∧ Own w' w.heap.size u c.ts ∧ Below w.heap.size w w') :
    Calls P f args w (fun e w'' => ∃ u, e = .returned u ∧ (cpG c).V u ∧ (cpG c).F u w'' ∧ Later w w'') := by
  refine hc.mono ?_
  rintro e w' ⟨u, rfl, o, bl⟩
  obtain ⟨ao, ac, rfl⟩ := reads_form o.reads
  exact ⟨_, rfl, ⟨ao, ac, rfl⟩, fun n1 b n2 n3 v e => by cases e; exact .inl (o.mono (Nat.zero_le _)), bl⟩
end Go.Proofs.Ytjbfncjdedigdaa
/- The walk of a region that draws its order and ends in a store of a whole struct, behind a structure. -/
namespace Go.Proofs.Ytjbfncjdedigdaa
open Go.ChangeShapes Go.WideShapes Go.ChangeAt Go.RowKit

theorem wp_region_gs_last {P : Program} {C : World → Prop} {E : Oper → Act → Option GSpec} {R : World → World → Prop} (hC : ∀ x y, C x → R x y → C y) (hE : ∀ o a s, E o a = some s → ∀ u x y, s.F u x → R x y → s.F u y)
    {id : Nat} {Q : Exit → Act → World → Prop} {a : Act} {w : World} {l : List Oper} (hA : ∀ o a dst v, (∀ d, dst = some d → d ∉ o.looksAt l.toArray) → E o (Act.put a dst v) = E o a) (hm : P.follows .mixedOrders = true) (hB : Region.lexB .any l.toArray = true) (hL : lastOpB l = true) (h1 : 1 ≤ l.length) (h0 : C w.drew)
    (h : GivS P l.toArray C E R (fun a' G => ∀ w', Has C G w' → wpOp P l.toArray Q (l.length - 1) (fun a'' w'' => Q .normal a'' w'') a' w') l.dropLast a []) : (Code.region id l.toArray true).wp P Q a w := wp_region_giv_last hC hE hA hm hB hL h1 h0 h.out
theorem last_putL {t : TypeId} {n : Nat} (hS : IsS t n) {ops : Array Oper} {i : Nat} {o : Oper} {a : Act} {w : World} {K : Act → World → Prop} {Q : Exit → Act → World → Prop} (hi : ops[i]? = some o) (hgd : o.guard = none) (x y : Operand) (ho : o.op = .store t x y)
    (g : Nat) (cs ds : Array Value) (hx : a.eval x = .pointer (some ⟨g, 0, none⟩)) (hy : a.eval y = .agg cs) (hn : cs.size = n) (hd : ds.size = n) (h1 : cs.all (·.oneCell') = true) (hr : StB w g t ds)
    (h : ∀ w', StB w' g t cs → w.grownBy w' (some g) → K (a.put o.dst undef) w') : wpOp Try.prog ops Q i K a w := by
  unfold wpOp
  rw [hi]
  dsimp only
  have hw : Region.wanted o (yielded ops a.tmps) = true := by simp [Region.wanted, hgd]
  rw [if_pos hw]
  refine .inl ?_
  have := step_putS (ops := ops) (Q := Q) (E := False) hS hgd x y ho g cs ds hx hy hn hd h1 hr h
  rw [if_pos hw] at this
  exact this
theorem cpG_ofM {P : Program} {f : FuncId} {args : Array Value} {w : World} {c : Cp} (hc : Calls P f args w fun e w' => ∃ u, e = .returned (.agg #[.int .i64 c.tr, .bool c.op, .int .i64 c.di, .int .i64 c.wa, u]) ∧ Mine w' w.heap.size u c.ts ∧ Below w.heap.size w w') :
    Calls P f args w (fun e w'' => ∃ u, e = .returned u ∧ (cpG c).V u ∧ (cpG c).F u w'' ∧ Later w w'') := by
  refine hc.mono ?_
  rintro e w' ⟨u, rfl, o, bl⟩
  obtain ⟨ao, ac, rfl⟩ := reads_form o.reads
  exact ⟨_, rfl, ⟨ao, ac, rfl⟩, fun n1 b n2 n3 v e => by cases e; exact o.mono (Nat.zero_le _), bl⟩
end Go.Proofs.Ytjbfncjdedigdaa
/- A struct is built in a region that draws its order. -/
namespace Go.Proofs.Ytjbfncjdedigdaa
open Go.ChangeShapes Go.WideShapes Go.ChangeAt Go.RowKit

theorem gs_build {ops : Array Oper} {C : World → Prop} {E : Oper → Act → Option GSpec} {R : World → World → Prop} {Q : Act → Known → Prop} {o : Oper} {rest : List Oper} {a : Act} {G : Known} (hs : E o a = none) (hg : o.guard = none) (t : TypeId) (fs : Array (Nat × Operand)) (ho : o.op = .build t fs) (cells : Array Value)
    (hc : Try.prog.built t (fs.map fun (i, x) => (i, a.eval x)).toList = some cells)
    (k : GivS Try.prog ops C E R Q rest (a.put o.dst (.agg cells)) G) : GivS Try.prog ops C E R Q (o :: rest) a G := by
  refine gs_plain hs (fun K hK => ?_)
  have hw : Region.wanted o (yielded ops a.tmps) = true := by simp [Region.wanted, hg]
  rw [if_pos hw]
  refine ⟨.agg cells, fun w _ => ?_, hK _ k⟩
  unfold Oper.quietAt execOp
  simp only [ho, Sem.run_bind, run_build w t _ cells hc, Result.andThen_ok]
  exact ⟨rfl, rfl⟩
end Go.Proofs.Ytjbfncjdedigdaa
/- How the laws take a store over, on: toStore, eqStore, markStore, heldStore. -/
namespace Go.Proofs.Ytjbfncjdedigdaa
open Go.ChangeShapes Go.WideShapes Go.ChangeAt Go.RowKit

/- What marks in three lists leave. -/
def Marked3 (w w' : World) (u v q : Value) : Prop := ∃ w1, Marked w w1 u v ∧ w1.grownBy w' q.ownBlock
end Go.Proofs.Ytjbfncjdedigdaa
/- Stores and disks that a call answers, in a region that draws its order. -/
namespace Go.Proofs.Ytjbfncjdedigdaa
open Go.ChangeShapes Go.WideShapes Go.ChangeAt Go.RowKit

/- A new variable is made. -/
def alG (n : Nat) (t : TypeId) (cs : Array Value) : GSpec := ⟨fun u => ∃ g, u = .pointer (some ⟨g, 0, none⟩), fun u x => ∀ g, u = .pointer (some ⟨g, 0, none⟩) → StB x g t cs ∧ n ≤ g⟩
theorem alG_later {n : Nat} {t : TypeId} {cs : Array Value} {u : Value} {x y : World} (hx : (alG n t cs).F u x) (b : Later x y) : (alG n t cs).F u y := fun g e => ⟨(hx g e).1.below b, (hx g e).2⟩
theorem alG_of {P : Program} {n : Nat} {t : TypeId} {cs : Array Value} {w : World} (hn : n ≤ w.heap.size) : givesUpon P Later (alG n t cs).V (alG n t cs).F w (.ok (.value (.pointer (some ⟨w.heap.size, 0, none⟩))) (w.alloc (.cells cs t))) :=
  ⟨⟨_, rfl⟩, fun g e => by cases e; exact ⟨StB.new _ _ _, hn⟩, (Below.refl _ _).alloc (Nat.le_refl _) _⟩

/- The last operation stores a whole struct. -/
theorem last_put {t : TypeId} {n : Nat} (hS : IsS t n) {ops : Array Oper} {i : Nat} {o : Oper} {a : Act} {w : World} {K : Act → World → Prop} {Q : Exit → Act → World → Prop} (hi : ops[i]? = some o) (hgd : o.guard = none) (x y : Operand) (ho : o.op = .store t x y)
    (g : Nat) (cs ds : Array Value) (hx : a.eval x = .pointer (some ⟨g, 0, none⟩)) (hy : a.eval y = .agg cs) (hn : cs.size = n) (hd : ds.size = n) (h1 : cs.all (·.oneCell') = true) (hr : StB w g t ds)
    (h : ∀ w', StB w' g t cs → w.grownBy w' (some g) → K (a.put o.dst undef) w') : wpOp Try.prog ops Q i K a w := by
  unfold wpOp
  rw [hi]
  dsimp only
  have hw : Region.wanted o (yielded ops a.tmps) = true := by simp [Region.wanted, hgd]
  rw [if_pos hw]
  refine .inl ?_
  have := step_putS (ops := ops) (Q := Q) (E := False) hS hgd x y ho g cs ds hx hy hn hd h1 hr h
  rw [if_pos hw] at this
  exact this

theorem bel_set {w wx : World} {j : Nat} {v : Value} (h : Below w.heap.size w wx) : Below w.heap.size w (wx.setCell ⟨w.heap.size, j, none⟩ v) := h.setCell (Nat.le_refl _) _
theorem truth_later {b : Bool} {u : Value} {x y : World} (hx : (truth b).F u x) (_ : Later x y) : (truth b).F u y := hx
end Go.Proofs.Ytjbfncjdedigdaa
/- What the laws draw of messages: l15DrawMsg. -/
namespace Go.Proofs.Ytjbfncjdedigdaa
open Go.ChangeShapes Go.WideShapes Go.ChangeAt Go.RowKit

/- The cursor stands; the house lies boxed, the answer's block holds the zero message, block k the message m, whose keys are the call's own. -/
structure DMg (w wx : World) (B c k : Nat) (nd : Array Value) (u : Value) (m : Mg) : Prop where
  cur : Cur wx B c
  gr : w.grownBy wx (some c)
  bx : StB wx w.heap.size 82 nd
  rs : StB wx (w.heap.size + 1) 35 zeroMg
  ms : StB wx k 35 (mgA u m)
  ky : Mine wx w.heap.size u m.h.ks
  bd : w.heap.size + 1 < k ∧ c < w.heap.size ∧ B ≤ w.heap.size
theorem grown_newM {w wx wy : World} {c g : Nat} (h : w.grownBy wx (some c)) (G : wx.grownBy wy (some g)) (hg : w.heap.size ≤ g) : w.grownBy wy (some c) :=
  ⟨G.os.trans h.os, G.tape.trans h.tape, G.output.trans h.output, Nat.le_trans h.size G.size, fun k hk hne => (G.block k (Nat.lt_of_lt_of_le hk h.size) (fun e => by have := Option.some.inj e; omega)).trans (h.block k hk hne)⟩
theorem DMg.draw {w wx wy : World} {B c k : Nat} {nd : Array Value} {u : Value} {m : Mg} (d : DMg w wx B c k nd u m) (C : Cur wy B c) (G : wx.grownBy wy (some c)) : DMg w wy B c k nd u m := by
  have h := d.bd
  exact ⟨C, d.gr.trans G, d.bx.kept G (fun e => by have := Option.some.inj e; omega), d.rs.kept G (fun e => by have := Option.some.inj e; omega), d.ms.kept G (fun e => by have := Option.some.inj e; omega), d.ky.keptLt G h.2.1, h⟩
theorem DMg.below {w wx wy : World} {B c k : Nat} {nd : Array Value} {u : Value} {m : Mg} (d : DMg w wx B c k nd u m) (b : Below wx.heap.size wx wy) : DMg w wy B c k nd u m :=
  ⟨d.cur.below b, d.gr.trans ⟨b.os, b.tape, b.output, b.size, fun x hx _ => b.block x hx⟩, d.bx.below b, d.rs.below b, d.ms.below b, d.ky.below b, d.bd⟩
theorem DMg.alloc {w wx : World} {B c k : Nat} {nd : Array Value} {u : Value} {m : Mg} (d : DMg w wx B c k nd u m) (o : Obj) : DMg w (wx.alloc o) B c k nd u m := d.below ((Below.refl _ _).alloc (Nat.le_refl _) _)
/- A cell of the message is set. -/
theorem DMg.put {w wx : World} {B c k : Nat} {nd : Array Value} {u : Value} {m : Mg} (d : DMg w wx B c k nd u m) (j : Nat) (x : Value) (q : Mg) (hk : q.h = m.h) (e : (mgA u m).setIfInBounds j x = mgA u q) : DMg w (wx.setCell ⟨k, j, none⟩ x) B c k nd u q := by
  have h := d.bd
  have G := grownSet wx k j x
  refine ⟨d.cur.kept G (fun e => by have := Option.some.inj e; omega) (fun y e => by cases e; omega), grown_newM d.gr G (by omega), d.bx.kept G (fun e => by have := Option.some.inj e; omega), d.rs.kept G (fun e => by have := Option.some.inj e; omega), d.ms.put j x e, ?_, h⟩
  rw [hk]; exact d.ky.putBy d.ms (by decide) G
/- Its holding is set. -/
theorem DMg.hold {w wx wy : World} {B c k : Nat} {nd : Array Value} {u v : Value} {m : Mg} {g : Hd} (d : DMg w wx B c k nd u m) (hv : Mine wx w.heap.size v g.ks) (s : StB wy k 35 (mgA v { m with h := g })) (G : wx.grownBy wy (some k)) : DMg w wy B c k nd v { m with h := g } := by
  have h := d.bd
  exact ⟨d.cur.kept G (fun e => by have := Option.some.inj e; omega) (fun y e => by cases e; omega), grown_newM d.gr G (by omega), d.bx.kept G (fun e => by have := Option.some.inj e; omega), d.rs.kept G (fun e => by have := Option.some.inj e; omega), s, hv.putBy d.ms (by decide) G, h⟩
theorem DMg.fin {w wx wy : World} {B c k : Nat} {nd : Array Value} {u : Value} {m : Mg} (d : DMg w wx B c k nd u m) (G : wx.grownBy wy (some (w.heap.size + 1))) : Mine wy w.heap.size u m.h.ks ∧ Cur wy B c ∧ w.grownBy wy (some c) := by
  have h := d.bd
  exact ⟨d.ky.putBy d.rs (by decide) G, d.cur.kept G (fun e => by have := Option.some.inj e; omega) (fun y e => by cases e; omega), grown_newM d.gr G (by omega)⟩

/- What changes while a cursor is drawn from in a region that draws its order. -/
def LaterC (B c : Nat) (x y : World) : Prop := (Cur x B c → Cur y B c) ∧ x.grownBy y (some c)
theorem LaterC.trans {B c : Nat} {x y z : World} (h : LaterC B c x y) (k : LaterC B c y z) : LaterC B c x z := ⟨fun q => k.1 (h.1 q), h.2.trans k.2⟩
theorem LaterC.of {B c : Nat} {x y : World} (b : Below x.heap.size x y) : LaterC B c x y := ⟨fun h => h.below b, ⟨b.os, b.tape, b.output, b.size, fun k hk _ => b.block k hk⟩⟩
/- A number that is drawn, below n. -/
def belG (n : Int) : GSpec := ⟨fun u => ∃ x, u = .int .i64 x ∧ 0 ≤ x ∧ x < n, fun _ _ => True⟩
theorem belG_of {B c : Nat} {n : Int} {w : World} (h : Cur w B c) (h0 : 0 < n) (h1 : n ≤ 4611686018427387904) : Calls Try.prog 49 #[.pointer (some ⟨c, 0, none⟩), .int .i64 n] w (fun e w'' => ∃ u, e = .returned u ∧ (belG n).V u ∧ (belG n).F u w'' ∧ LaterC B c w w'') := by
  refine (below_any B c n w h h1).mono ?_
  rintro e w' ⟨x, rfl, hx, hu, -, C, G⟩
  exact ⟨_, rfl, ⟨x, rfl, hx, hu h0⟩, trivial, fun _ => C, G⟩
/- A new variable. -/
theorem alG_laterC {B c n : Nat} {t : TypeId} {cs : Array Value} {u : Value} {x y : World} (hn : c < n) (hx : (alG n t cs).F u x) (b : LaterC B c x y) : (alG n t cs).F u y := fun g e => ⟨(hx g e).1.kept b.2 (fun e' => by have := (hx g e).2; have := Option.some.inj e'; omega), (hx g e).2⟩
theorem alG_ofC {P : Program} {B c n : Nat} {t : TypeId} {cs : Array Value} {w : World} (hn : n ≤ w.heap.size) : givesUpon P (LaterC B c) (alG n t cs).V (alG n t cs).F w (.ok (.value (.pointer (some ⟨w.heap.size, 0, none⟩))) (w.alloc (.cells cs t))) :=
  have h := alG_of (P := P) (t := t) (cs := cs) hn
  ⟨h.1, h.2.1, LaterC.of h.2.2⟩

theorem built_msg7 (x0 x1 x2 x3 x4 x5 x6 : Int) : Try.prog.built 35 [(0, .int .i64 x0), (1, .int .i64 x1), (2, .int .i64 x2), (3, .int .i64 x3), (4, .int .i64 x4), (5, .int .i64 x5), (6, .int .i64 x6)] = some #[.int .i64 x0, .int .i64 x1, .int .i64 x2, .int .i64 x3, .int .i64 x4, .int .i64 x5, .int .i64 x6, .slice none 0 0, .int .i64 0, .int .i64 0, .int .i64 0] := by kernel_rfl
end Go.Proofs.Ytjbfncjdedigdaa
