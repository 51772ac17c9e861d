/- Copiers in regions that draw their order: what is known of one in every later world, and copiers that a call answers. -/
import Derived.Test.YtelfpdjidppblaaGiv
import Derived.Test.YtelfpdjidppblaaSCop
import Derived.Test.YtelfpdjidppblaaRg
import Derived.Test.YtelfpdjidppblaaMine
namespace Go.Proofs.Ytelfpdjidppblaa
open Go.ChangeShapes Go.WideShapes Go.ChangeAt Go.RowKit

def CpI (w : World) (g : Nat) (v : Value) (c : Cp) : Prop := StB w g 26 (cpA v c) ∧ Mine w 0 v c.ts
theorem CpI.below {w w' : World} {g : Nat} {v : Value} {c : Cp} (h : CpI w g v c) (b : Below w.heap.size w w') : CpI w' g v c := ⟨h.1.below b, h.2.below b⟩
theorem CpI.reads {w : World} {g : Nat} {v : Value} {c : Cp} (h : CpI w g v c) : Reads w v c.ts := h.2.reads
theorem CpI.new {w : World} {base : Nat} {v : Value} {c : Cp} (h : Mine w base v c.ts) : CpI (w.alloc (.cells (cpA v c) 26)) w.heap.size v c :=
  ⟨StB.new w _ _, (h.mono (Nat.zero_le _)).below ((Below.refl _ _).alloc (Nat.le_refl _) _)⟩
/- Another copier is written over. -/
theorem CpI.kept {w w' : World} {g k : Nat} {v : Value} {c : Cp} {ds : Array Value} (h : CpI w g v c) (hk : StB w k 26 ds) (G : w.grownBy w' (some k)) (hne : g ≠ k) : CpI w' g v c :=
  ⟨h.1.kept G (fun e => hne (Option.some.inj e)), h.2.putBy hk (by decide) G⟩
theorem CpI.cell {w : World} {g : Nat} {v : Value} {c : Cp} (h : CpI w g v c) (j : Nat) {x : Value} (e : (cpA v c)[j]? = some x) : w.cell? ⟨g, j, none⟩ = some x := h.1.cell j e
theorem CpI.at {w : World} {g : Nat} {a : Option Addr} {n cap : Nat} {c : Cp} (h : CpI w g (.slice a n cap) c) (j : Nat) (hj : j < n) : ∃ b off, a = some ⟨b, off, none⟩ ∧ n ≤ cap ∧ cap ≤ maxLen ∧ w.cell? ⟨b, off + j, none⟩ = some (.int .i64 (c.ts.getD j 0)) := by
  obtain ⟨-, h1, h2, h3⟩ := reads_cells h.2.reads
  obtain ⟨b, off, e, h4⟩ := h3 j hj
  exact ⟨b, off, e, h1, h2, h4⟩
/- A copier is answered. -/
def cpG (c : Cp) : GSpec :=
  ⟨fun u => ∃ ao ac, u = .agg #[.int .i64 c.tr, .bool c.op, .int .i64 c.di, .int .i64 c.wa, .slice ao c.ts.length ac],
   fun u x => ∀ n1 b n2 n3 v, u = .agg #[n1, b, n2, n3, v] → Mine x 0 v c.ts⟩
theorem cpG_later {c : Cp} {u : Value} {x y : World} (hx : (cpG c).F u x) (b : Later x y) : (cpG c).F u y := fun n1 b' n2 n3 v e => (hx n1 b' n2 n3 v e).below b
theorem cpG_of {P : Program} {f : FuncId} {args : Array Value} {w : World} {c : Cp} (hc : Calls P f args w fun e w' => ∃ u, e = .returned (.agg #[.int .i64 c.tr, .bool c.op, .int .i64 c.di, .int .i64 c.wa, u]) ∧ Own w' w.heap.size u c.ts ∧ Below w.heap.size w w') :
    Calls P f args w (fun e w'' => ∃ u, e = .returned u ∧ (cpG c).V u ∧ (cpG c).F u w'' ∧ Later w w'') := by
  refine hc.mono ?_
  rintro e w' ⟨u, rfl, o, bl⟩
  obtain ⟨ao, ac, rfl⟩ := reads_form o.reads
  exact ⟨_, rfl, ⟨ao, ac, rfl⟩, fun n1 b n2 n3 v e => by cases e; exact .inl (o.mono (Nat.zero_le _)), bl⟩
/- A number is answered, and the world is as it was. -/
def numG (n : Int) : GSpec := ⟨fun u => u = .int .i64 n, fun _ _ => True⟩
theorem numG_later {n : Int} {u : Value} {x y : World} (hx : (numG n).F u x) (_ : Later x y) : (numG n).F u y := hx
theorem num_of {P : Program} {f : FuncId} {args : Array Value} {w : World} {n : Int} (h : Calls P f args w fun e w' => e = .returned (.int .i64 n) ∧ w' = w) : Calls P f args w (fun e w'' => ∃ u, e = .returned u ∧ (numG n).V u ∧ (numG n).F u w'' ∧ Later w w'') :=
  h.mono fun _ _ ⟨he, hb⟩ => ⟨_, he, rfl, trivial, by rw [hb]; exact Below.refl _ _⟩
theorem truthC_later {b : Bool} {u : Value} {x y : World} (hx : (truth b).F u x) (_ : Later x y) : (truth b).F u y := hx
theorem truthS_of {P : Program} {f : FuncId} {args : Array Value} {w : World} {b : Bool} (h : Calls P f args w fun e w' => e = .returned (.bool b) ∧ w' = w) : Calls P f args w (fun e w'' => ∃ u, e = .returned u ∧ (truth b).V u ∧ (truth b).F u w'' ∧ Later w w'') :=
  h.mono fun _ _ ⟨he, hb⟩ => ⟨_, he, rfl, trivial, by rw [hb]; exact Below.refl _ _⟩
/- A value is moved. -/
theorem giv_move {P : Program} {ops : Array Oper} {C : World → Prop} {E : Oper → Act → Option GSpec} {R : World → World → Prop} {Q : Act → Known → Prop} {o : Oper} {rest : List Oper} {a : Act} {G : Known} (hs : E o a = none) (hw : Region.wanted o (yielded ops a.tmps) = true) (x : Operand) (ho : o.op = .move x) (v : Value) (hv : a.eval x = v)
    (k : wpGiv P ops C E R Q rest (a.put o.dst v) G) : wpGiv P ops C E R Q (o :: rest) a G := by
  refine giv_plain hs (fun K hK => ?_)
  rw [if_pos hw]
  refine ⟨v, fun w _ => ?_, hK _ k⟩
  unfold Oper.quietAt execOp
  simp [ho, hv, Oper.quietUpon]
end Go.Proofs.Ytelfpdjidppblaa
