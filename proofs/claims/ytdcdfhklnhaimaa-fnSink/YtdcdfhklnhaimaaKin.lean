/- A region that draws its order, whose operations only read and whose callees read and may make memory of their own: walked once, in a class of worlds. -/
import Derived.Test.YtdcdfhklnhaimaaMem
import Derived.Deep.QuietTactic
namespace Go.Proofs.Ytdcdfhklnhaimaa
open Go.ChangeShapes Go.WideShapes Go.ChangeAt Go.RowKit

/- A world of the class p. -/
structure Kin (p : World → Prop) where
  x : World
  h : p x
theorem wp_region_kin (p : World → Prop) {id : Nat} {Q : Exit → Act → World → Prop} {a : Act} {w : World} {l : List Oper} (hm : Try.prog.follows .mixedOrders = true) (hB : Region.lexB .any l.toArray = true) (h0 : p w.drew)
    (h : wpQuiet Try.prog l.toArray (fun w' => ∃ q : Kin p, w' = q.x) (fun a' => ∀ w', (∃ q : Kin p, w' = q.x) → Q .normal a' w') l a) : (Code.region id l.toArray true).wp Try.prog Q a w :=
  wp_region_quiet (C := fun w' => ∃ q : Kin p, w' = q.x) hm hB ⟨⟨w.drew, h0⟩, rfl⟩ (by simpa using h)
/- A callee's contract, met in a world of the class. -/
theorem Kin.call {p : World → Prop} {q : Kin p} {fn : FuncId} {args : Array Value} {v : Value}
    (h : Calls Try.prog fn args q.x fun e w' => e = .returned v ∧ Below q.x.heap.size q.x w') (hb : ∀ x w', p x → Below x.heap.size x w' → p w') : Calls Try.prog fn args q.x fun e w'' => e = .returned v ∧ ∃ q : Kin p, w'' = q.x :=
  h.mono fun _ w' ⟨he, b⟩ => ⟨he, ⟨w', hb _ _ q.h b⟩, rfl⟩
theorem Kin.same {p : World → Prop} {q : Kin p} {fn : FuncId} {args : Array Value} {v : Value}
    (h : Calls Try.prog fn args q.x fun e w' => e = .returned v ∧ w' = q.x) : Calls Try.prog fn args q.x fun e w'' => e = .returned v ∧ ∃ q : Kin p, w'' = q.x :=
  h.mono fun _ _ ⟨he, b⟩ => ⟨he, q, b⟩
end Go.Proofs.Ytdcdfhklnhaimaa
