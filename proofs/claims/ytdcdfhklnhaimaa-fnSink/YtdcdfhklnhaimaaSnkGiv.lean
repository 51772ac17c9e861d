/- Sinks in regions that draw their order: what is known of one in every later world. -/
import Derived.Test.YtdcdfhklnhaimaaGivS
import Derived.Test.YtdcdfhklnhaimaaGivN
import Derived.Test.YtdcdfhklnhaimaaSSink
import Derived.Test.YtdcdfhklnhaimaaMine
namespace Go.Proofs.Ytdcdfhklnhaimaa
open Go.ChangeShapes Go.WideShapes Go.ChangeAt Go.RowKit

def SnI (w : World) (g : Nat) (v : Value) (c : Sn) : Prop := StB w g 26 (snA v c) ∧ Mine w 0 v c.ts
theorem SnI.below {w w' : World} {g : Nat} {v : Value} {c : Sn} (h : SnI w g v c) (b : Below w.heap.size w w') : SnI w' g v c := ⟨h.1.below b, h.2.below b⟩
theorem SnI.reads {w : World} {g : Nat} {v : Value} {c : Sn} (h : SnI w g v c) : Reads w v c.ts := h.2.reads
theorem SnI.new {w : World} {base : Nat} {v : Value} {c : Sn} (h : Mine w base v c.ts) : SnI (w.alloc (.cells (snA v c) 26)) w.heap.size v c :=
  ⟨StB.new w _ _, (h.mono (Nat.zero_le _)).below ((Below.refl _ _).alloc (Nat.le_refl _) _)⟩
/- Another sink is written over. -/
theorem SnI.kept {w w' : World} {g k : Nat} {v : Value} {c : Sn} {ds : Array Value} (h : SnI w g v c) (hk : StB w k 26 ds) (G : w.grownBy w' (some k)) (hne : g ≠ k) : SnI w' g v c :=
  ⟨h.1.kept G (fun e => hne (Option.some.inj e)), h.2.putBy hk (by decide) G⟩
theorem SnI.cell {w : World} {g : Nat} {v : Value} {c : Sn} (h : SnI w g v c) (j : Nat) {x : Value} (e : (snA v c)[j]? = some x) : w.cell? ⟨g, j, none⟩ = some x := h.1.cell j e
theorem SnI.at {w : World} {g : Nat} {a : Option Addr} {n cap : Nat} {c : Sn} (h : SnI w g (.slice a n cap) c) (j : Nat) (hj : j < n) : ∃ b off, a = some ⟨b, off, none⟩ ∧ n ≤ cap ∧ cap ≤ maxLen ∧ w.cell? ⟨b, off + j, none⟩ = some (.int .i64 (c.ts.getD j 0)) := by
  obtain ⟨-, h1, h2, h3⟩ := reads_cells h.2.reads
  obtain ⟨b, off, e, h4⟩ := h3 j hj
  exact ⟨b, off, e, h1, h2, h4⟩
end Go.Proofs.Ytdcdfhklnhaimaa
