/-
  No cell of these rows narrows 'for every input' (looked for: loops, veiled, ifaces, maps, wideKeys, modest, calm, conditions, laid).
  DERIVED. THE GIVEN ROWS OF THIS SEAT. 5 by the template 'for every input the law returns true; each argument reads behind the call as it read before'; 0 by the template 'total and deterministic' (their statements: YtfhionlabjnngaaTotals.lean).
  GIVEN WITH THE SEED: the statements are not yours to turn. If you find one false, say at which input.
  Laid BY PROGRAM, IN A SANDBOX (cutbox-rows.mjs): the forced cells as the released guide's own fill.sh prints them over the translation 1998b7b8866e1c93… (all of the seat's roots in one cut). By AI agents, Wed Nov 11 2026. No macro, syntax, notation, axiom, sorry.
-/
import Derived.Test.YtfhionlabjnngaaChecked
import GoSem.Claim
import GoSem.ClaimJoined
import GoSem.ClaimMapViews
import Derived.JoinedTies
import Derived.KernelRfl
namespace Go.Proofs.Ytfhionlabjnngaa
/- THE CELL 'sum', in the pinned program and in every row, IS THE sha256 OF THE DUMP (.gsa) THAT YtfhionlabjnngaaProg.lean LOADS. Nothing in Lean hashes anything: it is a label: what it is worth is what the hold of that sum in a sandbox is worth. -/
noncomputable def Try.pinned : Pinned := { name := "ytfhionlabjnngaa", sum := "1998b7b8866e1c93f6fba1e4f64db49c1690af5f7be1b54b3a22406221f39f57", checked := Try.checked }
namespace Rows
def none {H : Type} : Left H := { results := [], args := [] }

/-- 'laws.FnAllowed': WHATEVER THE INPUT: true; the input reads as it did. -/
def fnAllowedSpec : ChangeSpec := { name := "fnAllowed", fn := fun _ => fun
  | [d] => { results := [.lit (.bool true)], args := [d] }
  | _ => none }
def fnAllowedRow : OpenClaim := { program := "ytfhionlabjnngaa", sum := "1998b7b8866e1c93f6fba1e4f64db49c1690af5f7be1b54b3a22406221f39f57", func := "loop.example/g00354/laws.FnAllowed", spec := "fnAllowed", plainKeys := false, apart := false }
def FnAllowedSaid : Prop := fnAllowedRow.holds Try.pinned (OpenSpec.ofChange fnAllowedSpec)

/-- ITS FALSE NEIGHBOUR: 'it returns false'. Refute it at one input. -/
def fnAllowedWrong : ChangeSpec := { name := "fnAllowed", fn := fun _ => fun
  | [d] => { results := [.lit (.bool false)], args := [d] }
  | _ => none }
def FnAllowedWrongFalsely : Prop := fnAllowedRow.holds Try.pinned (OpenSpec.ofChange fnAllowedWrong)

/-- 'laws.FnExactKindOk': WHATEVER THE INPUT: true; the input reads as it did. -/
def fnExactKindOkSpec : ChangeSpec := { name := "fnExactKindOk", fn := fun _ => fun
  | [d] => { results := [.lit (.bool true)], args := [d] }
  | _ => none }
def fnExactKindOkRow : OpenClaim := { program := "ytfhionlabjnngaa", sum := "1998b7b8866e1c93f6fba1e4f64db49c1690af5f7be1b54b3a22406221f39f57", func := "loop.example/g00354/laws.FnExactKindOk", spec := "fnExactKindOk", plainKeys := false, apart := false }
def FnExactKindOkSaid : Prop := fnExactKindOkRow.holds Try.pinned (OpenSpec.ofChange fnExactKindOkSpec)

/-- ITS FALSE NEIGHBOUR: 'it returns false'. Refute it at one input. -/
def fnExactKindOkWrong : ChangeSpec := { name := "fnExactKindOk", fn := fun _ => fun
  | [d] => { results := [.lit (.bool false)], args := [d] }
  | _ => none }
def FnExactKindOkWrongFalsely : Prop := fnExactKindOkRow.holds Try.pinned (OpenSpec.ofChange fnExactKindOkWrong)

/-- 'laws.FnExactBars': WHATEVER THE INPUT: true; the input reads as it did. -/
def fnExactBarsSpec : ChangeSpec := { name := "fnExactBars", fn := fun _ => fun
  | [d1, d2] => { results := [.lit (.bool true)], args := [d1, d2] }
  | _ => none }
def fnExactBarsRow : OpenClaim := { program := "ytfhionlabjnngaa", sum := "1998b7b8866e1c93f6fba1e4f64db49c1690af5f7be1b54b3a22406221f39f57", func := "loop.example/g00354/laws.FnExactBars", spec := "fnExactBars", plainKeys := false, apart := false }
def FnExactBarsSaid : Prop := fnExactBarsRow.holds Try.pinned (OpenSpec.ofChange fnExactBarsSpec)

/-- ITS FALSE NEIGHBOUR: 'it returns false'. Refute it at one input. -/
def fnExactBarsWrong : ChangeSpec := { name := "fnExactBars", fn := fun _ => fun
  | [d1, d2] => { results := [.lit (.bool false)], args := [d1, d2] }
  | _ => none }
def FnExactBarsWrongFalsely : Prop := fnExactBarsRow.holds Try.pinned (OpenSpec.ofChange fnExactBarsWrong)

/-- 'laws.FnExactForAll': WHATEVER THE INPUT: true; the input reads as it did. -/
def fnExactForAllSpec : ChangeSpec := { name := "fnExactForAll", fn := fun _ => fun
  | [d] => { results := [.lit (.bool true)], args := [d] }
  | _ => none }
def fnExactForAllRow : OpenClaim := { program := "ytfhionlabjnngaa", sum := "1998b7b8866e1c93f6fba1e4f64db49c1690af5f7be1b54b3a22406221f39f57", func := "loop.example/g00354/laws.FnExactForAll", spec := "fnExactForAll", plainKeys := false, apart := false }
def FnExactForAllSaid : Prop := fnExactForAllRow.holds Try.pinned (OpenSpec.ofChange fnExactForAllSpec)

/-- ITS FALSE NEIGHBOUR: 'it returns false'. Refute it at one input. -/
def fnExactForAllWrong : ChangeSpec := { name := "fnExactForAll", fn := fun _ => fun
  | [d] => { results := [.lit (.bool false)], args := [d] }
  | _ => none }
def FnExactForAllWrongFalsely : Prop := fnExactForAllRow.holds Try.pinned (OpenSpec.ofChange fnExactForAllWrong)

/-- 'laws.FnExactAllowed': WHATEVER THE INPUT: true; the input reads as it did. -/
def fnExactAllowedSpec : ChangeSpec := { name := "fnExactAllowed", fn := fun _ => fun
  | [d1, d2, d3, d4] => { results := [.lit (.bool true)], args := [d1, d2, d3, d4] }
  | _ => none }
def fnExactAllowedRow : OpenClaim := { program := "ytfhionlabjnngaa", sum := "1998b7b8866e1c93f6fba1e4f64db49c1690af5f7be1b54b3a22406221f39f57", func := "loop.example/g00354/laws.FnExactAllowed", spec := "fnExactAllowed", plainKeys := false, apart := false }
def FnExactAllowedSaid : Prop := fnExactAllowedRow.holds Try.pinned (OpenSpec.ofChange fnExactAllowedSpec)

/-- ITS FALSE NEIGHBOUR: 'it returns false'. Refute it at one input. -/
def fnExactAllowedWrong : ChangeSpec := { name := "fnExactAllowed", fn := fun _ => fun
  | [d1, d2, d3, d4] => { results := [.lit (.bool false)], args := [d1, d2, d3, d4] }
  | _ => none }
def FnExactAllowedWrongFalsely : Prop := fnExactAllowedRow.holds Try.pinned (OpenSpec.ofChange fnExactAllowedWrong)

/- THE SECOND FORM. 'bulk': how many values and letters a reading holds, each counted each time it is reached (what is shared counts as often as it is met; a slice's spare places count too). A statement '..UptoSaid' is the law's where the arguments, and the package variables that the reading takes, are together of bulk at most 1048576: NARROWER than '..Said'. Prove '..Said' where nothing that the law and all that it calls make is longer than what came in: it says more and counts as full. Else prove '..UptoSaid'. A law counts once. -/
mutual
def uptoBulk {H : Type} : DataW H → Nat
  | .lit (.string bytes) => bytes.length + 1
  | .lit _ => 1
  | .nil => 1
  | .ptr d => uptoBulk d + 1
  | .slice elems spare => uptoBulkAll elems + uptoBulkAll spare + 1
  | .agg parts => uptoBulkAll parts + 1
  | .iface _ d => uptoBulk d + 1
  | .map entries => uptoBulkEntries entries + 1
  | .held _ => 1
def uptoBulkAll {H : Type} : List (DataW H) → Nat
  | [] => 0
  | d :: r => uptoBulk d + uptoBulkAll r
def uptoBulkEntries {H : Type} : List (Lit × DataW H) → Nat
  | [] => 0
  | x :: r => uptoBulkEntry x + uptoBulkEntries r
def uptoBulkEntry {H : Type} : Lit × DataW H → Nat
  | (.string bytes, d) => bytes.length + uptoBulk d + 1
  | (_, d) => uptoBulk d + 1
 end
def uptoSmall : (H : Type) → List (DataW H) → Bool := fun _ ds => decide (uptoBulkAll ds ≤ 1048576)
def OpenSpec.upto (s : _root_.Go.ChangeSpec) : _root_.Go.OpenSpec := { _root_.Go.OpenSpec.ofChange s with cond := some uptoSmall }

/-- 'laws.FnAllowed', WHERE WHAT IT READS IS OF BULK AT MOST 1048576: true; the input reads as it did. -/
def fnAllowedUptoRow : OpenClaim := { program := "ytfhionlabjnngaa", sum := "1998b7b8866e1c93f6fba1e4f64db49c1690af5f7be1b54b3a22406221f39f57", func := "loop.example/g00354/laws.FnAllowed", spec := "fnAllowed", plainKeys := false, apart := false, narrowed := true }
def FnAllowedUptoSaid : Prop := fnAllowedUptoRow.holds Try.pinned (OpenSpec.upto fnAllowedSpec)

/-- 'laws.FnExactKindOk', WHERE WHAT IT READS IS OF BULK AT MOST 1048576: true; the input reads as it did. -/
def fnExactKindOkUptoRow : OpenClaim := { program := "ytfhionlabjnngaa", sum := "1998b7b8866e1c93f6fba1e4f64db49c1690af5f7be1b54b3a22406221f39f57", func := "loop.example/g00354/laws.FnExactKindOk", spec := "fnExactKindOk", plainKeys := false, apart := false, narrowed := true }
def FnExactKindOkUptoSaid : Prop := fnExactKindOkUptoRow.holds Try.pinned (OpenSpec.upto fnExactKindOkSpec)

/-- 'laws.FnExactBars', WHERE WHAT IT READS IS OF BULK AT MOST 1048576: true; the input reads as it did. -/
def fnExactBarsUptoRow : OpenClaim := { program := "ytfhionlabjnngaa", sum := "1998b7b8866e1c93f6fba1e4f64db49c1690af5f7be1b54b3a22406221f39f57", func := "loop.example/g00354/laws.FnExactBars", spec := "fnExactBars", plainKeys := false, apart := false, narrowed := true }
def FnExactBarsUptoSaid : Prop := fnExactBarsUptoRow.holds Try.pinned (OpenSpec.upto fnExactBarsSpec)

/-- 'laws.FnExactForAll', WHERE WHAT IT READS IS OF BULK AT MOST 1048576: true; the input reads as it did. -/
def fnExactForAllUptoRow : OpenClaim := { program := "ytfhionlabjnngaa", sum := "1998b7b8866e1c93f6fba1e4f64db49c1690af5f7be1b54b3a22406221f39f57", func := "loop.example/g00354/laws.FnExactForAll", spec := "fnExactForAll", plainKeys := false, apart := false, narrowed := true }
def FnExactForAllUptoSaid : Prop := fnExactForAllUptoRow.holds Try.pinned (OpenSpec.upto fnExactForAllSpec)

/-- 'laws.FnExactAllowed', WHERE WHAT IT READS IS OF BULK AT MOST 1048576: true; the input reads as it did. -/
def fnExactAllowedUptoRow : OpenClaim := { program := "ytfhionlabjnngaa", sum := "1998b7b8866e1c93f6fba1e4f64db49c1690af5f7be1b54b3a22406221f39f57", func := "loop.example/g00354/laws.FnExactAllowed", spec := "fnExactAllowed", plainKeys := false, apart := false, narrowed := true }
def FnExactAllowedUptoSaid : Prop := fnExactAllowedUptoRow.holds Try.pinned (OpenSpec.upto fnExactAllowedSpec)

end Rows
end Go.Proofs.Ytfhionlabjnngaa
