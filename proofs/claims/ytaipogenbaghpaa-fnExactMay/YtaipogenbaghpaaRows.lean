/-
  No cell of these rows narrows 'for every input' (looked for: loops, veiled, ifaces, maps, wideKeys, modest, calm, conditions, laid).
  DERIVED. THE GIVEN ROWS OF THIS SEAT. 6 by the template 'for every input the law returns true; each argument reads behind the call as it read before'; 0 by the template 'total and deterministic' (their statements: YtaipogenbaghpaaTotals.lean).
  GIVEN WITH THE SEED: the statements are not yours to turn. If you find one false, say at which input.
  Laid BY PROGRAM, IN A SANDBOX (cutbox-rows.mjs): the forced cells as the released guide's own fill.sh prints them over the translation 1ebc5b3fafb4d016… (all of the seat's roots in one cut). By AI agents, Wed Nov 11 2026. No macro, syntax, notation, axiom, sorry.
-/
import Derived.Test.YtaipogenbaghpaaChecked
import GoSem.Claim
import GoSem.ClaimJoined
import GoSem.ClaimMapViews
import Derived.JoinedTies
import Derived.KernelRfl
namespace Go.Proofs.Ytaipogenbaghpaa
/- THE CELL 'sum', in the pinned program and in every row, IS THE sha256 OF THE DUMP (.gsa) THAT YtaipogenbaghpaaProg.lean LOADS. Nothing in Lean hashes anything: it is a label: what it is worth is what the hold of that sum in a sandbox is worth. -/
noncomputable def Try.pinned : Pinned := { name := "ytaipogenbaghpaa", sum := "1ebc5b3fafb4d01605b02602082213bc3cca595deb3302ac9c02db09e7f9842e", checked := Try.checked }
namespace Rows
def none {H : Type} : Left H := { results := [], args := [] }

/-- 'laws.FnHolding': WHATEVER THE INPUT: true; the input reads as it did. -/
def fnHoldingSpec : ChangeSpec := { name := "fnHolding", fn := fun _ => fun
  | [d] => { results := [.lit (.bool true)], args := [d] }
  | _ => none }
def fnHoldingRow : OpenClaim := { program := "ytaipogenbaghpaa", sum := "1ebc5b3fafb4d01605b02602082213bc3cca595deb3302ac9c02db09e7f9842e", func := "loop.example/g00354/laws.FnHolding", spec := "fnHolding", plainKeys := false, apart := false }
def FnHoldingSaid : Prop := fnHoldingRow.holds Try.pinned (OpenSpec.ofChange fnHoldingSpec)

/-- ITS FALSE NEIGHBOUR: 'it returns false'. Refute it at one input. -/
def fnHoldingWrong : ChangeSpec := { name := "fnHolding", fn := fun _ => fun
  | [d] => { results := [.lit (.bool false)], args := [d] }
  | _ => none }
def FnHoldingWrongFalsely : Prop := fnHoldingRow.holds Try.pinned (OpenSpec.ofChange fnHoldingWrong)

/-- 'laws.FnExactHoldingOk': WHATEVER THE INPUT: true; the input reads as it did. -/
def fnExactHoldingOkSpec : ChangeSpec := { name := "fnExactHoldingOk", fn := fun _ => fun
  | [d] => { results := [.lit (.bool true)], args := [d] }
  | _ => none }
def fnExactHoldingOkRow : OpenClaim := { program := "ytaipogenbaghpaa", sum := "1ebc5b3fafb4d01605b02602082213bc3cca595deb3302ac9c02db09e7f9842e", func := "loop.example/g00354/laws.FnExactHoldingOk", spec := "fnExactHoldingOk", plainKeys := false, apart := false }
def FnExactHoldingOkSaid : Prop := fnExactHoldingOkRow.holds Try.pinned (OpenSpec.ofChange fnExactHoldingOkSpec)

/-- ITS FALSE NEIGHBOUR: 'it returns false'. Refute it at one input. -/
def fnExactHoldingOkWrong : ChangeSpec := { name := "fnExactHoldingOk", fn := fun _ => fun
  | [d] => { results := [.lit (.bool false)], args := [d] }
  | _ => none }
def FnExactHoldingOkWrongFalsely : Prop := fnExactHoldingOkRow.holds Try.pinned (OpenSpec.ofChange fnExactHoldingOkWrong)

/-- 'laws.FnExactNewHolding': WHATEVER THE INPUT: true; the input reads as it did. -/
def fnExactNewHoldingSpec : ChangeSpec := { name := "fnExactNewHolding", fn := fun _ => fun
  | [] => { results := [.lit (.bool true)], args := [] }
  | _ => none }
def fnExactNewHoldingRow : OpenClaim := { program := "ytaipogenbaghpaa", sum := "1ebc5b3fafb4d01605b02602082213bc3cca595deb3302ac9c02db09e7f9842e", func := "loop.example/g00354/laws.FnExactNewHolding", spec := "fnExactNewHolding", plainKeys := false, apart := false }
def FnExactNewHoldingSaid : Prop := fnExactNewHoldingRow.holds Try.pinned (OpenSpec.ofChange fnExactNewHoldingSpec)

/-- ITS FALSE NEIGHBOUR: 'it returns false'. Refute it at one input. -/
def fnExactNewHoldingWrong : ChangeSpec := { name := "fnExactNewHolding", fn := fun _ => fun
  | [] => { results := [.lit (.bool false)], args := [] }
  | _ => none }
def FnExactNewHoldingWrongFalsely : Prop := fnExactNewHoldingRow.holds Try.pinned (OpenSpec.ofChange fnExactNewHoldingWrong)

/-- 'laws.FnExactRegistered': WHATEVER THE INPUT: true; the input reads as it did. -/
def fnExactRegisteredSpec : ChangeSpec := { name := "fnExactRegistered", fn := fun _ => fun
  | [d1, d2] => { results := [.lit (.bool true)], args := [d1, d2] }
  | _ => none }
def fnExactRegisteredRow : OpenClaim := { program := "ytaipogenbaghpaa", sum := "1ebc5b3fafb4d01605b02602082213bc3cca595deb3302ac9c02db09e7f9842e", func := "loop.example/g00354/laws.FnExactRegistered", spec := "fnExactRegistered", plainKeys := false, apart := false }
def FnExactRegisteredSaid : Prop := fnExactRegisteredRow.holds Try.pinned (OpenSpec.ofChange fnExactRegisteredSpec)

/-- ITS FALSE NEIGHBOUR: 'it returns false'. Refute it at one input. -/
def fnExactRegisteredWrong : ChangeSpec := { name := "fnExactRegistered", fn := fun _ => fun
  | [d1, d2] => { results := [.lit (.bool false)], args := [d1, d2] }
  | _ => none }
def FnExactRegisteredWrongFalsely : Prop := fnExactRegisteredRow.holds Try.pinned (OpenSpec.ofChange fnExactRegisteredWrong)

/-- 'laws.FnExactHolds': WHATEVER THE INPUT: true; the input reads as it did. -/
def fnExactHoldsSpec : ChangeSpec := { name := "fnExactHolds", fn := fun _ => fun
  | [d1, d2] => { results := [.lit (.bool true)], args := [d1, d2] }
  | _ => none }
def fnExactHoldsRow : OpenClaim := { program := "ytaipogenbaghpaa", sum := "1ebc5b3fafb4d01605b02602082213bc3cca595deb3302ac9c02db09e7f9842e", func := "loop.example/g00354/laws.FnExactHolds", spec := "fnExactHolds", plainKeys := false, apart := false }
def FnExactHoldsSaid : Prop := fnExactHoldsRow.holds Try.pinned (OpenSpec.ofChange fnExactHoldsSpec)

/-- ITS FALSE NEIGHBOUR: 'it returns false'. Refute it at one input. -/
def fnExactHoldsWrong : ChangeSpec := { name := "fnExactHolds", fn := fun _ => fun
  | [d1, d2] => { results := [.lit (.bool false)], args := [d1, d2] }
  | _ => none }
def FnExactHoldsWrongFalsely : Prop := fnExactHoldsRow.holds Try.pinned (OpenSpec.ofChange fnExactHoldsWrong)

/-- 'laws.FnExactMay': WHATEVER THE INPUT: true; the input reads as it did. -/
def fnExactMaySpec : ChangeSpec := { name := "fnExactMay", fn := fun _ => fun
  | [d1, d2, d3] => { results := [.lit (.bool true)], args := [d1, d2, d3] }
  | _ => none }
def fnExactMayRow : OpenClaim := { program := "ytaipogenbaghpaa", sum := "1ebc5b3fafb4d01605b02602082213bc3cca595deb3302ac9c02db09e7f9842e", func := "loop.example/g00354/laws.FnExactMay", spec := "fnExactMay", plainKeys := false, apart := false }
def FnExactMaySaid : Prop := fnExactMayRow.holds Try.pinned (OpenSpec.ofChange fnExactMaySpec)

/-- ITS FALSE NEIGHBOUR: 'it returns false'. Refute it at one input. -/
def fnExactMayWrong : ChangeSpec := { name := "fnExactMay", fn := fun _ => fun
  | [d1, d2, d3] => { results := [.lit (.bool false)], args := [d1, d2, d3] }
  | _ => none }
def FnExactMayWrongFalsely : Prop := fnExactMayRow.holds Try.pinned (OpenSpec.ofChange fnExactMayWrong)

/- THE SECOND FORM. 'bulk': how many values and letters a reading holds, each counted each time it is reached (what is shared counts as often as it is met; a slice's spare places count too). A statement '..UptoSaid' is the law's where the arguments, and the package variables that the reading takes, are together of bulk at most 1048576: NARROWER than '..Said'. Prove '..Said' where nothing that the law and all that it calls make is longer than what came in: it says more and counts as full. Else prove '..UptoSaid'. A law counts once. -/
mutual
def uptoBulk {H : Type} : DataW H → Nat
  | .lit (.string bytes) => bytes.length + 1
  | .lit _ => 1
  | .nil => 1
  | .ptr d => uptoBulk d + 1
  | .slice elems spare => uptoBulkAll elems + uptoBulkAll spare + 1
  | .agg parts => uptoBulkAll parts + 1
  | .iface _ d => uptoBulk d + 1
  | .map entries => uptoBulkEntries entries + 1
  | .held _ => 1
def uptoBulkAll {H : Type} : List (DataW H) → Nat
  | [] => 0
  | d :: r => uptoBulk d + uptoBulkAll r
def uptoBulkEntries {H : Type} : List (Lit × DataW H) → Nat
  | [] => 0
  | x :: r => uptoBulkEntry x + uptoBulkEntries r
def uptoBulkEntry {H : Type} : Lit × DataW H → Nat
  | (.string bytes, d) => bytes.length + uptoBulk d + 1
  | (_, d) => uptoBulk d + 1
 end
def uptoSmall : (H : Type) → List (DataW H) → Bool := fun _ ds => decide (uptoBulkAll ds ≤ 1048576)
def OpenSpec.upto (s : _root_.Go.ChangeSpec) : _root_.Go.OpenSpec := { _root_.Go.OpenSpec.ofChange s with cond := some uptoSmall }

/-- 'laws.FnHolding', WHERE WHAT IT READS IS OF BULK AT MOST 1048576: true; the input reads as it did. -/
def fnHoldingUptoRow : OpenClaim := { program := "ytaipogenbaghpaa", sum := "1ebc5b3fafb4d01605b02602082213bc3cca595deb3302ac9c02db09e7f9842e", func := "loop.example/g00354/laws.FnHolding", spec := "fnHolding", plainKeys := false, apart := false, narrowed := true }
def FnHoldingUptoSaid : Prop := fnHoldingUptoRow.holds Try.pinned (OpenSpec.upto fnHoldingSpec)

/-- 'laws.FnExactHoldingOk', WHERE WHAT IT READS IS OF BULK AT MOST 1048576: true; the input reads as it did. -/
def fnExactHoldingOkUptoRow : OpenClaim := { program := "ytaipogenbaghpaa", sum := "1ebc5b3fafb4d01605b02602082213bc3cca595deb3302ac9c02db09e7f9842e", func := "loop.example/g00354/laws.FnExactHoldingOk", spec := "fnExactHoldingOk", plainKeys := false, apart := false, narrowed := true }
def FnExactHoldingOkUptoSaid : Prop := fnExactHoldingOkUptoRow.holds Try.pinned (OpenSpec.upto fnExactHoldingOkSpec)

/-- 'laws.FnExactNewHolding', WHERE WHAT IT READS IS OF BULK AT MOST 1048576: true; the input reads as it did. -/
def fnExactNewHoldingUptoRow : OpenClaim := { program := "ytaipogenbaghpaa", sum := "1ebc5b3fafb4d01605b02602082213bc3cca595deb3302ac9c02db09e7f9842e", func := "loop.example/g00354/laws.FnExactNewHolding", spec := "fnExactNewHolding", plainKeys := false, apart := false, narrowed := true }
def FnExactNewHoldingUptoSaid : Prop := fnExactNewHoldingUptoRow.holds Try.pinned (OpenSpec.upto fnExactNewHoldingSpec)

/-- 'laws.FnExactRegistered', WHERE WHAT IT READS IS OF BULK AT MOST 1048576: true; the input reads as it did. -/
def fnExactRegisteredUptoRow : OpenClaim := { program := "ytaipogenbaghpaa", sum := "1ebc5b3fafb4d01605b02602082213bc3cca595deb3302ac9c02db09e7f9842e", func := "loop.example/g00354/laws.FnExactRegistered", spec := "fnExactRegistered", plainKeys := false, apart := false, narrowed := true }
def FnExactRegisteredUptoSaid : Prop := fnExactRegisteredUptoRow.holds Try.pinned (OpenSpec.upto fnExactRegisteredSpec)

/-- 'laws.FnExactHolds', WHERE WHAT IT READS IS OF BULK AT MOST 1048576: true; the input reads as it did. -/
def fnExactHoldsUptoRow : OpenClaim := { program := "ytaipogenbaghpaa", sum := "1ebc5b3fafb4d01605b02602082213bc3cca595deb3302ac9c02db09e7f9842e", func := "loop.example/g00354/laws.FnExactHolds", spec := "fnExactHolds", plainKeys := false, apart := false, narrowed := true }
def FnExactHoldsUptoSaid : Prop := fnExactHoldsUptoRow.holds Try.pinned (OpenSpec.upto fnExactHoldsSpec)

/-- 'laws.FnExactMay', WHERE WHAT IT READS IS OF BULK AT MOST 1048576: true; the input reads as it did. -/
def fnExactMayUptoRow : OpenClaim := { program := "ytaipogenbaghpaa", sum := "1ebc5b3fafb4d01605b02602082213bc3cca595deb3302ac9c02db09e7f9842e", func := "loop.example/g00354/laws.FnExactMay", spec := "fnExactMay", plainKeys := false, apart := false, narrowed := true }
def FnExactMayUptoSaid : Prop := fnExactMayUptoRow.holds Try.pinned (OpenSpec.upto fnExactMaySpec)

end Rows
end Go.Proofs.Ytaipogenbaghpaa
