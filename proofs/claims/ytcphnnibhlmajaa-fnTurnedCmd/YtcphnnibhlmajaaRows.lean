/-
  No cell of these rows narrows 'for every input' (looked for: loops, veiled, ifaces, maps, wideKeys, modest, calm, conditions, laid).
  DERIVED. THE GIVEN ROWS OF THIS SEAT. 6 by the template 'for every input the law returns true; each argument reads behind the call as it read before'; 0 by the template 'total and deterministic' (their statements: YtcphnnibhlmajaaTotals.lean).
  GIVEN WITH THE SEED: the statements are not yours to turn. If you find one false, say at which input.
  Laid BY PROGRAM, IN A SANDBOX (cutbox-rows.mjs): the forced cells as the released guide's own fill.sh prints them over the translation 01d3c53cea5dbe34… (all of the seat's roots in one cut). By AI agents, Wed Nov 11 2026. No macro, syntax, notation, axiom, sorry.
-/
import Derived.Test.YtcphnnibhlmajaaChecked
import GoSem.Claim
import GoSem.ClaimJoined
import GoSem.ClaimMapViews
import Derived.JoinedTies
import Derived.KernelRfl
namespace Go.Proofs.Ytcphnnibhlmajaa
/- THE CELL 'sum', in the pinned program and in every row, IS THE sha256 OF THE DUMP (.gsa) THAT YtcphnnibhlmajaaProg.lean LOADS. Nothing in Lean hashes anything: it is a label: what it is worth is what the hold of that sum in a sandbox is worth. -/
noncomputable def Try.pinned : Pinned := { name := "ytcphnnibhlmajaa", sum := "01d3c53cea5dbe3434e1e8dc35289d5e9752ea763ca21a04e06cb1679b780367", checked := Try.checked }
namespace Rows
def none {H : Type} : Left H := { results := [], args := [] }

/-- 'laws.FnCmds': WHATEVER THE INPUT: true; the input reads as it did. -/
def fnCmdsSpec : ChangeSpec := { name := "fnCmds", fn := fun _ => fun
  | [d] => { results := [.lit (.bool true)], args := [d] }
  | _ => none }
def fnCmdsRow : OpenClaim := { program := "ytcphnnibhlmajaa", sum := "01d3c53cea5dbe3434e1e8dc35289d5e9752ea763ca21a04e06cb1679b780367", func := "loop.example/g00354/laws.FnCmds", spec := "fnCmds", apart := false }
def FnCmdsSaid : Prop := fnCmdsRow.holds Try.pinned (OpenSpec.ofChange fnCmdsSpec)

/-- ITS FALSE NEIGHBOUR: 'it returns false'. Refute it at one input. -/
def fnCmdsWrong : ChangeSpec := { name := "fnCmds", fn := fun _ => fun
  | [d] => { results := [.lit (.bool false)], args := [d] }
  | _ => none }
def FnCmdsWrongFalsely : Prop := fnCmdsRow.holds Try.pinned (OpenSpec.ofChange fnCmdsWrong)

/-- 'laws.FnTurnedCmd': WHATEVER THE INPUT: true; the input reads as it did. -/
def fnTurnedCmdSpec : ChangeSpec := { name := "fnTurnedCmd", fn := fun _ => fun
  | [d] => { results := [.lit (.bool true)], args := [d] }
  | _ => none }
def fnTurnedCmdRow : OpenClaim := { program := "ytcphnnibhlmajaa", sum := "01d3c53cea5dbe3434e1e8dc35289d5e9752ea763ca21a04e06cb1679b780367", func := "loop.example/g00354/laws.FnTurnedCmd", spec := "fnTurnedCmd", apart := false }
def FnTurnedCmdSaid : Prop := fnTurnedCmdRow.holds Try.pinned (OpenSpec.ofChange fnTurnedCmdSpec)

/-- ITS FALSE NEIGHBOUR: 'it returns false'. Refute it at one input. -/
def fnTurnedCmdWrong : ChangeSpec := { name := "fnTurnedCmd", fn := fun _ => fun
  | [d] => { results := [.lit (.bool false)], args := [d] }
  | _ => none }
def FnTurnedCmdWrongFalsely : Prop := fnTurnedCmdRow.holds Try.pinned (OpenSpec.ofChange fnTurnedCmdWrong)

/-- 'laws.FnExactCmdOk': WHATEVER THE INPUT: true; the input reads as it did. -/
def fnExactCmdOkSpec : ChangeSpec := { name := "fnExactCmdOk", fn := fun _ => fun
  | [d] => { results := [.lit (.bool true)], args := [d] }
  | _ => none }
def fnExactCmdOkRow : OpenClaim := { program := "ytcphnnibhlmajaa", sum := "01d3c53cea5dbe3434e1e8dc35289d5e9752ea763ca21a04e06cb1679b780367", func := "loop.example/g00354/laws.FnExactCmdOk", spec := "fnExactCmdOk", apart := false }
def FnExactCmdOkSaid : Prop := fnExactCmdOkRow.holds Try.pinned (OpenSpec.ofChange fnExactCmdOkSpec)

/-- ITS FALSE NEIGHBOUR: 'it returns false'. Refute it at one input. -/
def fnExactCmdOkWrong : ChangeSpec := { name := "fnExactCmdOk", fn := fun _ => fun
  | [d] => { results := [.lit (.bool false)], args := [d] }
  | _ => none }
def FnExactCmdOkWrongFalsely : Prop := fnExactCmdOkRow.holds Try.pinned (OpenSpec.ofChange fnExactCmdOkWrong)

/-- 'laws.FnExactShowCmd': WHATEVER THE INPUT: true; the input reads as it did. -/
def fnExactShowCmdSpec : ChangeSpec := { name := "fnExactShowCmd", fn := fun _ => fun
  | [d] => { results := [.lit (.bool true)], args := [d] }
  | _ => none }
def fnExactShowCmdRow : OpenClaim := { program := "ytcphnnibhlmajaa", sum := "01d3c53cea5dbe3434e1e8dc35289d5e9752ea763ca21a04e06cb1679b780367", func := "loop.example/g00354/laws.FnExactShowCmd", spec := "fnExactShowCmd", apart := false }
def FnExactShowCmdSaid : Prop := fnExactShowCmdRow.holds Try.pinned (OpenSpec.ofChange fnExactShowCmdSpec)

/-- ITS FALSE NEIGHBOUR: 'it returns false'. Refute it at one input. -/
def fnExactShowCmdWrong : ChangeSpec := { name := "fnExactShowCmd", fn := fun _ => fun
  | [d] => { results := [.lit (.bool false)], args := [d] }
  | _ => none }
def FnExactShowCmdWrongFalsely : Prop := fnExactShowCmdRow.holds Try.pinned (OpenSpec.ofChange fnExactShowCmdWrong)

/-- 'laws.FnExactReadCmd': WHATEVER THE INPUT: true; the input reads as it did. -/
def fnExactReadCmdSpec : ChangeSpec := { name := "fnExactReadCmd", fn := fun _ => fun
  | [d] => { results := [.lit (.bool true)], args := [d] }
  | _ => none }
def fnExactReadCmdRow : OpenClaim := { program := "ytcphnnibhlmajaa", sum := "01d3c53cea5dbe3434e1e8dc35289d5e9752ea763ca21a04e06cb1679b780367", func := "loop.example/g00354/laws.FnExactReadCmd", spec := "fnExactReadCmd", apart := false }
def FnExactReadCmdSaid : Prop := fnExactReadCmdRow.holds Try.pinned (OpenSpec.ofChange fnExactReadCmdSpec)

/-- ITS FALSE NEIGHBOUR: 'it returns false'. Refute it at one input. -/
def fnExactReadCmdWrong : ChangeSpec := { name := "fnExactReadCmd", fn := fun _ => fun
  | [d] => { results := [.lit (.bool false)], args := [d] }
  | _ => none }
def FnExactReadCmdWrongFalsely : Prop := fnExactReadCmdRow.holds Try.pinned (OpenSpec.ofChange fnExactReadCmdWrong)

/-- 'laws.FnExactChanges': WHATEVER THE INPUT: true; the input reads as it did. -/
def fnExactChangesSpec : ChangeSpec := { name := "fnExactChanges", fn := fun _ => fun
  | [d] => { results := [.lit (.bool true)], args := [d] }
  | _ => none }
def fnExactChangesRow : OpenClaim := { program := "ytcphnnibhlmajaa", sum := "01d3c53cea5dbe3434e1e8dc35289d5e9752ea763ca21a04e06cb1679b780367", func := "loop.example/g00354/laws.FnExactChanges", spec := "fnExactChanges", apart := false }
def FnExactChangesSaid : Prop := fnExactChangesRow.holds Try.pinned (OpenSpec.ofChange fnExactChangesSpec)

/-- ITS FALSE NEIGHBOUR: 'it returns false'. Refute it at one input. -/
def fnExactChangesWrong : ChangeSpec := { name := "fnExactChanges", fn := fun _ => fun
  | [d] => { results := [.lit (.bool false)], args := [d] }
  | _ => none }
def FnExactChangesWrongFalsely : Prop := fnExactChangesRow.holds Try.pinned (OpenSpec.ofChange fnExactChangesWrong)

/- THE SECOND FORM. 'bulk': how many values and letters a reading holds, each counted each time it is reached (what is shared counts as often as it is met; a slice's spare places count too). A statement '..UptoSaid' is the law's where the arguments, and the package variables that the reading takes, are together of bulk at most 1048576: NARROWER than '..Said'. Prove '..Said' where nothing that the law and all that it calls make is longer than what came in: it says more and counts as full. Else prove '..UptoSaid'. A law counts once. -/
mutual
def uptoBulk {H : Type} : DataW H → Nat
  | .lit (.string bytes) => bytes.length + 1
  | .lit _ => 1
  | .nil => 1
  | .ptr d => uptoBulk d + 1
  | .slice elems spare => uptoBulkAll elems + uptoBulkAll spare + 1
  | .agg parts => uptoBulkAll parts + 1
  | .iface _ d => uptoBulk d + 1
  | .map entries => uptoBulkEntries entries + 1
  | .held _ => 1
def uptoBulkAll {H : Type} : List (DataW H) → Nat
  | [] => 0
  | d :: r => uptoBulk d + uptoBulkAll r
def uptoBulkEntries {H : Type} : List (Lit × DataW H) → Nat
  | [] => 0
  | x :: r => uptoBulkEntry x + uptoBulkEntries r
def uptoBulkEntry {H : Type} : Lit × DataW H → Nat
  | (.string bytes, d) => bytes.length + uptoBulk d + 1
  | (_, d) => uptoBulk d + 1
 end
def uptoSmall : (H : Type) → List (DataW H) → Bool := fun _ ds => decide (uptoBulkAll ds ≤ 1048576)
def OpenSpec.upto (s : _root_.Go.ChangeSpec) : _root_.Go.OpenSpec := { _root_.Go.OpenSpec.ofChange s with cond := some uptoSmall }

/-- 'laws.FnCmds', WHERE WHAT IT READS IS OF BULK AT MOST 1048576: true; the input reads as it did. -/
def fnCmdsUptoRow : OpenClaim := { program := "ytcphnnibhlmajaa", sum := "01d3c53cea5dbe3434e1e8dc35289d5e9752ea763ca21a04e06cb1679b780367", func := "loop.example/g00354/laws.FnCmds", spec := "fnCmds", apart := false, narrowed := true }
def FnCmdsUptoSaid : Prop := fnCmdsUptoRow.holds Try.pinned (OpenSpec.upto fnCmdsSpec)

/-- 'laws.FnTurnedCmd', WHERE WHAT IT READS IS OF BULK AT MOST 1048576: true; the input reads as it did. -/
def fnTurnedCmdUptoRow : OpenClaim := { program := "ytcphnnibhlmajaa", sum := "01d3c53cea5dbe3434e1e8dc35289d5e9752ea763ca21a04e06cb1679b780367", func := "loop.example/g00354/laws.FnTurnedCmd", spec := "fnTurnedCmd", apart := false, narrowed := true }
def FnTurnedCmdUptoSaid : Prop := fnTurnedCmdUptoRow.holds Try.pinned (OpenSpec.upto fnTurnedCmdSpec)

/-- 'laws.FnExactCmdOk', WHERE WHAT IT READS IS OF BULK AT MOST 1048576: true; the input reads as it did. -/
def fnExactCmdOkUptoRow : OpenClaim := { program := "ytcphnnibhlmajaa", sum := "01d3c53cea5dbe3434e1e8dc35289d5e9752ea763ca21a04e06cb1679b780367", func := "loop.example/g00354/laws.FnExactCmdOk", spec := "fnExactCmdOk", apart := false, narrowed := true }
def FnExactCmdOkUptoSaid : Prop := fnExactCmdOkUptoRow.holds Try.pinned (OpenSpec.upto fnExactCmdOkSpec)

/-- 'laws.FnExactShowCmd', WHERE WHAT IT READS IS OF BULK AT MOST 1048576: true; the input reads as it did. -/
def fnExactShowCmdUptoRow : OpenClaim := { program := "ytcphnnibhlmajaa", sum := "01d3c53cea5dbe3434e1e8dc35289d5e9752ea763ca21a04e06cb1679b780367", func := "loop.example/g00354/laws.FnExactShowCmd", spec := "fnExactShowCmd", apart := false, narrowed := true }
def FnExactShowCmdUptoSaid : Prop := fnExactShowCmdUptoRow.holds Try.pinned (OpenSpec.upto fnExactShowCmdSpec)

/-- 'laws.FnExactReadCmd', WHERE WHAT IT READS IS OF BULK AT MOST 1048576: true; the input reads as it did. -/
def fnExactReadCmdUptoRow : OpenClaim := { program := "ytcphnnibhlmajaa", sum := "01d3c53cea5dbe3434e1e8dc35289d5e9752ea763ca21a04e06cb1679b780367", func := "loop.example/g00354/laws.FnExactReadCmd", spec := "fnExactReadCmd", apart := false, narrowed := true }
def FnExactReadCmdUptoSaid : Prop := fnExactReadCmdUptoRow.holds Try.pinned (OpenSpec.upto fnExactReadCmdSpec)

/-- 'laws.FnExactChanges', WHERE WHAT IT READS IS OF BULK AT MOST 1048576: true; the input reads as it did. -/
def fnExactChangesUptoRow : OpenClaim := { program := "ytcphnnibhlmajaa", sum := "01d3c53cea5dbe3434e1e8dc35289d5e9752ea763ca21a04e06cb1679b780367", func := "loop.example/g00354/laws.FnExactChanges", spec := "fnExactChanges", apart := false, narrowed := true }
def FnExactChangesUptoSaid : Prop := fnExactChangesUptoRow.holds Try.pinned (OpenSpec.upto fnExactChangesSpec)

end Rows
end Go.Proofs.Ytcphnnibhlmajaa
