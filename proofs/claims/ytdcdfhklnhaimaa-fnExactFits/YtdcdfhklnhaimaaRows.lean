/-
  No cell of these rows narrows 'for every input' (looked for: loops, veiled, ifaces, maps, wideKeys, modest, calm, conditions, laid).
  DERIVED. THE GIVEN ROWS OF THIS SEAT. 5 by the template 'for every input the law returns true; each argument reads behind the call as it read before'; 0 by the template 'total and deterministic' (their statements: YtdcdfhklnhaimaaTotals.lean).
  GIVEN WITH THE SEED: the statements are not yours to turn. If you find one false, say at which input.
  Laid BY PROGRAM, IN A SANDBOX (cutbox-rows.mjs): the forced cells as the released guide's own fill.sh prints them over the translation 7706a02136864dc5… (all of the seat's roots in one cut). By AI agents, Wed Nov 11 2026. No macro, syntax, notation, axiom, sorry.
-/
import Derived.Test.YtdcdfhklnhaimaaChecked
import GoSem.Claim
import GoSem.ClaimJoined
import GoSem.ClaimMapViews
import Derived.JoinedTies
import Derived.KernelRfl
namespace Go.Proofs.Ytdcdfhklnhaimaa
/- THE CELL 'sum', in the pinned program and in every row, IS THE sha256 OF THE DUMP (.gsa) THAT YtdcdfhklnhaimaaProg.lean LOADS. Nothing in Lean hashes anything: it is a label: what it is worth is what the hold of that sum in a sandbox is worth. -/
noncomputable def Try.pinned : Pinned := { name := "ytdcdfhklnhaimaa", sum := "7706a02136864dc5d880093de30ce2d712f7cb3a38b55db367d6778b333c2b96", checked := Try.checked }
namespace Rows
def none {H : Type} : Left H := { results := [], args := [] }

/-- 'laws.FnSink': WHATEVER THE INPUT: true; the input reads as it did. -/
def fnSinkSpec : ChangeSpec := { name := "fnSink", fn := fun _ => fun
  | [d] => { results := [.lit (.bool true)], args := [d] }
  | _ => none }
def fnSinkRow : OpenClaim := { program := "ytdcdfhklnhaimaa", sum := "7706a02136864dc5d880093de30ce2d712f7cb3a38b55db367d6778b333c2b96", func := "loop.example/g00354/laws.FnSink", spec := "fnSink", apart := false }
def FnSinkSaid : Prop := fnSinkRow.holds Try.pinned (OpenSpec.ofChange fnSinkSpec)

/-- ITS FALSE NEIGHBOUR: 'it returns false'. Refute it at one input. -/
def fnSinkWrong : ChangeSpec := { name := "fnSink", fn := fun _ => fun
  | [d] => { results := [.lit (.bool false)], args := [d] }
  | _ => none }
def FnSinkWrongFalsely : Prop := fnSinkRow.holds Try.pinned (OpenSpec.ofChange fnSinkWrong)

/-- 'laws.FnExactSinkOk': WHATEVER THE INPUT: true; the input reads as it did. -/
def fnExactSinkOkSpec : ChangeSpec := { name := "fnExactSinkOk", fn := fun _ => fun
  | [d] => { results := [.lit (.bool true)], args := [d] }
  | _ => none }
def fnExactSinkOkRow : OpenClaim := { program := "ytdcdfhklnhaimaa", sum := "7706a02136864dc5d880093de30ce2d712f7cb3a38b55db367d6778b333c2b96", func := "loop.example/g00354/laws.FnExactSinkOk", spec := "fnExactSinkOk", apart := false }
def FnExactSinkOkSaid : Prop := fnExactSinkOkRow.holds Try.pinned (OpenSpec.ofChange fnExactSinkOkSpec)

/-- ITS FALSE NEIGHBOUR: 'it returns false'. Refute it at one input. -/
def fnExactSinkOkWrong : ChangeSpec := { name := "fnExactSinkOk", fn := fun _ => fun
  | [d] => { results := [.lit (.bool false)], args := [d] }
  | _ => none }
def FnExactSinkOkWrongFalsely : Prop := fnExactSinkOkRow.holds Try.pinned (OpenSpec.ofChange fnExactSinkOkWrong)

/-- 'laws.FnExactNewSink': WHATEVER THE INPUT: true; the input reads as it did. -/
def fnExactNewSinkSpec : ChangeSpec := { name := "fnExactNewSink", fn := fun _ => fun
  | [d1, d2] => { results := [.lit (.bool true)], args := [d1, d2] }
  | _ => none }
def fnExactNewSinkRow : OpenClaim := { program := "ytdcdfhklnhaimaa", sum := "7706a02136864dc5d880093de30ce2d712f7cb3a38b55db367d6778b333c2b96", func := "loop.example/g00354/laws.FnExactNewSink", spec := "fnExactNewSink", apart := false }
def FnExactNewSinkSaid : Prop := fnExactNewSinkRow.holds Try.pinned (OpenSpec.ofChange fnExactNewSinkSpec)

/-- ITS FALSE NEIGHBOUR: 'it returns false'. Refute it at one input. -/
def fnExactNewSinkWrong : ChangeSpec := { name := "fnExactNewSink", fn := fun _ => fun
  | [d1, d2] => { results := [.lit (.bool false)], args := [d1, d2] }
  | _ => none }
def FnExactNewSinkWrongFalsely : Prop := fnExactNewSinkRow.holds Try.pinned (OpenSpec.ofChange fnExactNewSinkWrong)

/-- 'laws.FnExactFits': WHATEVER THE INPUT: true; the input reads as it did. -/
def fnExactFitsSpec : ChangeSpec := { name := "fnExactFits", fn := fun _ => fun
  | [d1, d2, d3, d4] => { results := [.lit (.bool true)], args := [d1, d2, d3, d4] }
  | _ => none }
def fnExactFitsRow : OpenClaim := { program := "ytdcdfhklnhaimaa", sum := "7706a02136864dc5d880093de30ce2d712f7cb3a38b55db367d6778b333c2b96", func := "loop.example/g00354/laws.FnExactFits", spec := "fnExactFits", apart := false }
def FnExactFitsSaid : Prop := fnExactFitsRow.holds Try.pinned (OpenSpec.ofChange fnExactFitsSpec)

/-- ITS FALSE NEIGHBOUR: 'it returns false'. Refute it at one input. -/
def fnExactFitsWrong : ChangeSpec := { name := "fnExactFits", fn := fun _ => fun
  | [d1, d2, d3, d4] => { results := [.lit (.bool false)], args := [d1, d2, d3, d4] }
  | _ => none }
def FnExactFitsWrongFalsely : Prop := fnExactFitsRow.holds Try.pinned (OpenSpec.ofChange fnExactFitsWrong)

/-- 'laws.FnExactReceived': WHATEVER THE INPUT: true; the input reads as it did. -/
def fnExactReceivedSpec : ChangeSpec := { name := "fnExactReceived", fn := fun _ => fun
  | [d1, d2, d3, d4] => { results := [.lit (.bool true)], args := [d1, d2, d3, d4] }
  | _ => none }
def fnExactReceivedRow : OpenClaim := { program := "ytdcdfhklnhaimaa", sum := "7706a02136864dc5d880093de30ce2d712f7cb3a38b55db367d6778b333c2b96", func := "loop.example/g00354/laws.FnExactReceived", spec := "fnExactReceived", apart := false }
def FnExactReceivedSaid : Prop := fnExactReceivedRow.holds Try.pinned (OpenSpec.ofChange fnExactReceivedSpec)

/-- ITS FALSE NEIGHBOUR: 'it returns false'. Refute it at one input. -/
def fnExactReceivedWrong : ChangeSpec := { name := "fnExactReceived", fn := fun _ => fun
  | [d1, d2, d3, d4] => { results := [.lit (.bool false)], args := [d1, d2, d3, d4] }
  | _ => none }
def FnExactReceivedWrongFalsely : Prop := fnExactReceivedRow.holds Try.pinned (OpenSpec.ofChange fnExactReceivedWrong)

/- THE SECOND FORM. 'bulk': how many values and letters a reading holds, each counted each time it is reached (what is shared counts as often as it is met; a slice's spare places count too). A statement '..UptoSaid' is the law's where the arguments, and the package variables that the reading takes, are together of bulk at most 1048576: NARROWER than '..Said'. Prove '..Said' where nothing that the law and all that it calls make is longer than what came in: it says more and counts as full. Else prove '..UptoSaid'. A law counts once. -/
mutual
def uptoBulk {H : Type} : DataW H → Nat
  | .lit (.string bytes) => bytes.length + 1
  | .lit _ => 1
  | .nil => 1
  | .ptr d => uptoBulk d + 1
  | .slice elems spare => uptoBulkAll elems + uptoBulkAll spare + 1
  | .agg parts => uptoBulkAll parts + 1
  | .iface _ d => uptoBulk d + 1
  | .map entries => uptoBulkEntries entries + 1
  | .held _ => 1
def uptoBulkAll {H : Type} : List (DataW H) → Nat
  | [] => 0
  | d :: r => uptoBulk d + uptoBulkAll r
def uptoBulkEntries {H : Type} : List (Lit × DataW H) → Nat
  | [] => 0
  | x :: r => uptoBulkEntry x + uptoBulkEntries r
def uptoBulkEntry {H : Type} : Lit × DataW H → Nat
  | (.string bytes, d) => bytes.length + uptoBulk d + 1
  | (_, d) => uptoBulk d + 1
 end
def uptoSmall : (H : Type) → List (DataW H) → Bool := fun _ ds => decide (uptoBulkAll ds ≤ 1048576)
def OpenSpec.upto (s : _root_.Go.ChangeSpec) : _root_.Go.OpenSpec := { _root_.Go.OpenSpec.ofChange s with cond := some uptoSmall }

/-- 'laws.FnSink', WHERE WHAT IT READS IS OF BULK AT MOST 1048576: true; the input reads as it did. -/
def fnSinkUptoRow : OpenClaim := { program := "ytdcdfhklnhaimaa", sum := "7706a02136864dc5d880093de30ce2d712f7cb3a38b55db367d6778b333c2b96", func := "loop.example/g00354/laws.FnSink", spec := "fnSink", apart := false, narrowed := true }
def FnSinkUptoSaid : Prop := fnSinkUptoRow.holds Try.pinned (OpenSpec.upto fnSinkSpec)

/-- 'laws.FnExactSinkOk', WHERE WHAT IT READS IS OF BULK AT MOST 1048576: true; the input reads as it did. -/
def fnExactSinkOkUptoRow : OpenClaim := { program := "ytdcdfhklnhaimaa", sum := "7706a02136864dc5d880093de30ce2d712f7cb3a38b55db367d6778b333c2b96", func := "loop.example/g00354/laws.FnExactSinkOk", spec := "fnExactSinkOk", apart := false, narrowed := true }
def FnExactSinkOkUptoSaid : Prop := fnExactSinkOkUptoRow.holds Try.pinned (OpenSpec.upto fnExactSinkOkSpec)

/-- 'laws.FnExactNewSink', WHERE WHAT IT READS IS OF BULK AT MOST 1048576: true; the input reads as it did. -/
def fnExactNewSinkUptoRow : OpenClaim := { program := "ytdcdfhklnhaimaa", sum := "7706a02136864dc5d880093de30ce2d712f7cb3a38b55db367d6778b333c2b96", func := "loop.example/g00354/laws.FnExactNewSink", spec := "fnExactNewSink", apart := false, narrowed := true }
def FnExactNewSinkUptoSaid : Prop := fnExactNewSinkUptoRow.holds Try.pinned (OpenSpec.upto fnExactNewSinkSpec)

/-- 'laws.FnExactFits', WHERE WHAT IT READS IS OF BULK AT MOST 1048576: true; the input reads as it did. -/
def fnExactFitsUptoRow : OpenClaim := { program := "ytdcdfhklnhaimaa", sum := "7706a02136864dc5d880093de30ce2d712f7cb3a38b55db367d6778b333c2b96", func := "loop.example/g00354/laws.FnExactFits", spec := "fnExactFits", apart := false, narrowed := true }
def FnExactFitsUptoSaid : Prop := fnExactFitsUptoRow.holds Try.pinned (OpenSpec.upto fnExactFitsSpec)

/-- 'laws.FnExactReceived', WHERE WHAT IT READS IS OF BULK AT MOST 1048576: true; the input reads as it did. -/
def fnExactReceivedUptoRow : OpenClaim := { program := "ytdcdfhklnhaimaa", sum := "7706a02136864dc5d880093de30ce2d712f7cb3a38b55db367d6778b333c2b96", func := "loop.example/g00354/laws.FnExactReceived", spec := "fnExactReceived", apart := false, narrowed := true }
def FnExactReceivedUptoSaid : Prop := fnExactReceivedUptoRow.holds Try.pinned (OpenSpec.upto fnExactReceivedSpec)

end Rows
end Go.Proofs.Ytdcdfhklnhaimaa
