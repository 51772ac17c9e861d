/-
  No cell of these rows narrows 'for every input' (looked for: loops, veiled, ifaces, maps, wideKeys, modest, calm, conditions, laid).
  DERIVED. THE GIVEN ROWS OF THIS SEAT. 8 by the template 'for every input the law returns true; each argument reads behind the call as it read before'; 0 by the template 'total and deterministic' (their statements: YthjgannjahcmiaaTotals.lean).
  GIVEN WITH THE SEED: the statements are not yours to turn. If you find one false, say at which input.
  Laid BY PROGRAM, IN A SANDBOX (cutbox-rows.mjs): the forced cells as the released guide's own fill.sh prints them over the translation 83595f6211a4281c… (all of the seat's roots in one cut). By AI agents, Wed Nov 11 2026. No macro, syntax, notation, axiom, sorry.
-/
import Derived.Test.YthjgannjahcmiaaChecked
import GoSem.Claim
import GoSem.ClaimJoined
import GoSem.ClaimMapViews
import Derived.JoinedTies
import Derived.KernelRfl
namespace Go.Proofs.Ythjgannjahcmiaa
/- THE CELL 'sum', in the pinned program and in every row, IS THE sha256 OF THE DUMP (.gsa) THAT YthjgannjahcmiaaProg.lean LOADS. Nothing in Lean hashes anything: it is a label: what it is worth is what the hold of that sum in a sandbox is worth. -/
noncomputable def Try.pinned : Pinned := { name := "ythjgannjahcmiaa", sum := "83595f6211a4281c8a42c7cebd01cae1e81c9e4085b2123b348f3ce9706d717d", checked := Try.checked }
namespace Rows
def none {H : Type} : Left H := { results := [], args := [] }

/-- 'laws.FnDisk': WHATEVER THE INPUT: true; the input reads as it did. -/
def fnDiskSpec : ChangeSpec := { name := "fnDisk", fn := fun _ => fun
  | [d] => { results := [.lit (.bool true)], args := [d] }
  | _ => none }
def fnDiskRow : OpenClaim := { program := "ythjgannjahcmiaa", sum := "83595f6211a4281c8a42c7cebd01cae1e81c9e4085b2123b348f3ce9706d717d", func := "loop.example/g00354/laws.FnDisk", spec := "fnDisk", apart := false }
def FnDiskSaid : Prop := fnDiskRow.holds Try.pinned (OpenSpec.ofChange fnDiskSpec)

/-- ITS FALSE NEIGHBOUR: 'it returns false'. Refute it at one input. -/
def fnDiskWrong : ChangeSpec := { name := "fnDisk", fn := fun _ => fun
  | [d] => { results := [.lit (.bool false)], args := [d] }
  | _ => none }
def FnDiskWrongFalsely : Prop := fnDiskRow.holds Try.pinned (OpenSpec.ofChange fnDiskWrong)

/-- 'laws.FnLost': WHATEVER THE INPUT: true; the input reads as it did. -/
def fnLostSpec : ChangeSpec := { name := "fnLost", fn := fun _ => fun
  | [d] => { results := [.lit (.bool true)], args := [d] }
  | _ => none }
def fnLostRow : OpenClaim := { program := "ythjgannjahcmiaa", sum := "83595f6211a4281c8a42c7cebd01cae1e81c9e4085b2123b348f3ce9706d717d", func := "loop.example/g00354/laws.FnLost", spec := "fnLost", apart := false }
def FnLostSaid : Prop := fnLostRow.holds Try.pinned (OpenSpec.ofChange fnLostSpec)

/-- ITS FALSE NEIGHBOUR: 'it returns false'. Refute it at one input. -/
def fnLostWrong : ChangeSpec := { name := "fnLost", fn := fun _ => fun
  | [d] => { results := [.lit (.bool false)], args := [d] }
  | _ => none }
def FnLostWrongFalsely : Prop := fnLostRow.holds Try.pinned (OpenSpec.ofChange fnLostWrong)

/-- 'laws.FnExactDiskOk': WHATEVER THE INPUT: true; the input reads as it did. -/
def fnExactDiskOkSpec : ChangeSpec := { name := "fnExactDiskOk", fn := fun _ => fun
  | [d] => { results := [.lit (.bool true)], args := [d] }
  | _ => none }
def fnExactDiskOkRow : OpenClaim := { program := "ythjgannjahcmiaa", sum := "83595f6211a4281c8a42c7cebd01cae1e81c9e4085b2123b348f3ce9706d717d", func := "loop.example/g00354/laws.FnExactDiskOk", spec := "fnExactDiskOk", apart := false }
def FnExactDiskOkSaid : Prop := fnExactDiskOkRow.holds Try.pinned (OpenSpec.ofChange fnExactDiskOkSpec)

/-- ITS FALSE NEIGHBOUR: 'it returns false'. Refute it at one input. -/
def fnExactDiskOkWrong : ChangeSpec := { name := "fnExactDiskOk", fn := fun _ => fun
  | [d] => { results := [.lit (.bool false)], args := [d] }
  | _ => none }
def FnExactDiskOkWrongFalsely : Prop := fnExactDiskOkRow.holds Try.pinned (OpenSpec.ofChange fnExactDiskOkWrong)

/-- 'laws.FnExactNewDisk': WHATEVER THE INPUT: true; the input reads as it did. -/
def fnExactNewDiskSpec : ChangeSpec := { name := "fnExactNewDisk", fn := fun _ => fun
  | [d] => { results := [.lit (.bool true)], args := [d] }
  | _ => none }
def fnExactNewDiskRow : OpenClaim := { program := "ythjgannjahcmiaa", sum := "83595f6211a4281c8a42c7cebd01cae1e81c9e4085b2123b348f3ce9706d717d", func := "loop.example/g00354/laws.FnExactNewDisk", spec := "fnExactNewDisk", apart := false }
def FnExactNewDiskSaid : Prop := fnExactNewDiskRow.holds Try.pinned (OpenSpec.ofChange fnExactNewDiskSpec)

/-- ITS FALSE NEIGHBOUR: 'it returns false'. Refute it at one input. -/
def fnExactNewDiskWrong : ChangeSpec := { name := "fnExactNewDisk", fn := fun _ => fun
  | [d] => { results := [.lit (.bool false)], args := [d] }
  | _ => none }
def FnExactNewDiskWrongFalsely : Prop := fnExactNewDiskRow.holds Try.pinned (OpenSpec.ofChange fnExactNewDiskWrong)

/-- 'laws.FnExactWritten': WHATEVER THE INPUT: true; the input reads as it did. -/
def fnExactWrittenSpec : ChangeSpec := { name := "fnExactWritten", fn := fun _ => fun
  | [d1, d2, d3] => { results := [.lit (.bool true)], args := [d1, d2, d3] }
  | _ => none }
def fnExactWrittenRow : OpenClaim := { program := "ythjgannjahcmiaa", sum := "83595f6211a4281c8a42c7cebd01cae1e81c9e4085b2123b348f3ce9706d717d", func := "loop.example/g00354/laws.FnExactWritten", spec := "fnExactWritten", apart := false }
def FnExactWrittenSaid : Prop := fnExactWrittenRow.holds Try.pinned (OpenSpec.ofChange fnExactWrittenSpec)

/-- ITS FALSE NEIGHBOUR: 'it returns false'. Refute it at one input. -/
def fnExactWrittenWrong : ChangeSpec := { name := "fnExactWritten", fn := fun _ => fun
  | [d1, d2, d3] => { results := [.lit (.bool false)], args := [d1, d2, d3] }
  | _ => none }
def FnExactWrittenWrongFalsely : Prop := fnExactWrittenRow.holds Try.pinned (OpenSpec.ofChange fnExactWrittenWrong)

/-- 'laws.FnExactFlushed': WHATEVER THE INPUT: true; the input reads as it did. -/
def fnExactFlushedSpec : ChangeSpec := { name := "fnExactFlushed", fn := fun _ => fun
  | [d] => { results := [.lit (.bool true)], args := [d] }
  | _ => none }
def fnExactFlushedRow : OpenClaim := { program := "ythjgannjahcmiaa", sum := "83595f6211a4281c8a42c7cebd01cae1e81c9e4085b2123b348f3ce9706d717d", func := "loop.example/g00354/laws.FnExactFlushed", spec := "fnExactFlushed", apart := false }
def FnExactFlushedSaid : Prop := fnExactFlushedRow.holds Try.pinned (OpenSpec.ofChange fnExactFlushedSpec)

/-- ITS FALSE NEIGHBOUR: 'it returns false'. Refute it at one input. -/
def fnExactFlushedWrong : ChangeSpec := { name := "fnExactFlushed", fn := fun _ => fun
  | [d] => { results := [.lit (.bool false)], args := [d] }
  | _ => none }
def FnExactFlushedWrongFalsely : Prop := fnExactFlushedRow.holds Try.pinned (OpenSpec.ofChange fnExactFlushedWrong)

/-- 'laws.FnExactLoose': WHATEVER THE INPUT: true; the input reads as it did. -/
def fnExactLooseSpec : ChangeSpec := { name := "fnExactLoose", fn := fun _ => fun
  | [d] => { results := [.lit (.bool true)], args := [d] }
  | _ => none }
def fnExactLooseRow : OpenClaim := { program := "ythjgannjahcmiaa", sum := "83595f6211a4281c8a42c7cebd01cae1e81c9e4085b2123b348f3ce9706d717d", func := "loop.example/g00354/laws.FnExactLoose", spec := "fnExactLoose", apart := false }
def FnExactLooseSaid : Prop := fnExactLooseRow.holds Try.pinned (OpenSpec.ofChange fnExactLooseSpec)

/-- ITS FALSE NEIGHBOUR: 'it returns false'. Refute it at one input. -/
def fnExactLooseWrong : ChangeSpec := { name := "fnExactLoose", fn := fun _ => fun
  | [d] => { results := [.lit (.bool false)], args := [d] }
  | _ => none }
def FnExactLooseWrongFalsely : Prop := fnExactLooseRow.holds Try.pinned (OpenSpec.ofChange fnExactLooseWrong)

/-- 'laws.FnExactLost': WHATEVER THE INPUT: true; the input reads as it did. -/
def fnExactLostSpec : ChangeSpec := { name := "fnExactLost", fn := fun _ => fun
  | [d1, d2] => { results := [.lit (.bool true)], args := [d1, d2] }
  | _ => none }
def fnExactLostRow : OpenClaim := { program := "ythjgannjahcmiaa", sum := "83595f6211a4281c8a42c7cebd01cae1e81c9e4085b2123b348f3ce9706d717d", func := "loop.example/g00354/laws.FnExactLost", spec := "fnExactLost", apart := false }
def FnExactLostSaid : Prop := fnExactLostRow.holds Try.pinned (OpenSpec.ofChange fnExactLostSpec)

/-- ITS FALSE NEIGHBOUR: 'it returns false'. Refute it at one input. -/
def fnExactLostWrong : ChangeSpec := { name := "fnExactLost", fn := fun _ => fun
  | [d1, d2] => { results := [.lit (.bool false)], args := [d1, d2] }
  | _ => none }
def FnExactLostWrongFalsely : Prop := fnExactLostRow.holds Try.pinned (OpenSpec.ofChange fnExactLostWrong)

/- THE SECOND FORM. 'bulk': how many values and letters a reading holds, each counted each time it is reached (what is shared counts as often as it is met; a slice's spare places count too). A statement '..UptoSaid' is the law's where the arguments, and the package variables that the reading takes, are together of bulk at most 1048576: NARROWER than '..Said'. Prove '..Said' where nothing that the law and all that it calls make is longer than what came in: it says more and counts as full. Else prove '..UptoSaid'. A law counts once. -/
mutual
def uptoBulk {H : Type} : DataW H → Nat
  | .lit (.string bytes) => bytes.length + 1
  | .lit _ => 1
  | .nil => 1
  | .ptr d => uptoBulk d + 1
  | .slice elems spare => uptoBulkAll elems + uptoBulkAll spare + 1
  | .agg parts => uptoBulkAll parts + 1
  | .iface _ d => uptoBulk d + 1
  | .map entries => uptoBulkEntries entries + 1
  | .held _ => 1
def uptoBulkAll {H : Type} : List (DataW H) → Nat
  | [] => 0
  | d :: r => uptoBulk d + uptoBulkAll r
def uptoBulkEntries {H : Type} : List (Lit × DataW H) → Nat
  | [] => 0
  | x :: r => uptoBulkEntry x + uptoBulkEntries r
def uptoBulkEntry {H : Type} : Lit × DataW H → Nat
  | (.string bytes, d) => bytes.length + uptoBulk d + 1
  | (_, d) => uptoBulk d + 1
 end
def uptoSmall : (H : Type) → List (DataW H) → Bool := fun _ ds => decide (uptoBulkAll ds ≤ 1048576)
def OpenSpec.upto (s : _root_.Go.ChangeSpec) : _root_.Go.OpenSpec := { _root_.Go.OpenSpec.ofChange s with cond := some uptoSmall }

/-- 'laws.FnDisk', WHERE WHAT IT READS IS OF BULK AT MOST 1048576: true; the input reads as it did. -/
def fnDiskUptoRow : OpenClaim := { program := "ythjgannjahcmiaa", sum := "83595f6211a4281c8a42c7cebd01cae1e81c9e4085b2123b348f3ce9706d717d", func := "loop.example/g00354/laws.FnDisk", spec := "fnDisk", apart := false, narrowed := true }
def FnDiskUptoSaid : Prop := fnDiskUptoRow.holds Try.pinned (OpenSpec.upto fnDiskSpec)

/-- 'laws.FnLost', WHERE WHAT IT READS IS OF BULK AT MOST 1048576: true; the input reads as it did. -/
def fnLostUptoRow : OpenClaim := { program := "ythjgannjahcmiaa", sum := "83595f6211a4281c8a42c7cebd01cae1e81c9e4085b2123b348f3ce9706d717d", func := "loop.example/g00354/laws.FnLost", spec := "fnLost", apart := false, narrowed := true }
def FnLostUptoSaid : Prop := fnLostUptoRow.holds Try.pinned (OpenSpec.upto fnLostSpec)

/-- 'laws.FnExactDiskOk', WHERE WHAT IT READS IS OF BULK AT MOST 1048576: true; the input reads as it did. -/
def fnExactDiskOkUptoRow : OpenClaim := { program := "ythjgannjahcmiaa", sum := "83595f6211a4281c8a42c7cebd01cae1e81c9e4085b2123b348f3ce9706d717d", func := "loop.example/g00354/laws.FnExactDiskOk", spec := "fnExactDiskOk", apart := false, narrowed := true }
def FnExactDiskOkUptoSaid : Prop := fnExactDiskOkUptoRow.holds Try.pinned (OpenSpec.upto fnExactDiskOkSpec)

/-- 'laws.FnExactNewDisk', WHERE WHAT IT READS IS OF BULK AT MOST 1048576: true; the input reads as it did. -/
def fnExactNewDiskUptoRow : OpenClaim := { program := "ythjgannjahcmiaa", sum := "83595f6211a4281c8a42c7cebd01cae1e81c9e4085b2123b348f3ce9706d717d", func := "loop.example/g00354/laws.FnExactNewDisk", spec := "fnExactNewDisk", apart := false, narrowed := true }
def FnExactNewDiskUptoSaid : Prop := fnExactNewDiskUptoRow.holds Try.pinned (OpenSpec.upto fnExactNewDiskSpec)

/-- 'laws.FnExactWritten', WHERE WHAT IT READS IS OF BULK AT MOST 1048576: true; the input reads as it did. -/
def fnExactWrittenUptoRow : OpenClaim := { program := "ythjgannjahcmiaa", sum := "83595f6211a4281c8a42c7cebd01cae1e81c9e4085b2123b348f3ce9706d717d", func := "loop.example/g00354/laws.FnExactWritten", spec := "fnExactWritten", apart := false, narrowed := true }
def FnExactWrittenUptoSaid : Prop := fnExactWrittenUptoRow.holds Try.pinned (OpenSpec.upto fnExactWrittenSpec)

/-- 'laws.FnExactFlushed', WHERE WHAT IT READS IS OF BULK AT MOST 1048576: true; the input reads as it did. -/
def fnExactFlushedUptoRow : OpenClaim := { program := "ythjgannjahcmiaa", sum := "83595f6211a4281c8a42c7cebd01cae1e81c9e4085b2123b348f3ce9706d717d", func := "loop.example/g00354/laws.FnExactFlushed", spec := "fnExactFlushed", apart := false, narrowed := true }
def FnExactFlushedUptoSaid : Prop := fnExactFlushedUptoRow.holds Try.pinned (OpenSpec.upto fnExactFlushedSpec)

/-- 'laws.FnExactLoose', WHERE WHAT IT READS IS OF BULK AT MOST 1048576: true; the input reads as it did. -/
def fnExactLooseUptoRow : OpenClaim := { program := "ythjgannjahcmiaa", sum := "83595f6211a4281c8a42c7cebd01cae1e81c9e4085b2123b348f3ce9706d717d", func := "loop.example/g00354/laws.FnExactLoose", spec := "fnExactLoose", apart := false, narrowed := true }
def FnExactLooseUptoSaid : Prop := fnExactLooseUptoRow.holds Try.pinned (OpenSpec.upto fnExactLooseSpec)

/-- 'laws.FnExactLost', WHERE WHAT IT READS IS OF BULK AT MOST 1048576: true; the input reads as it did. -/
def fnExactLostUptoRow : OpenClaim := { program := "ythjgannjahcmiaa", sum := "83595f6211a4281c8a42c7cebd01cae1e81c9e4085b2123b348f3ce9706d717d", func := "loop.example/g00354/laws.FnExactLost", spec := "fnExactLost", apart := false, narrowed := true }
def FnExactLostUptoSaid : Prop := fnExactLostUptoRow.holds Try.pinned (OpenSpec.upto fnExactLostSpec)

end Rows
end Go.Proofs.Ythjgannjahcmiaa
