/-
  No cell of these rows narrows 'for every input' (looked for: loops, veiled, ifaces, maps, wideKeys, modest, calm, conditions, laid).
  DERIVED. THE GIVEN ROWS OF THIS SEAT. 9 by the template 'for every input the law returns true; each argument reads behind the call as it read before'; 0 by the template 'total and deterministic' (their statements: YtelfpdjidppblaaTotals.lean).
  GIVEN WITH THE SEED: the statements are not yours to turn. If you find one false, say at which input.
  Laid BY PROGRAM, IN A SANDBOX (cutbox-rows.mjs): the forced cells as the released guide's own fill.sh prints them over the translation cd616233b3b22ad5… (all of the seat's roots in one cut). By AI agents, Wed Nov 11 2026. No macro, syntax, notation, axiom, sorry.
-/
import Derived.Test.YtelfpdjidppblaaChecked
import GoSem.Claim
import GoSem.ClaimJoined
import GoSem.ClaimMapViews
import Derived.JoinedTies
import Derived.KernelRfl
namespace Go.Proofs.Ytelfpdjidppblaa
/- THE CELL 'sum', in the pinned program and in every row, IS THE sha256 OF THE DUMP (.gsa) THAT YtelfpdjidppblaaProg.lean LOADS. Nothing in Lean hashes anything: it is a label: what it is worth is what the hold of that sum in a sandbox is worth. -/
noncomputable def Try.pinned : Pinned := { name := "ytelfpdjidppblaa", sum := "cd616233b3b22ad578eb0e007194899ebf0b2c079be2286bb67b3468188b4790", checked := Try.checked }
namespace Rows
def none {H : Type} : Left H := { results := [], args := [] }

/-- 'laws.FnCopier': WHATEVER THE INPUT: true; the input reads as it did. -/
def fnCopierSpec : ChangeSpec := { name := "fnCopier", fn := fun _ => fun
  | [d] => { results := [.lit (.bool true)], args := [d] }
  | _ => none }
def fnCopierRow : OpenClaim := { program := "ytelfpdjidppblaa", sum := "cd616233b3b22ad578eb0e007194899ebf0b2c079be2286bb67b3468188b4790", func := "loop.example/g00354/laws.FnCopier", spec := "fnCopier", unfollowed := true, recurses := true, apart := false }
def FnCopierSaid : Prop := fnCopierRow.holds Try.pinned (OpenSpec.ofChange fnCopierSpec)

/-- ITS FALSE NEIGHBOUR: 'it returns false'. Refute it at one input. -/
def fnCopierWrong : ChangeSpec := { name := "fnCopier", fn := fun _ => fun
  | [d] => { results := [.lit (.bool false)], args := [d] }
  | _ => none }
def FnCopierWrongFalsely : Prop := fnCopierRow.holds Try.pinned (OpenSpec.ofChange fnCopierWrong)

/-- 'laws.FnClean': WHATEVER THE INPUT: true; the input reads as it did. -/
def fnCleanSpec : ChangeSpec := { name := "fnClean", fn := fun _ => fun
  | [d] => { results := [.lit (.bool true)], args := [d] }
  | _ => none }
def fnCleanRow : OpenClaim := { program := "ytelfpdjidppblaa", sum := "cd616233b3b22ad578eb0e007194899ebf0b2c079be2286bb67b3468188b4790", func := "loop.example/g00354/laws.FnClean", spec := "fnClean", unfollowed := true, recurses := true, apart := false }
def FnCleanSaid : Prop := fnCleanRow.holds Try.pinned (OpenSpec.ofChange fnCleanSpec)

/-- ITS FALSE NEIGHBOUR: 'it returns false'. Refute it at one input. -/
def fnCleanWrong : ChangeSpec := { name := "fnClean", fn := fun _ => fun
  | [d] => { results := [.lit (.bool false)], args := [d] }
  | _ => none }
def FnCleanWrongFalsely : Prop := fnCleanRow.holds Try.pinned (OpenSpec.ofChange fnCleanWrong)

/-- 'laws.FnExactCopierOk': WHATEVER THE INPUT: true; the input reads as it did. -/
def fnExactCopierOkSpec : ChangeSpec := { name := "fnExactCopierOk", fn := fun _ => fun
  | [d] => { results := [.lit (.bool true)], args := [d] }
  | _ => none }
def fnExactCopierOkRow : OpenClaim := { program := "ytelfpdjidppblaa", sum := "cd616233b3b22ad578eb0e007194899ebf0b2c079be2286bb67b3468188b4790", func := "loop.example/g00354/laws.FnExactCopierOk", spec := "fnExactCopierOk", apart := false }
def FnExactCopierOkSaid : Prop := fnExactCopierOkRow.holds Try.pinned (OpenSpec.ofChange fnExactCopierOkSpec)

/-- ITS FALSE NEIGHBOUR: 'it returns false'. Refute it at one input. -/
def fnExactCopierOkWrong : ChangeSpec := { name := "fnExactCopierOk", fn := fun _ => fun
  | [d] => { results := [.lit (.bool false)], args := [d] }
  | _ => none }
def FnExactCopierOkWrongFalsely : Prop := fnExactCopierOkRow.holds Try.pinned (OpenSpec.ofChange fnExactCopierOkWrong)

/-- 'laws.FnExactNewCopier': WHATEVER THE INPUT: true; the input reads as it did. -/
def fnExactNewCopierSpec : ChangeSpec := { name := "fnExactNewCopier", fn := fun _ => fun
  | [d1, d2] => { results := [.lit (.bool true)], args := [d1, d2] }
  | _ => none }
def fnExactNewCopierRow : OpenClaim := { program := "ytelfpdjidppblaa", sum := "cd616233b3b22ad578eb0e007194899ebf0b2c079be2286bb67b3468188b4790", func := "loop.example/g00354/laws.FnExactNewCopier", spec := "fnExactNewCopier", apart := false }
def FnExactNewCopierSaid : Prop := fnExactNewCopierRow.holds Try.pinned (OpenSpec.ofChange fnExactNewCopierSpec)

/-- ITS FALSE NEIGHBOUR: 'it returns false'. Refute it at one input. -/
def fnExactNewCopierWrong : ChangeSpec := { name := "fnExactNewCopier", fn := fun _ => fun
  | [d1, d2] => { results := [.lit (.bool false)], args := [d1, d2] }
  | _ => none }
def FnExactNewCopierWrongFalsely : Prop := fnExactNewCopierRow.holds Try.pinned (OpenSpec.ofChange fnExactNewCopierWrong)

/-- 'laws.FnExactMarked': WHATEVER THE INPUT: true; the input reads as it did. -/
def fnExactMarkedSpec : ChangeSpec := { name := "fnExactMarked", fn := fun _ => fun
  | [d1, d2] => { results := [.lit (.bool true)], args := [d1, d2] }
  | _ => none }
def fnExactMarkedRow : OpenClaim := { program := "ytelfpdjidppblaa", sum := "cd616233b3b22ad578eb0e007194899ebf0b2c079be2286bb67b3468188b4790", func := "loop.example/g00354/laws.FnExactMarked", spec := "fnExactMarked", unfollowed := true, recurses := true, apart := false }
def FnExactMarkedSaid : Prop := fnExactMarkedRow.holds Try.pinned (OpenSpec.ofChange fnExactMarkedSpec)

/-- ITS FALSE NEIGHBOUR: 'it returns false'. Refute it at one input. -/
def fnExactMarkedWrong : ChangeSpec := { name := "fnExactMarked", fn := fun _ => fun
  | [d1, d2] => { results := [.lit (.bool false)], args := [d1, d2] }
  | _ => none }
def FnExactMarkedWrongFalsely : Prop := fnExactMarkedRow.holds Try.pinned (OpenSpec.ofChange fnExactMarkedWrong)

/-- 'laws.FnExactNext': WHATEVER THE INPUT: true; the input reads as it did. -/
def fnExactNextSpec : ChangeSpec := { name := "fnExactNext", fn := fun _ => fun
  | [d] => { results := [.lit (.bool true)], args := [d] }
  | _ => none }
def fnExactNextRow : OpenClaim := { program := "ytelfpdjidppblaa", sum := "cd616233b3b22ad578eb0e007194899ebf0b2c079be2286bb67b3468188b4790", func := "loop.example/g00354/laws.FnExactNext", spec := "fnExactNext", unfollowed := true, recurses := true, apart := false }
def FnExactNextSaid : Prop := fnExactNextRow.holds Try.pinned (OpenSpec.ofChange fnExactNextSpec)

/-- ITS FALSE NEIGHBOUR: 'it returns false'. Refute it at one input. -/
def fnExactNextWrong : ChangeSpec := { name := "fnExactNext", fn := fun _ => fun
  | [d] => { results := [.lit (.bool false)], args := [d] }
  | _ => none }
def FnExactNextWrongFalsely : Prop := fnExactNextRow.holds Try.pinned (OpenSpec.ofChange fnExactNextWrong)

/-- 'laws.FnExactAcked': WHATEVER THE INPUT: true; the input reads as it did. -/
def fnExactAckedSpec : ChangeSpec := { name := "fnExactAcked", fn := fun _ => fun
  | [d1, d2, d3] => { results := [.lit (.bool true)], args := [d1, d2, d3] }
  | _ => none }
def fnExactAckedRow : OpenClaim := { program := "ytelfpdjidppblaa", sum := "cd616233b3b22ad578eb0e007194899ebf0b2c079be2286bb67b3468188b4790", func := "loop.example/g00354/laws.FnExactAcked", spec := "fnExactAcked", unfollowed := true, recurses := true, apart := false }
def FnExactAckedSaid : Prop := fnExactAckedRow.holds Try.pinned (OpenSpec.ofChange fnExactAckedSpec)

/-- ITS FALSE NEIGHBOUR: 'it returns false'. Refute it at one input. -/
def fnExactAckedWrong : ChangeSpec := { name := "fnExactAcked", fn := fun _ => fun
  | [d1, d2, d3] => { results := [.lit (.bool false)], args := [d1, d2, d3] }
  | _ => none }
def FnExactAckedWrongFalsely : Prop := fnExactAckedRow.holds Try.pinned (OpenSpec.ofChange fnExactAckedWrong)

/-- 'laws.FnExactAgain': WHATEVER THE INPUT: true; the input reads as it did. -/
def fnExactAgainSpec : ChangeSpec := { name := "fnExactAgain", fn := fun _ => fun
  | [d] => { results := [.lit (.bool true)], args := [d] }
  | _ => none }
def fnExactAgainRow : OpenClaim := { program := "ytelfpdjidppblaa", sum := "cd616233b3b22ad578eb0e007194899ebf0b2c079be2286bb67b3468188b4790", func := "loop.example/g00354/laws.FnExactAgain", spec := "fnExactAgain", unfollowed := true, recurses := true, apart := false }
def FnExactAgainSaid : Prop := fnExactAgainRow.holds Try.pinned (OpenSpec.ofChange fnExactAgainSpec)

/-- ITS FALSE NEIGHBOUR: 'it returns false'. Refute it at one input. -/
def fnExactAgainWrong : ChangeSpec := { name := "fnExactAgain", fn := fun _ => fun
  | [d] => { results := [.lit (.bool false)], args := [d] }
  | _ => none }
def FnExactAgainWrongFalsely : Prop := fnExactAgainRow.holds Try.pinned (OpenSpec.ofChange fnExactAgainWrong)

/-- 'laws.FnExactClean': WHATEVER THE INPUT: true; the input reads as it did. -/
def fnExactCleanSpec : ChangeSpec := { name := "fnExactClean", fn := fun _ => fun
  | [d] => { results := [.lit (.bool true)], args := [d] }
  | _ => none }
def fnExactCleanRow : OpenClaim := { program := "ytelfpdjidppblaa", sum := "cd616233b3b22ad578eb0e007194899ebf0b2c079be2286bb67b3468188b4790", func := "loop.example/g00354/laws.FnExactClean", spec := "fnExactClean", apart := false }
def FnExactCleanSaid : Prop := fnExactCleanRow.holds Try.pinned (OpenSpec.ofChange fnExactCleanSpec)

/-- ITS FALSE NEIGHBOUR: 'it returns false'. Refute it at one input. -/
def fnExactCleanWrong : ChangeSpec := { name := "fnExactClean", fn := fun _ => fun
  | [d] => { results := [.lit (.bool false)], args := [d] }
  | _ => none }
def FnExactCleanWrongFalsely : Prop := fnExactCleanRow.holds Try.pinned (OpenSpec.ofChange fnExactCleanWrong)

/- THE SECOND FORM. 'bulk': how many values and letters a reading holds, each counted each time it is reached (what is shared counts as often as it is met; a slice's spare places count too). A statement '..UptoSaid' is the law's where the arguments, and the package variables that the reading takes, are together of bulk at most 1048576: NARROWER than '..Said'. Prove '..Said' where nothing that the law and all that it calls make is longer than what came in: it says more and counts as full. Else prove '..UptoSaid'. A law counts once. -/
mutual
def uptoBulk {H : Type} : DataW H → Nat
  | .lit (.string bytes) => bytes.length + 1
  | .lit _ => 1
  | .nil => 1
  | .ptr d => uptoBulk d + 1
  | .slice elems spare => uptoBulkAll elems + uptoBulkAll spare + 1
  | .agg parts => uptoBulkAll parts + 1
  | .iface _ d => uptoBulk d + 1
  | .map entries => uptoBulkEntries entries + 1
  | .held _ => 1
def uptoBulkAll {H : Type} : List (DataW H) → Nat
  | [] => 0
  | d :: r => uptoBulk d + uptoBulkAll r
def uptoBulkEntries {H : Type} : List (Lit × DataW H) → Nat
  | [] => 0
  | x :: r => uptoBulkEntry x + uptoBulkEntries r
def uptoBulkEntry {H : Type} : Lit × DataW H → Nat
  | (.string bytes, d) => bytes.length + uptoBulk d + 1
  | (_, d) => uptoBulk d + 1
 end
def uptoSmall : (H : Type) → List (DataW H) → Bool := fun _ ds => decide (uptoBulkAll ds ≤ 1048576)
def OpenSpec.upto (s : _root_.Go.ChangeSpec) : _root_.Go.OpenSpec := { _root_.Go.OpenSpec.ofChange s with cond := some uptoSmall }

/-- 'laws.FnCopier', WHERE WHAT IT READS IS OF BULK AT MOST 1048576: true; the input reads as it did. -/
def fnCopierUptoRow : OpenClaim := { program := "ytelfpdjidppblaa", sum := "cd616233b3b22ad578eb0e007194899ebf0b2c079be2286bb67b3468188b4790", func := "loop.example/g00354/laws.FnCopier", spec := "fnCopier", unfollowed := true, recurses := true, apart := false, narrowed := true }
def FnCopierUptoSaid : Prop := fnCopierUptoRow.holds Try.pinned (OpenSpec.upto fnCopierSpec)

/-- 'laws.FnClean', WHERE WHAT IT READS IS OF BULK AT MOST 1048576: true; the input reads as it did. -/
def fnCleanUptoRow : OpenClaim := { program := "ytelfpdjidppblaa", sum := "cd616233b3b22ad578eb0e007194899ebf0b2c079be2286bb67b3468188b4790", func := "loop.example/g00354/laws.FnClean", spec := "fnClean", unfollowed := true, recurses := true, apart := false, narrowed := true }
def FnCleanUptoSaid : Prop := fnCleanUptoRow.holds Try.pinned (OpenSpec.upto fnCleanSpec)

/-- 'laws.FnExactCopierOk', WHERE WHAT IT READS IS OF BULK AT MOST 1048576: true; the input reads as it did. -/
def fnExactCopierOkUptoRow : OpenClaim := { program := "ytelfpdjidppblaa", sum := "cd616233b3b22ad578eb0e007194899ebf0b2c079be2286bb67b3468188b4790", func := "loop.example/g00354/laws.FnExactCopierOk", spec := "fnExactCopierOk", apart := false, narrowed := true }
def FnExactCopierOkUptoSaid : Prop := fnExactCopierOkUptoRow.holds Try.pinned (OpenSpec.upto fnExactCopierOkSpec)

/-- 'laws.FnExactNewCopier', WHERE WHAT IT READS IS OF BULK AT MOST 1048576: true; the input reads as it did. -/
def fnExactNewCopierUptoRow : OpenClaim := { program := "ytelfpdjidppblaa", sum := "cd616233b3b22ad578eb0e007194899ebf0b2c079be2286bb67b3468188b4790", func := "loop.example/g00354/laws.FnExactNewCopier", spec := "fnExactNewCopier", apart := false, narrowed := true }
def FnExactNewCopierUptoSaid : Prop := fnExactNewCopierUptoRow.holds Try.pinned (OpenSpec.upto fnExactNewCopierSpec)

/-- 'laws.FnExactMarked', WHERE WHAT IT READS IS OF BULK AT MOST 1048576: true; the input reads as it did. -/
def fnExactMarkedUptoRow : OpenClaim := { program := "ytelfpdjidppblaa", sum := "cd616233b3b22ad578eb0e007194899ebf0b2c079be2286bb67b3468188b4790", func := "loop.example/g00354/laws.FnExactMarked", spec := "fnExactMarked", unfollowed := true, recurses := true, apart := false, narrowed := true }
def FnExactMarkedUptoSaid : Prop := fnExactMarkedUptoRow.holds Try.pinned (OpenSpec.upto fnExactMarkedSpec)

/-- 'laws.FnExactNext', WHERE WHAT IT READS IS OF BULK AT MOST 1048576: true; the input reads as it did. -/
def fnExactNextUptoRow : OpenClaim := { program := "ytelfpdjidppblaa", sum := "cd616233b3b22ad578eb0e007194899ebf0b2c079be2286bb67b3468188b4790", func := "loop.example/g00354/laws.FnExactNext", spec := "fnExactNext", unfollowed := true, recurses := true, apart := false, narrowed := true }
def FnExactNextUptoSaid : Prop := fnExactNextUptoRow.holds Try.pinned (OpenSpec.upto fnExactNextSpec)

/-- 'laws.FnExactAcked', WHERE WHAT IT READS IS OF BULK AT MOST 1048576: true; the input reads as it did. -/
def fnExactAckedUptoRow : OpenClaim := { program := "ytelfpdjidppblaa", sum := "cd616233b3b22ad578eb0e007194899ebf0b2c079be2286bb67b3468188b4790", func := "loop.example/g00354/laws.FnExactAcked", spec := "fnExactAcked", unfollowed := true, recurses := true, apart := false, narrowed := true }
def FnExactAckedUptoSaid : Prop := fnExactAckedUptoRow.holds Try.pinned (OpenSpec.upto fnExactAckedSpec)

/-- 'laws.FnExactAgain', WHERE WHAT IT READS IS OF BULK AT MOST 1048576: true; the input reads as it did. -/
def fnExactAgainUptoRow : OpenClaim := { program := "ytelfpdjidppblaa", sum := "cd616233b3b22ad578eb0e007194899ebf0b2c079be2286bb67b3468188b4790", func := "loop.example/g00354/laws.FnExactAgain", spec := "fnExactAgain", unfollowed := true, recurses := true, apart := false, narrowed := true }
def FnExactAgainUptoSaid : Prop := fnExactAgainUptoRow.holds Try.pinned (OpenSpec.upto fnExactAgainSpec)

/-- 'laws.FnExactClean', WHERE WHAT IT READS IS OF BULK AT MOST 1048576: true; the input reads as it did. -/
def fnExactCleanUptoRow : OpenClaim := { program := "ytelfpdjidppblaa", sum := "cd616233b3b22ad578eb0e007194899ebf0b2c079be2286bb67b3468188b4790", func := "loop.example/g00354/laws.FnExactClean", spec := "fnExactClean", apart := false, narrowed := true }
def FnExactCleanUptoSaid : Prop := fnExactCleanUptoRow.holds Try.pinned (OpenSpec.upto fnExactCleanSpec)

end Rows
end Go.Proofs.Ytelfpdjidppblaa
