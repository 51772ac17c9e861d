/-
  No cell of these rows narrows 'for every input' (looked for: loops, veiled, ifaces, maps, wideKeys, modest, calm, conditions, laid).
  DERIVED. THE GIVEN ROWS OF THIS SEAT. 5 by the template 'for every input the law returns true; each argument reads behind the call as it read before'; 0 by the template 'total and deterministic' (their statements: YtjbfncjdedigdaaTotals.lean).
  GIVEN WITH THE SEED: the statements are not yours to turn. If you find one false, say at which input.
  Laid BY PROGRAM, IN A SANDBOX (cutbox-rows.mjs): the forced cells as the released guide's own fill.sh prints them over the translation aeb0ba681bcdc525… (all of the seat's roots in one cut). By AI agents, Wed Nov 11 2026. No macro, syntax, notation, axiom, sorry.
-/
import Derived.Test.YtjbfncjdedigdaaChecked
import GoSem.Claim
import GoSem.ClaimJoined
import GoSem.ClaimMapViews
import Derived.JoinedTies
import Derived.KernelRfl
namespace Go.Proofs.Ytjbfncjdedigdaa
/- THE CELL 'sum', in the pinned program and in every row, IS THE sha256 OF THE DUMP (.gsa) THAT YtjbfncjdedigdaaProg.lean LOADS. Nothing in Lean hashes anything: it is a label: what it is worth is what the hold of that sum in a sandbox is worth. -/
noncomputable def Try.pinned : Pinned := { name := "ytjbfncjdedigdaa", sum := "aeb0ba681bcdc525bd5cd26cfe33e1c0e8ec99a1dcad04b4c16ec4e3197781e5", checked := Try.checked }
namespace Rows
def none {H : Type} : Left H := { results := [], args := [] }

/-- 'laws.FnPost': WHATEVER THE INPUT: true; the input reads as it did. -/
def fnPostSpec : ChangeSpec := { name := "fnPost", fn := fun _ => fun
  | [d] => { results := [.lit (.bool true)], args := [d] }
  | _ => none }
def fnPostRow : OpenClaim := { program := "ytjbfncjdedigdaa", sum := "aeb0ba681bcdc525bd5cd26cfe33e1c0e8ec99a1dcad04b4c16ec4e3197781e5", func := "loop.example/g00354/laws.FnPost", spec := "fnPost", apart := false }
def FnPostSaid : Prop := fnPostRow.holds Try.pinned (OpenSpec.ofChange fnPostSpec)

/-- ITS FALSE NEIGHBOUR: 'it returns false'. Refute it at one input. -/
def fnPostWrong : ChangeSpec := { name := "fnPost", fn := fun _ => fun
  | [d] => { results := [.lit (.bool false)], args := [d] }
  | _ => none }
def FnPostWrongFalsely : Prop := fnPostRow.holds Try.pinned (OpenSpec.ofChange fnPostWrong)

/-- 'laws.FnExactPostOk': WHATEVER THE INPUT: true; the input reads as it did. -/
def fnExactPostOkSpec : ChangeSpec := { name := "fnExactPostOk", fn := fun _ => fun
  | [d] => { results := [.lit (.bool true)], args := [d] }
  | _ => none }
def fnExactPostOkRow : OpenClaim := { program := "ytjbfncjdedigdaa", sum := "aeb0ba681bcdc525bd5cd26cfe33e1c0e8ec99a1dcad04b4c16ec4e3197781e5", func := "loop.example/g00354/laws.FnExactPostOk", spec := "fnExactPostOk", apart := false }
def FnExactPostOkSaid : Prop := fnExactPostOkRow.holds Try.pinned (OpenSpec.ofChange fnExactPostOkSpec)

/-- ITS FALSE NEIGHBOUR: 'it returns false'. Refute it at one input. -/
def fnExactPostOkWrong : ChangeSpec := { name := "fnExactPostOk", fn := fun _ => fun
  | [d] => { results := [.lit (.bool false)], args := [d] }
  | _ => none }
def FnExactPostOkWrongFalsely : Prop := fnExactPostOkRow.holds Try.pinned (OpenSpec.ofChange fnExactPostOkWrong)

/-- 'laws.FnExactPosted': WHATEVER THE INPUT: true; the input reads as it did. -/
def fnExactPostedSpec : ChangeSpec := { name := "fnExactPosted", fn := fun _ => fun
  | [d1, d2] => { results := [.lit (.bool true)], args := [d1, d2] }
  | _ => none }
def fnExactPostedRow : OpenClaim := { program := "ytjbfncjdedigdaa", sum := "aeb0ba681bcdc525bd5cd26cfe33e1c0e8ec99a1dcad04b4c16ec4e3197781e5", func := "loop.example/g00354/laws.FnExactPosted", spec := "fnExactPosted", apart := false }
def FnExactPostedSaid : Prop := fnExactPostedRow.holds Try.pinned (OpenSpec.ofChange fnExactPostedSpec)

/-- ITS FALSE NEIGHBOUR: 'it returns false'. Refute it at one input. -/
def fnExactPostedWrong : ChangeSpec := { name := "fnExactPosted", fn := fun _ => fun
  | [d1, d2] => { results := [.lit (.bool false)], args := [d1, d2] }
  | _ => none }
def FnExactPostedWrongFalsely : Prop := fnExactPostedRow.holds Try.pinned (OpenSpec.ofChange fnExactPostedWrong)

/-- 'laws.FnExactTaken': WHATEVER THE INPUT: true; the input reads as it did. -/
def fnExactTakenSpec : ChangeSpec := { name := "fnExactTaken", fn := fun _ => fun
  | [d1, d2] => { results := [.lit (.bool true)], args := [d1, d2] }
  | _ => none }
def fnExactTakenRow : OpenClaim := { program := "ytjbfncjdedigdaa", sum := "aeb0ba681bcdc525bd5cd26cfe33e1c0e8ec99a1dcad04b4c16ec4e3197781e5", func := "loop.example/g00354/laws.FnExactTaken", spec := "fnExactTaken", apart := false }
def FnExactTakenSaid : Prop := fnExactTakenRow.holds Try.pinned (OpenSpec.ofChange fnExactTakenSpec)

/-- ITS FALSE NEIGHBOUR: 'it returns false'. Refute it at one input. -/
def fnExactTakenWrong : ChangeSpec := { name := "fnExactTaken", fn := fun _ => fun
  | [d1, d2] => { results := [.lit (.bool false)], args := [d1, d2] }
  | _ => none }
def FnExactTakenWrongFalsely : Prop := fnExactTakenRow.holds Try.pinned (OpenSpec.ofChange fnExactTakenWrong)

/-- 'laws.FnExactTwice': WHATEVER THE INPUT: true; the input reads as it did. -/
def fnExactTwiceSpec : ChangeSpec := { name := "fnExactTwice", fn := fun _ => fun
  | [d1, d2] => { results := [.lit (.bool true)], args := [d1, d2] }
  | _ => none }
def fnExactTwiceRow : OpenClaim := { program := "ytjbfncjdedigdaa", sum := "aeb0ba681bcdc525bd5cd26cfe33e1c0e8ec99a1dcad04b4c16ec4e3197781e5", func := "loop.example/g00354/laws.FnExactTwice", spec := "fnExactTwice", apart := false }
def FnExactTwiceSaid : Prop := fnExactTwiceRow.holds Try.pinned (OpenSpec.ofChange fnExactTwiceSpec)

/-- ITS FALSE NEIGHBOUR: 'it returns false'. Refute it at one input. -/
def fnExactTwiceWrong : ChangeSpec := { name := "fnExactTwice", fn := fun _ => fun
  | [d1, d2] => { results := [.lit (.bool false)], args := [d1, d2] }
  | _ => none }
def FnExactTwiceWrongFalsely : Prop := fnExactTwiceRow.holds Try.pinned (OpenSpec.ofChange fnExactTwiceWrong)

/- THE SECOND FORM. 'bulk': how many values and letters a reading holds, each counted each time it is reached (what is shared counts as often as it is met; a slice's spare places count too). A statement '..UptoSaid' is the law's where the arguments, and the package variables that the reading takes, are together of bulk at most 1048576: NARROWER than '..Said'. Prove '..Said' where nothing that the law and all that it calls make is longer than what came in: it says more and counts as full. Else prove '..UptoSaid'. A law counts once. -/
mutual
def uptoBulk {H : Type} : DataW H → Nat
  | .lit (.string bytes) => bytes.length + 1
  | .lit _ => 1
  | .nil => 1
  | .ptr d => uptoBulk d + 1
  | .slice elems spare => uptoBulkAll elems + uptoBulkAll spare + 1
  | .agg parts => uptoBulkAll parts + 1
  | .iface _ d => uptoBulk d + 1
  | .map entries => uptoBulkEntries entries + 1
  | .held _ => 1
def uptoBulkAll {H : Type} : List (DataW H) → Nat
  | [] => 0
  | d :: r => uptoBulk d + uptoBulkAll r
def uptoBulkEntries {H : Type} : List (Lit × DataW H) → Nat
  | [] => 0
  | x :: r => uptoBulkEntry x + uptoBulkEntries r
def uptoBulkEntry {H : Type} : Lit × DataW H → Nat
  | (.string bytes, d) => bytes.length + uptoBulk d + 1
  | (_, d) => uptoBulk d + 1
 end
def uptoSmall : (H : Type) → List (DataW H) → Bool := fun _ ds => decide (uptoBulkAll ds ≤ 1048576)
def OpenSpec.upto (s : _root_.Go.ChangeSpec) : _root_.Go.OpenSpec := { _root_.Go.OpenSpec.ofChange s with cond := some uptoSmall }

/-- 'laws.FnPost', WHERE WHAT IT READS IS OF BULK AT MOST 1048576: true; the input reads as it did. -/
def fnPostUptoRow : OpenClaim := { program := "ytjbfncjdedigdaa", sum := "aeb0ba681bcdc525bd5cd26cfe33e1c0e8ec99a1dcad04b4c16ec4e3197781e5", func := "loop.example/g00354/laws.FnPost", spec := "fnPost", apart := false, narrowed := true }
def FnPostUptoSaid : Prop := fnPostUptoRow.holds Try.pinned (OpenSpec.upto fnPostSpec)

/-- 'laws.FnExactPostOk', WHERE WHAT IT READS IS OF BULK AT MOST 1048576: true; the input reads as it did. -/
def fnExactPostOkUptoRow : OpenClaim := { program := "ytjbfncjdedigdaa", sum := "aeb0ba681bcdc525bd5cd26cfe33e1c0e8ec99a1dcad04b4c16ec4e3197781e5", func := "loop.example/g00354/laws.FnExactPostOk", spec := "fnExactPostOk", apart := false, narrowed := true }
def FnExactPostOkUptoSaid : Prop := fnExactPostOkUptoRow.holds Try.pinned (OpenSpec.upto fnExactPostOkSpec)

/-- 'laws.FnExactPosted', WHERE WHAT IT READS IS OF BULK AT MOST 1048576: true; the input reads as it did. -/
def fnExactPostedUptoRow : OpenClaim := { program := "ytjbfncjdedigdaa", sum := "aeb0ba681bcdc525bd5cd26cfe33e1c0e8ec99a1dcad04b4c16ec4e3197781e5", func := "loop.example/g00354/laws.FnExactPosted", spec := "fnExactPosted", apart := false, narrowed := true }
def FnExactPostedUptoSaid : Prop := fnExactPostedUptoRow.holds Try.pinned (OpenSpec.upto fnExactPostedSpec)

/-- 'laws.FnExactTaken', WHERE WHAT IT READS IS OF BULK AT MOST 1048576: true; the input reads as it did. -/
def fnExactTakenUptoRow : OpenClaim := { program := "ytjbfncjdedigdaa", sum := "aeb0ba681bcdc525bd5cd26cfe33e1c0e8ec99a1dcad04b4c16ec4e3197781e5", func := "loop.example/g00354/laws.FnExactTaken", spec := "fnExactTaken", apart := false, narrowed := true }
def FnExactTakenUptoSaid : Prop := fnExactTakenUptoRow.holds Try.pinned (OpenSpec.upto fnExactTakenSpec)

/-- 'laws.FnExactTwice', WHERE WHAT IT READS IS OF BULK AT MOST 1048576: true; the input reads as it did. -/
def fnExactTwiceUptoRow : OpenClaim := { program := "ytjbfncjdedigdaa", sum := "aeb0ba681bcdc525bd5cd26cfe33e1c0e8ec99a1dcad04b4c16ec4e3197781e5", func := "loop.example/g00354/laws.FnExactTwice", spec := "fnExactTwice", apart := false, narrowed := true }
def FnExactTwiceUptoSaid : Prop := fnExactTwiceUptoRow.holds Try.pinned (OpenSpec.upto fnExactTwiceSpec)

end Rows
end Go.Proofs.Ytjbfncjdedigdaa
