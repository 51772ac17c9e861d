/-
  No cell of these rows narrows 'for every input' (looked for: loops, veiled, ifaces, maps, wideKeys, modest, calm, conditions, laid).
  DERIVED. THE GIVEN ROWS OF THIS SEAT. 9 by the template 'for every input the law returns true; each argument reads behind the call as it read before'; 0 by the template 'total and deterministic' (their statements: YtppkncmlloelbaaTotals.lean).
  GIVEN WITH THE SEED: the statements are not yours to turn. If you find one false, say at which input.
  Laid BY PROGRAM, IN A SANDBOX (cutbox-rows.mjs): the forced cells as the released guide's own fill.sh prints them over the translation 5697669e41680012… (all of the seat's roots in one cut). By AI agents, Wed Nov 11 2026. No macro, syntax, notation, axiom, sorry.
-/
import Derived.Test.YtppkncmlloelbaaChecked
import GoSem.Claim
import GoSem.ClaimJoined
import GoSem.ClaimMapViews
import Derived.JoinedTies
import Derived.KernelRfl
namespace Go.Proofs.Ytppkncmlloelbaa
/- THE CELL 'sum', in the pinned program and in every row, IS THE sha256 OF THE DUMP (.gsa) THAT YtppkncmlloelbaaProg.lean LOADS. Nothing in Lean hashes anything: it is a label: what it is worth is what the hold of that sum in a sandbox is worth. -/
noncomputable def Try.pinned : Pinned := { name := "ytppkncmlloelbaa", sum := "5697669e41680012a3f081845d147112deac7f954d1a9bb976de96f44e5fcb55", checked := Try.checked }
namespace Rows
def none {H : Type} : Left H := { results := [], args := [] }

/-- 'laws.FnRegister': WHATEVER THE INPUT: true; the input reads as it did. -/
def fnRegisterSpec : ChangeSpec := { name := "fnRegister", fn := fun _ => fun
  | [d] => { results := [.lit (.bool true)], args := [d] }
  | _ => none }
def fnRegisterRow : OpenClaim := { program := "ytppkncmlloelbaa", sum := "5697669e41680012a3f081845d147112deac7f954d1a9bb976de96f44e5fcb55", func := "loop.example/g00354/laws.FnRegister", spec := "fnRegister", unfollowed := true, recurses := true, apart := false }
def FnRegisterSaid : Prop := fnRegisterRow.holds Try.pinned (OpenSpec.ofChange fnRegisterSpec)

/-- ITS FALSE NEIGHBOUR: 'it returns false'. Refute it at one input. -/
def fnRegisterWrong : ChangeSpec := { name := "fnRegister", fn := fun _ => fun
  | [d] => { results := [.lit (.bool false)], args := [d] }
  | _ => none }
def FnRegisterWrongFalsely : Prop := fnRegisterRow.holds Try.pinned (OpenSpec.ofChange fnRegisterWrong)

/-- 'laws.FnActs': WHATEVER THE INPUT: true; the input reads as it did. -/
def fnActsSpec : ChangeSpec := { name := "fnActs", fn := fun _ => fun
  | [d] => { results := [.lit (.bool true)], args := [d] }
  | _ => none }
def fnActsRow : OpenClaim := { program := "ytppkncmlloelbaa", sum := "5697669e41680012a3f081845d147112deac7f954d1a9bb976de96f44e5fcb55", func := "loop.example/g00354/laws.FnActs", spec := "fnActs", unfollowed := true, recurses := true, apart := false }
def FnActsSaid : Prop := fnActsRow.holds Try.pinned (OpenSpec.ofChange fnActsSpec)

/-- ITS FALSE NEIGHBOUR: 'it returns false'. Refute it at one input. -/
def fnActsWrong : ChangeSpec := { name := "fnActs", fn := fun _ => fun
  | [d] => { results := [.lit (.bool false)], args := [d] }
  | _ => none }
def FnActsWrongFalsely : Prop := fnActsRow.holds Try.pinned (OpenSpec.ofChange fnActsWrong)

/-- 'laws.FnReserve': WHATEVER THE INPUT: true; the input reads as it did. -/
def fnReserveSpec : ChangeSpec := { name := "fnReserve", fn := fun _ => fun
  | [d] => { results := [.lit (.bool true)], args := [d] }
  | _ => none }
def fnReserveRow : OpenClaim := { program := "ytppkncmlloelbaa", sum := "5697669e41680012a3f081845d147112deac7f954d1a9bb976de96f44e5fcb55", func := "loop.example/g00354/laws.FnReserve", spec := "fnReserve", unfollowed := true, recurses := true, apart := false }
def FnReserveSaid : Prop := fnReserveRow.holds Try.pinned (OpenSpec.ofChange fnReserveSpec)

/-- ITS FALSE NEIGHBOUR: 'it returns false'. Refute it at one input. -/
def fnReserveWrong : ChangeSpec := { name := "fnReserve", fn := fun _ => fun
  | [d] => { results := [.lit (.bool false)], args := [d] }
  | _ => none }
def FnReserveWrongFalsely : Prop := fnReserveRow.holds Try.pinned (OpenSpec.ofChange fnReserveWrong)

/-- 'laws.FnPreempt': WHATEVER THE INPUT: true; the input reads as it did. -/
def fnPreemptSpec : ChangeSpec := { name := "fnPreempt", fn := fun _ => fun
  | [d] => { results := [.lit (.bool true)], args := [d] }
  | _ => none }
def fnPreemptRow : OpenClaim := { program := "ytppkncmlloelbaa", sum := "5697669e41680012a3f081845d147112deac7f954d1a9bb976de96f44e5fcb55", func := "loop.example/g00354/laws.FnPreempt", spec := "fnPreempt", unfollowed := true, recurses := true, apart := false }
def FnPreemptSaid : Prop := fnPreemptRow.holds Try.pinned (OpenSpec.ofChange fnPreemptSpec)

/-- ITS FALSE NEIGHBOUR: 'it returns false'. Refute it at one input. -/
def fnPreemptWrong : ChangeSpec := { name := "fnPreempt", fn := fun _ => fun
  | [d] => { results := [.lit (.bool false)], args := [d] }
  | _ => none }
def FnPreemptWrongFalsely : Prop := fnPreemptRow.holds Try.pinned (OpenSpec.ofChange fnPreemptWrong)

/-- 'laws.FnExactRegister': WHATEVER THE INPUT: true; the input reads as it did. -/
def fnExactRegisterSpec : ChangeSpec := { name := "fnExactRegister", fn := fun _ => fun
  | [d1, d2, d3] => { results := [.lit (.bool true)], args := [d1, d2, d3] }
  | _ => none }
def fnExactRegisterRow : OpenClaim := { program := "ytppkncmlloelbaa", sum := "5697669e41680012a3f081845d147112deac7f954d1a9bb976de96f44e5fcb55", func := "loop.example/g00354/laws.FnExactRegister", spec := "fnExactRegister", unfollowed := true, recurses := true, apart := false }
def FnExactRegisterSaid : Prop := fnExactRegisterRow.holds Try.pinned (OpenSpec.ofChange fnExactRegisterSpec)

/-- ITS FALSE NEIGHBOUR: 'it returns false'. Refute it at one input. -/
def fnExactRegisterWrong : ChangeSpec := { name := "fnExactRegister", fn := fun _ => fun
  | [d1, d2, d3] => { results := [.lit (.bool false)], args := [d1, d2, d3] }
  | _ => none }
def FnExactRegisterWrongFalsely : Prop := fnExactRegisterRow.holds Try.pinned (OpenSpec.ofChange fnExactRegisterWrong)

/-- 'laws.FnExactReserve': WHATEVER THE INPUT: true; the input reads as it did. -/
def fnExactReserveSpec : ChangeSpec := { name := "fnExactReserve", fn := fun _ => fun
  | [d1, d2, d3] => { results := [.lit (.bool true)], args := [d1, d2, d3] }
  | _ => none }
def fnExactReserveRow : OpenClaim := { program := "ytppkncmlloelbaa", sum := "5697669e41680012a3f081845d147112deac7f954d1a9bb976de96f44e5fcb55", func := "loop.example/g00354/laws.FnExactReserve", spec := "fnExactReserve", unfollowed := true, recurses := true, apart := false }
def FnExactReserveSaid : Prop := fnExactReserveRow.holds Try.pinned (OpenSpec.ofChange fnExactReserveSpec)

/-- ITS FALSE NEIGHBOUR: 'it returns false'. Refute it at one input. -/
def fnExactReserveWrong : ChangeSpec := { name := "fnExactReserve", fn := fun _ => fun
  | [d1, d2, d3] => { results := [.lit (.bool false)], args := [d1, d2, d3] }
  | _ => none }
def FnExactReserveWrongFalsely : Prop := fnExactReserveRow.holds Try.pinned (OpenSpec.ofChange fnExactReserveWrong)

/-- 'laws.FnExactRelease': WHATEVER THE INPUT: true; the input reads as it did. -/
def fnExactReleaseSpec : ChangeSpec := { name := "fnExactRelease", fn := fun _ => fun
  | [d1, d2] => { results := [.lit (.bool true)], args := [d1, d2] }
  | _ => none }
def fnExactReleaseRow : OpenClaim := { program := "ytppkncmlloelbaa", sum := "5697669e41680012a3f081845d147112deac7f954d1a9bb976de96f44e5fcb55", func := "loop.example/g00354/laws.FnExactRelease", spec := "fnExactRelease", unfollowed := true, recurses := true, apart := false }
def FnExactReleaseSaid : Prop := fnExactReleaseRow.holds Try.pinned (OpenSpec.ofChange fnExactReleaseSpec)

/-- ITS FALSE NEIGHBOUR: 'it returns false'. Refute it at one input. -/
def fnExactReleaseWrong : ChangeSpec := { name := "fnExactRelease", fn := fun _ => fun
  | [d1, d2] => { results := [.lit (.bool false)], args := [d1, d2] }
  | _ => none }
def FnExactReleaseWrongFalsely : Prop := fnExactReleaseRow.holds Try.pinned (OpenSpec.ofChange fnExactReleaseWrong)

/-- 'laws.FnExactClear': WHATEVER THE INPUT: true; the input reads as it did. -/
def fnExactClearSpec : ChangeSpec := { name := "fnExactClear", fn := fun _ => fun
  | [d1, d2] => { results := [.lit (.bool true)], args := [d1, d2] }
  | _ => none }
def fnExactClearRow : OpenClaim := { program := "ytppkncmlloelbaa", sum := "5697669e41680012a3f081845d147112deac7f954d1a9bb976de96f44e5fcb55", func := "loop.example/g00354/laws.FnExactClear", spec := "fnExactClear", unfollowed := true, recurses := true, apart := false }
def FnExactClearSaid : Prop := fnExactClearRow.holds Try.pinned (OpenSpec.ofChange fnExactClearSpec)

/-- ITS FALSE NEIGHBOUR: 'it returns false'. Refute it at one input. -/
def fnExactClearWrong : ChangeSpec := { name := "fnExactClear", fn := fun _ => fun
  | [d1, d2] => { results := [.lit (.bool false)], args := [d1, d2] }
  | _ => none }
def FnExactClearWrongFalsely : Prop := fnExactClearRow.holds Try.pinned (OpenSpec.ofChange fnExactClearWrong)

/-- 'laws.FnExactPreempt': WHATEVER THE INPUT: true; the input reads as it did. -/
def fnExactPreemptSpec : ChangeSpec := { name := "fnExactPreempt", fn := fun _ => fun
  | [d1, d2, d3, d4] => { results := [.lit (.bool true)], args := [d1, d2, d3, d4] }
  | _ => none }
def fnExactPreemptRow : OpenClaim := { program := "ytppkncmlloelbaa", sum := "5697669e41680012a3f081845d147112deac7f954d1a9bb976de96f44e5fcb55", func := "loop.example/g00354/laws.FnExactPreempt", spec := "fnExactPreempt", unfollowed := true, recurses := true, apart := false }
def FnExactPreemptSaid : Prop := fnExactPreemptRow.holds Try.pinned (OpenSpec.ofChange fnExactPreemptSpec)

/-- ITS FALSE NEIGHBOUR: 'it returns false'. Refute it at one input. -/
def fnExactPreemptWrong : ChangeSpec := { name := "fnExactPreempt", fn := fun _ => fun
  | [d1, d2, d3, d4] => { results := [.lit (.bool false)], args := [d1, d2, d3, d4] }
  | _ => none }
def FnExactPreemptWrongFalsely : Prop := fnExactPreemptRow.holds Try.pinned (OpenSpec.ofChange fnExactPreemptWrong)

/- THE SECOND FORM. 'bulk': how many values and letters a reading holds, each counted each time it is reached (what is shared counts as often as it is met; a slice's spare places count too). A statement '..UptoSaid' is the law's where the arguments, and the package variables that the reading takes, are together of bulk at most 1048576: NARROWER than '..Said'. Prove '..Said' where nothing that the law and all that it calls make is longer than what came in: it says more and counts as full. Else prove '..UptoSaid'. A law counts once. -/
mutual
def uptoBulk {H : Type} : DataW H → Nat
  | .lit (.string bytes) => bytes.length + 1
  | .lit _ => 1
  | .nil => 1
  | .ptr d => uptoBulk d + 1
  | .slice elems spare => uptoBulkAll elems + uptoBulkAll spare + 1
  | .agg parts => uptoBulkAll parts + 1
  | .iface _ d => uptoBulk d + 1
  | .map entries => uptoBulkEntries entries + 1
  | .held _ => 1
def uptoBulkAll {H : Type} : List (DataW H) → Nat
  | [] => 0
  | d :: r => uptoBulk d + uptoBulkAll r
def uptoBulkEntries {H : Type} : List (Lit × DataW H) → Nat
  | [] => 0
  | x :: r => uptoBulkEntry x + uptoBulkEntries r
def uptoBulkEntry {H : Type} : Lit × DataW H → Nat
  | (.string bytes, d) => bytes.length + uptoBulk d + 1
  | (_, d) => uptoBulk d + 1
 end
def uptoSmall : (H : Type) → List (DataW H) → Bool := fun _ ds => decide (uptoBulkAll ds ≤ 1048576)
def OpenSpec.upto (s : _root_.Go.ChangeSpec) : _root_.Go.OpenSpec := { _root_.Go.OpenSpec.ofChange s with cond := some uptoSmall }

/-- 'laws.FnRegister', WHERE WHAT IT READS IS OF BULK AT MOST 1048576: true; the input reads as it did. -/
def fnRegisterUptoRow : OpenClaim := { program := "ytppkncmlloelbaa", sum := "5697669e41680012a3f081845d147112deac7f954d1a9bb976de96f44e5fcb55", func := "loop.example/g00354/laws.FnRegister", spec := "fnRegister", unfollowed := true, recurses := true, apart := false, narrowed := true }
def FnRegisterUptoSaid : Prop := fnRegisterUptoRow.holds Try.pinned (OpenSpec.upto fnRegisterSpec)

/-- 'laws.FnActs', WHERE WHAT IT READS IS OF BULK AT MOST 1048576: true; the input reads as it did. -/
def fnActsUptoRow : OpenClaim := { program := "ytppkncmlloelbaa", sum := "5697669e41680012a3f081845d147112deac7f954d1a9bb976de96f44e5fcb55", func := "loop.example/g00354/laws.FnActs", spec := "fnActs", unfollowed := true, recurses := true, apart := false, narrowed := true }
def FnActsUptoSaid : Prop := fnActsUptoRow.holds Try.pinned (OpenSpec.upto fnActsSpec)

/-- 'laws.FnReserve', WHERE WHAT IT READS IS OF BULK AT MOST 1048576: true; the input reads as it did. -/
def fnReserveUptoRow : OpenClaim := { program := "ytppkncmlloelbaa", sum := "5697669e41680012a3f081845d147112deac7f954d1a9bb976de96f44e5fcb55", func := "loop.example/g00354/laws.FnReserve", spec := "fnReserve", unfollowed := true, recurses := true, apart := false, narrowed := true }
def FnReserveUptoSaid : Prop := fnReserveUptoRow.holds Try.pinned (OpenSpec.upto fnReserveSpec)

/-- 'laws.FnPreempt', WHERE WHAT IT READS IS OF BULK AT MOST 1048576: true; the input reads as it did. -/
def fnPreemptUptoRow : OpenClaim := { program := "ytppkncmlloelbaa", sum := "5697669e41680012a3f081845d147112deac7f954d1a9bb976de96f44e5fcb55", func := "loop.example/g00354/laws.FnPreempt", spec := "fnPreempt", unfollowed := true, recurses := true, apart := false, narrowed := true }
def FnPreemptUptoSaid : Prop := fnPreemptUptoRow.holds Try.pinned (OpenSpec.upto fnPreemptSpec)

/-- 'laws.FnExactRegister', WHERE WHAT IT READS IS OF BULK AT MOST 1048576: true; the input reads as it did. -/
def fnExactRegisterUptoRow : OpenClaim := { program := "ytppkncmlloelbaa", sum := "5697669e41680012a3f081845d147112deac7f954d1a9bb976de96f44e5fcb55", func := "loop.example/g00354/laws.FnExactRegister", spec := "fnExactRegister", unfollowed := true, recurses := true, apart := false, narrowed := true }
def FnExactRegisterUptoSaid : Prop := fnExactRegisterUptoRow.holds Try.pinned (OpenSpec.upto fnExactRegisterSpec)

/-- 'laws.FnExactReserve', WHERE WHAT IT READS IS OF BULK AT MOST 1048576: true; the input reads as it did. -/
def fnExactReserveUptoRow : OpenClaim := { program := "ytppkncmlloelbaa", sum := "5697669e41680012a3f081845d147112deac7f954d1a9bb976de96f44e5fcb55", func := "loop.example/g00354/laws.FnExactReserve", spec := "fnExactReserve", unfollowed := true, recurses := true, apart := false, narrowed := true }
def FnExactReserveUptoSaid : Prop := fnExactReserveUptoRow.holds Try.pinned (OpenSpec.upto fnExactReserveSpec)

/-- 'laws.FnExactRelease', WHERE WHAT IT READS IS OF BULK AT MOST 1048576: true; the input reads as it did. -/
def fnExactReleaseUptoRow : OpenClaim := { program := "ytppkncmlloelbaa", sum := "5697669e41680012a3f081845d147112deac7f954d1a9bb976de96f44e5fcb55", func := "loop.example/g00354/laws.FnExactRelease", spec := "fnExactRelease", unfollowed := true, recurses := true, apart := false, narrowed := true }
def FnExactReleaseUptoSaid : Prop := fnExactReleaseUptoRow.holds Try.pinned (OpenSpec.upto fnExactReleaseSpec)

/-- 'laws.FnExactClear', WHERE WHAT IT READS IS OF BULK AT MOST 1048576: true; the input reads as it did. -/
def fnExactClearUptoRow : OpenClaim := { program := "ytppkncmlloelbaa", sum := "5697669e41680012a3f081845d147112deac7f954d1a9bb976de96f44e5fcb55", func := "loop.example/g00354/laws.FnExactClear", spec := "fnExactClear", unfollowed := true, recurses := true, apart := false, narrowed := true }
def FnExactClearUptoSaid : Prop := fnExactClearUptoRow.holds Try.pinned (OpenSpec.upto fnExactClearSpec)

/-- 'laws.FnExactPreempt', WHERE WHAT IT READS IS OF BULK AT MOST 1048576: true; the input reads as it did. -/
def fnExactPreemptUptoRow : OpenClaim := { program := "ytppkncmlloelbaa", sum := "5697669e41680012a3f081845d147112deac7f954d1a9bb976de96f44e5fcb55", func := "loop.example/g00354/laws.FnExactPreempt", spec := "fnExactPreempt", unfollowed := true, recurses := true, apart := false, narrowed := true }
def FnExactPreemptUptoSaid : Prop := fnExactPreemptUptoRow.holds Try.pinned (OpenSpec.upto fnExactPreemptSpec)

end Rows
end Go.Proofs.Ytppkncmlloelbaa
