/-
  DERIVED. GIVEN WITH THE SEED: THE CARDS: each row of YteooloceaoinlaaDoorRows.lean that lists a variable, with what it lists TIED to the program's text (the seventh form; the later family's looks); each row that meets fmt, with fmt's text TOLD by the authors' own Lean function (tested against real Go, not proved from fmt's source: count such statements apart). THE CARD IS WHAT COUNTS. Prove the row's statement (the work); the ties are given (YteooloceaoinlaaDoorTie.lean); close each card by the builder's one call (the guide's Derived/Test/ToyasCard.lean, 'card_holds'). Laid BY PROGRAM, IN A SANDBOX (cutbox-door.mjs). By AI agents, Wed Nov 11 2026. No macro, syntax, notation, axiom, sorry.
-/
import Derived.Test.YteooloceaoinlaaDoorRows
import GoSem.ClaimSeven
namespace Go.Proofs.YteooloceaoinlaaDoor
namespace Rows

/-- THE TIED CARD OF 'laws.FnExactNewNode'. -/
def fnExactNewNodeCard : Claim7 := { stood := { row := fnExactNewNodeRow, standIns := [], harness := (true, "200b9e05954c2d58344a233545ed4a95877073867c06188d024759bb57b00b09"), looks := false }, kinds := [], alts := [], laidByText := true, laidKinds := [.data, .data, .data], laidTests := true, laidLooks := .later }
def FnExactNewNodeCardSaid : Prop := Claim7.holds Tryd.pinned (.plain (OpenSpec.ofChange fnExactNewNodeSpec)) fnExactNewNodeCard

/-- THE SECOND FORM's CARD OF 'laws.FnExactNewNode'. -/
def fnExactNewNodeUptoCard : Claim7 := { stood := { row := fnExactNewNodeUptoRow, standIns := [], harness := (true, "200b9e05954c2d58344a233545ed4a95877073867c06188d024759bb57b00b09"), looks := false }, kinds := [], alts := [], laidByText := true, laidKinds := [.data, .data, .data], laidTests := true, laidLooks := .later }
def FnExactNewNodeUptoCardSaid : Prop := Claim7.holds Tryd.pinned (.plain (OpenSpec.upto fnExactNewNodeSpec)) fnExactNewNodeUptoCard
end Rows
end Go.Proofs.YteooloceaoinlaaDoor
