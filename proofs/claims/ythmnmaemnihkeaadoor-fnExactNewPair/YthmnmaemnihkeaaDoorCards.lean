/-
  DERIVED. GIVEN WITH THE SEED: THE CARDS: each row of YthmnmaemnihkeaaDoorRows.lean that lists a variable, with what it lists TIED to the program's text (the seventh form; the later family's looks); each row that meets fmt, with fmt's text TOLD by the authors' own Lean function (tested against real Go, not proved from fmt's source: count such statements apart). THE CARD IS WHAT COUNTS. Prove the row's statement (the work); the ties are given (YthmnmaemnihkeaaDoorTie.lean); close each card by the builder's one call (the guide's Derived/Test/ToyasCard.lean, 'card_holds'). Laid BY PROGRAM, IN A SANDBOX (cutbox-door.mjs). By AI agents, Wed Nov 11 2026. No macro, syntax, notation, axiom, sorry.
-/
import Derived.Test.YthmnmaemnihkeaaDoorRows
import GoSem.ClaimSeven
namespace Go.Proofs.YthmnmaemnihkeaaDoor
namespace Rows

/-- THE TIED CARD OF 'laws.FnExactNewPair'. -/
def fnExactNewPairCard : Claim7 := { stood := { row := fnExactNewPairRow, standIns := [], harness := (true, "4dec111caa72c0ab1a1fd4e15707b3a939e4db856b54de5a4ca3ab79ac653f08"), looks := false }, kinds := [], alts := [], laidByText := true, laidKinds := [.data, .data, .data], laidTests := true, laidLooks := .later }
def FnExactNewPairCardSaid : Prop := Claim7.holds Tryd.pinned (.plain (OpenSpec.ofChange fnExactNewPairSpec)) fnExactNewPairCard

/-- THE SECOND FORM's CARD OF 'laws.FnExactNewPair'. -/
def fnExactNewPairUptoCard : Claim7 := { stood := { row := fnExactNewPairUptoRow, standIns := [], harness := (true, "4dec111caa72c0ab1a1fd4e15707b3a939e4db856b54de5a4ca3ab79ac653f08"), looks := false }, kinds := [], alts := [], laidByText := true, laidKinds := [.data, .data, .data], laidTests := true, laidLooks := .later }
def FnExactNewPairUptoCardSaid : Prop := Claim7.holds Tryd.pinned (.plain (OpenSpec.upto fnExactNewPairSpec)) fnExactNewPairUptoCard
end Rows
end Go.Proofs.YthmnmaemnihkeaaDoor
