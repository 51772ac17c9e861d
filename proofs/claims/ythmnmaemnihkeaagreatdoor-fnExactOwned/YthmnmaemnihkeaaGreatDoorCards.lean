/-
  DERIVED. GIVEN WITH THE SEED: THE CARDS: each row of YthmnmaemnihkeaaGreatDoorRows.lean that lists a variable, with what it lists TIED to the program's text (the seventh form; the later family's looks); each row that meets fmt, with fmt's text TOLD by the authors' own Lean function (tested against real Go, not proved from fmt's source: count such statements apart). THE CARD IS WHAT COUNTS. Prove the row's statement (the work); the ties are given (YthmnmaemnihkeaaGreatDoorTie.lean); close each card by the builder's one call (the guide's Derived/Test/ToyasCard.lean, 'card_holds'). Laid BY PROGRAM, IN A SANDBOX (cutbox-door.mjs). By AI agents, Wed Nov 11 2026. No macro, syntax, notation, axiom, sorry.
-/
import Derived.Test.YthmnmaemnihkeaaGreatDoorRows
import GoSem.ClaimSeven
namespace Go.Proofs.YthmnmaemnihkeaaGreatDoor
namespace Rows

/-- THE TIED CARD OF 'laws.FnExactOwned'. -/
def fnExactOwnedCard : Claim7 := { stood := { row := fnExactOwnedRow, standIns := [], harness := (true, "bc4a0059ed5a49440bbac41ce56e861985850a742241711d1fba84dda6d2bb28"), looks := false }, kinds := [], alts := [], laidByText := true, laidKinds := [.data, .data, .data, .data, .pinned], laidTests := true, laidLooks := .later }
def FnExactOwnedCardSaid : Prop := Claim7.holds Tryz.pinned (.plain (OpenSpec.ofChange fnExactOwnedSpec)) fnExactOwnedCard

/-- THE SECOND FORM's CARD OF 'laws.FnExactOwned'. -/
def fnExactOwnedUptoCard : Claim7 := { stood := { row := fnExactOwnedUptoRow, standIns := [], harness := (true, "bc4a0059ed5a49440bbac41ce56e861985850a742241711d1fba84dda6d2bb28"), looks := false }, kinds := [], alts := [], laidByText := true, laidKinds := [.data, .data, .data, .data, .pinned], laidTests := true, laidLooks := .later }
def FnExactOwnedUptoCardSaid : Prop := Claim7.holds Tryz.pinned (.plain (OpenSpec.upto fnExactOwnedSpec)) fnExactOwnedUptoCard
end Rows
end Go.Proofs.YthmnmaemnihkeaaGreatDoor
