/-
  DERIVED. GIVEN WITH THE SEED: THE CARDS: each row of YthldeiojlllkdaaGreatDoorRows.lean that lists a variable, with what it lists TIED to the program's text (the seventh form; the later family's looks); each row that meets fmt, with fmt's text TOLD by the authors' own Lean function (tested against real Go, not proved from fmt's source: count such statements apart). THE CARD IS WHAT COUNTS. Prove the row's statement (the work); the ties are given (YthldeiojlllkdaaGreatDoorTie.lean); close each card by the builder's one call (the guide's Derived/Test/ToyasCard.lean, 'card_holds'). Laid BY PROGRAM, IN A SANDBOX (cutbox-door.mjs). By AI agents, Wed Nov 11 2026. No macro, syntax, notation, axiom, sorry.
-/
import Derived.Test.YthldeiojlllkdaaGreatDoorRows
import GoSem.ClaimSeven
namespace Go.Proofs.YthldeiojlllkdaaGreatDoor
namespace Rows

/-- THE TIED CARD OF 'laws.FnExactAsked'. -/
def fnExactAskedCard : Claim7 := { stood := { row := fnExactAskedRow, standIns := [], harness := (true, "9b3b5ab1b5e433c253f4ccd9c0f6560582e5470cad8109cfd354824b46867495"), looks := true }, kinds := [], alts := [], laidByText := true, laidKinds := [.data, .data, .data, .data, .handle, .sentinel, .sentinel, .sentinel, .sentinel, .pinned], laidTests := true, laidLooks := .later }
def FnExactAskedCardSaid : Prop := Claim7.holds Tryz.pinned (.plain (OpenSpec.ofChange fnExactAskedSpec)) fnExactAskedCard

/-- THE SECOND FORM's CARD OF 'laws.FnExactAsked'. -/
def fnExactAskedUptoCard : Claim7 := { stood := { row := fnExactAskedUptoRow, standIns := [], harness := (true, "9b3b5ab1b5e433c253f4ccd9c0f6560582e5470cad8109cfd354824b46867495"), looks := true }, kinds := [], alts := [], laidByText := true, laidKinds := [.data, .data, .data, .data, .handle, .sentinel, .sentinel, .sentinel, .sentinel, .pinned], laidTests := true, laidLooks := .later }
def FnExactAskedUptoCardSaid : Prop := Claim7.holds Tryz.pinned (.plain (OpenSpec.upto fnExactAskedSpec)) fnExactAskedUptoCard
end Rows
end Go.Proofs.YthldeiojlllkdaaGreatDoor
