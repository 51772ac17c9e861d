/-
  DERIVED. GIVEN WITH THE SEED: THE CARDS: each row of YtifffiekibdgnaaDoorRows.lean that lists a variable, with what it lists TIED to the program's text (the seventh form; the later family's looks); each row that meets fmt, with fmt's text TOLD by the authors' own Lean function (tested against real Go, not proved from fmt's source: count such statements apart). THE CARD IS WHAT COUNTS. Prove the row's statement (the work); the ties are given (YtifffiekibdgnaaDoorTie.lean); close each card by the builder's one call (the guide's Derived/Test/ToyasCard.lean, 'card_holds'). Laid BY PROGRAM, IN A SANDBOX (cutbox-door.mjs). By AI agents, Wed Nov 11 2026. No macro, syntax, notation, axiom, sorry.
-/
import Derived.Test.YtifffiekibdgnaaDoorRows
import GoSem.ClaimSeven
namespace Go.Proofs.YtifffiekibdgnaaDoor
namespace Rows

/-- THE TIED CARD OF 'laws.FnExactKeysOf'. -/
def fnExactKeysOfCard : Claim7 := { stood := { row := fnExactKeysOfRow, standIns := [], harness := (true, "85593f48ce9b259981cfca009874c809e1736f9ee03fdd7e29a76f7f007136dc"), looks := true }, kinds := [], alts := [], laidByText := true, laidKinds := [.data, .data, .data], laidTests := true, laidLooks := .later }
def FnExactKeysOfCardSaid : Prop := Claim7.holds Tryd.pinned (.plain (OpenSpec.ofChange fnExactKeysOfSpec)) fnExactKeysOfCard

/-- THE TIED CARD OF 'laws.FnExactHolderOf'. -/
def fnExactHolderOfCard : Claim7 := { stood := { row := fnExactHolderOfRow, standIns := [], harness := (true, "85593f48ce9b259981cfca009874c809e1736f9ee03fdd7e29a76f7f007136dc"), looks := true }, kinds := [], alts := [], laidByText := true, laidKinds := [.data, .data, .data], laidTests := true, laidLooks := .later }
def FnExactHolderOfCardSaid : Prop := Claim7.holds Tryd.pinned (.plain (OpenSpec.ofChange fnExactHolderOfSpec)) fnExactHolderOfCard

/-- THE TIED CARD OF 'laws.FnExactShowHolding'. -/
def fnExactShowHoldingCard : Claim7 := { stood := { row := fnExactShowHoldingRow, standIns := [], harness := (true, "85593f48ce9b259981cfca009874c809e1736f9ee03fdd7e29a76f7f007136dc"), looks := true }, kinds := [], alts := [], laidByText := true, laidKinds := [.data, .data, .data], laidTests := true, laidLooks := .later }
def FnExactShowHoldingCardSaid : Prop := Claim7.holds Tryd.pinned (.plain (OpenSpec.ofChange fnExactShowHoldingSpec)) fnExactShowHoldingCard

/-- THE TIED CARD OF 'laws.FnExactReadHolding'. -/
def fnExactReadHoldingCard : Claim7 := { stood := { row := fnExactReadHoldingRow, standIns := [], harness := (true, "85593f48ce9b259981cfca009874c809e1736f9ee03fdd7e29a76f7f007136dc"), looks := true }, kinds := [], alts := [], laidByText := true, laidKinds := [.data, .data, .data, .data, .sentinel, .sentinel, .pinned], laidTests := true, laidLooks := .later }
def FnExactReadHoldingCardSaid : Prop := Claim7.holds Tryd.pinned (.plain (OpenSpec.ofChange fnExactReadHoldingSpec)) fnExactReadHoldingCard

/-- THE SECOND FORM's CARD OF 'laws.FnExactKeysOf'. -/
def fnExactKeysOfUptoCard : Claim7 := { stood := { row := fnExactKeysOfUptoRow, standIns := [], harness := (true, "85593f48ce9b259981cfca009874c809e1736f9ee03fdd7e29a76f7f007136dc"), looks := true }, kinds := [], alts := [], laidByText := true, laidKinds := [.data, .data, .data], laidTests := true, laidLooks := .later }
def FnExactKeysOfUptoCardSaid : Prop := Claim7.holds Tryd.pinned (.plain (OpenSpec.upto fnExactKeysOfSpec)) fnExactKeysOfUptoCard

/-- THE SECOND FORM's CARD OF 'laws.FnExactHolderOf'. -/
def fnExactHolderOfUptoCard : Claim7 := { stood := { row := fnExactHolderOfUptoRow, standIns := [], harness := (true, "85593f48ce9b259981cfca009874c809e1736f9ee03fdd7e29a76f7f007136dc"), looks := true }, kinds := [], alts := [], laidByText := true, laidKinds := [.data, .data, .data], laidTests := true, laidLooks := .later }
def FnExactHolderOfUptoCardSaid : Prop := Claim7.holds Tryd.pinned (.plain (OpenSpec.upto fnExactHolderOfSpec)) fnExactHolderOfUptoCard

/-- THE SECOND FORM's CARD OF 'laws.FnExactShowHolding'. -/
def fnExactShowHoldingUptoCard : Claim7 := { stood := { row := fnExactShowHoldingUptoRow, standIns := [], harness := (true, "85593f48ce9b259981cfca009874c809e1736f9ee03fdd7e29a76f7f007136dc"), looks := true }, kinds := [], alts := [], laidByText := true, laidKinds := [.data, .data, .data], laidTests := true, laidLooks := .later }
def FnExactShowHoldingUptoCardSaid : Prop := Claim7.holds Tryd.pinned (.plain (OpenSpec.upto fnExactShowHoldingSpec)) fnExactShowHoldingUptoCard

/-- THE SECOND FORM's CARD OF 'laws.FnExactReadHolding'. -/
def fnExactReadHoldingUptoCard : Claim7 := { stood := { row := fnExactReadHoldingUptoRow, standIns := [], harness := (true, "85593f48ce9b259981cfca009874c809e1736f9ee03fdd7e29a76f7f007136dc"), looks := true }, kinds := [], alts := [], laidByText := true, laidKinds := [.data, .data, .data, .data, .sentinel, .sentinel, .pinned], laidTests := true, laidLooks := .later }
def FnExactReadHoldingUptoCardSaid : Prop := Claim7.holds Tryd.pinned (.plain (OpenSpec.upto fnExactReadHoldingSpec)) fnExactReadHoldingUptoCard
end Rows
end Go.Proofs.YtifffiekibdgnaaDoor
