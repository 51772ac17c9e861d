/-
  DERIVED. GIVEN WITH THE SEED: THE CARDS: each row of YteooloceaoinlaaGreatDoorRows.lean that lists a variable, with what it lists TIED to the program's text (the seventh form; the later family's looks); each row that meets fmt, with fmt's text TOLD by the authors' own Lean function (tested against real Go, not proved from fmt's source: count such statements apart). THE CARD IS WHAT COUNTS. Prove the row's statement (the work); the ties are given (YteooloceaoinlaaGreatDoorTie.lean); close each card by the builder's one call (the guide's Derived/Test/ToyasCard.lean, 'card_holds'). Laid BY PROGRAM, IN A SANDBOX (cutbox-door.mjs). By AI agents, Wed Nov 11 2026. No macro, syntax, notation, axiom, sorry.
-/
import Derived.Test.YteooloceaoinlaaGreatDoorRows
import GoSem.ClaimSeven
namespace Go.Proofs.YteooloceaoinlaaGreatDoor
namespace Rows

/-- THE TIED CARD OF 'laws.FnExactNodeOk'. -/
def fnExactNodeOkCard : Claim7 := { stood := { row := fnExactNodeOkRow, standIns := [], harness := (true, "ee2148919edf7c01316df07e360d6246ce2a87491b349b1f7f3dccfec9331b1d"), looks := false }, kinds := [], alts := [], laidByText := true, laidKinds := [.data, .data, .data, .data, .pinned], laidTests := true, laidLooks := .later }
def FnExactNodeOkCardSaid : Prop := Claim7.holds Tryz.pinned (.plain (OpenSpec.ofChange fnExactNodeOkSpec)) fnExactNodeOkCard

/-- THE TIED CARD OF 'laws.FnExactFallen'. -/
def fnExactFallenCard : Claim7 := { stood := { row := fnExactFallenRow, standIns := [], harness := (true, "ee2148919edf7c01316df07e360d6246ce2a87491b349b1f7f3dccfec9331b1d"), looks := false }, kinds := [], alts := [], laidByText := true, laidKinds := [.data, .data, .data, .data, .pinned], laidTests := true, laidLooks := .later }
def FnExactFallenCardSaid : Prop := Claim7.holds Tryz.pinned (.plain (OpenSpec.ofChange fnExactFallenSpec)) fnExactFallenCard

/-- THE TIED CARD OF 'laws.FnExactRisen'. -/
def fnExactRisenCard : Claim7 := { stood := { row := fnExactRisenRow, standIns := [], harness := (true, "ee2148919edf7c01316df07e360d6246ce2a87491b349b1f7f3dccfec9331b1d"), looks := false }, kinds := [], alts := [], laidByText := true, laidKinds := [.data, .data, .data, .data, .pinned], laidTests := true, laidLooks := .later }
def FnExactRisenCardSaid : Prop := Claim7.holds Tryz.pinned (.plain (OpenSpec.ofChange fnExactRisenSpec)) fnExactRisenCard

/-- THE SECOND FORM's CARD OF 'laws.FnExactNodeOk'. -/
def fnExactNodeOkUptoCard : Claim7 := { stood := { row := fnExactNodeOkUptoRow, standIns := [], harness := (true, "ee2148919edf7c01316df07e360d6246ce2a87491b349b1f7f3dccfec9331b1d"), looks := false }, kinds := [], alts := [], laidByText := true, laidKinds := [.data, .data, .data, .data, .pinned], laidTests := true, laidLooks := .later }
def FnExactNodeOkUptoCardSaid : Prop := Claim7.holds Tryz.pinned (.plain (OpenSpec.upto fnExactNodeOkSpec)) fnExactNodeOkUptoCard

/-- THE SECOND FORM's CARD OF 'laws.FnExactFallen'. -/
def fnExactFallenUptoCard : Claim7 := { stood := { row := fnExactFallenUptoRow, standIns := [], harness := (true, "ee2148919edf7c01316df07e360d6246ce2a87491b349b1f7f3dccfec9331b1d"), looks := false }, kinds := [], alts := [], laidByText := true, laidKinds := [.data, .data, .data, .data, .pinned], laidTests := true, laidLooks := .later }
def FnExactFallenUptoCardSaid : Prop := Claim7.holds Tryz.pinned (.plain (OpenSpec.upto fnExactFallenSpec)) fnExactFallenUptoCard

/-- THE SECOND FORM's CARD OF 'laws.FnExactRisen'. -/
def fnExactRisenUptoCard : Claim7 := { stood := { row := fnExactRisenUptoRow, standIns := [], harness := (true, "ee2148919edf7c01316df07e360d6246ce2a87491b349b1f7f3dccfec9331b1d"), looks := false }, kinds := [], alts := [], laidByText := true, laidKinds := [.data, .data, .data, .data, .pinned], laidTests := true, laidLooks := .later }
def FnExactRisenUptoCardSaid : Prop := Claim7.holds Tryz.pinned (.plain (OpenSpec.upto fnExactRisenSpec)) fnExactRisenUptoCard
end Rows
end Go.Proofs.YteooloceaoinlaaGreatDoor
