/-
  DERIVED. GIVEN WITH THE SEED: THE CARDS: each row of YtphmjjmgpnlagaaDoorRows.lean that lists a variable, with what it lists TIED to the program's text (the seventh form; the later family's looks); each row that meets fmt, with fmt's text TOLD by the authors' own Lean function (tested against real Go, not proved from fmt's source: count such statements apart). THE CARD IS WHAT COUNTS. Prove the row's statement (the work); the ties are given (YtphmjjmgpnlagaaDoorTie.lean); close each card by the builder's one call (the guide's Derived/Test/ToyasCard.lean, 'card_holds'). Laid BY PROGRAM, IN A SANDBOX (cutbox-door.mjs). By AI agents, Wed Nov 11 2026. No macro, syntax, notation, axiom, sorry.
-/
import Derived.Test.YtphmjjmgpnlagaaDoorRows
import GoSem.ClaimSeven
namespace Go.Proofs.YtphmjjmgpnlagaaDoor
namespace Rows

/-- THE TIED CARD OF 'laws.FnFrames'. -/
def fnFramesCard : Claim7 := { stood := { row := fnFramesRow, standIns := [], harness := (true, "3a2c60c9ceecd31aee853b02944ebfd33f18ee07aa59bd80782cfd17fb127011"), looks := false }, kinds := [], alts := [], laidByText := true, laidKinds := [.data, .data, .data], laidTests := true, laidLooks := .later }
def FnFramesCardSaid : Prop := Claim7.holds Tryd.pinned (.plain (OpenSpec.ofChange fnFramesSpec)) fnFramesCard

/-- THE TIED CARD OF 'laws.FnExactFramed'. -/
def fnExactFramedCard : Claim7 := { stood := { row := fnExactFramedRow, standIns := [], harness := (true, "3a2c60c9ceecd31aee853b02944ebfd33f18ee07aa59bd80782cfd17fb127011"), looks := false }, kinds := [], alts := [], laidByText := true, laidKinds := [.data, .data, .data], laidTests := true, laidLooks := .later }
def FnExactFramedCardSaid : Prop := Claim7.holds Tryd.pinned (.plain (OpenSpec.ofChange fnExactFramedSpec)) fnExactFramedCard

/-- THE TIED CARD OF 'laws.FnExactFrames'. -/
def fnExactFramesCard : Claim7 := { stood := { row := fnExactFramesRow, standIns := [], harness := (true, "3a2c60c9ceecd31aee853b02944ebfd33f18ee07aa59bd80782cfd17fb127011"), looks := false }, kinds := [], alts := [], laidByText := true, laidKinds := [.data, .data, .data], laidTests := true, laidLooks := .later }
def FnExactFramesCardSaid : Prop := Claim7.holds Tryd.pinned (.plain (OpenSpec.ofChange fnExactFramesSpec)) fnExactFramesCard

/-- THE TIED CARD OF 'laws.FnExactLast'. -/
def fnExactLastCard : Claim7 := { stood := { row := fnExactLastRow, standIns := [], harness := (true, "3a2c60c9ceecd31aee853b02944ebfd33f18ee07aa59bd80782cfd17fb127011"), looks := false }, kinds := [], alts := [], laidByText := true, laidKinds := [.data, .data, .data], laidTests := true, laidLooks := .later }
def FnExactLastCardSaid : Prop := Claim7.holds Tryd.pinned (.plain (OpenSpec.ofChange fnExactLastSpec)) fnExactLastCard

/-- THE SECOND FORM's CARD OF 'laws.FnFrames'. -/
def fnFramesUptoCard : Claim7 := { stood := { row := fnFramesUptoRow, standIns := [], harness := (true, "3a2c60c9ceecd31aee853b02944ebfd33f18ee07aa59bd80782cfd17fb127011"), looks := false }, kinds := [], alts := [], laidByText := true, laidKinds := [.data, .data, .data], laidTests := true, laidLooks := .later }
def FnFramesUptoCardSaid : Prop := Claim7.holds Tryd.pinned (.plain (OpenSpec.upto fnFramesSpec)) fnFramesUptoCard

/-- THE SECOND FORM's CARD OF 'laws.FnExactFramed'. -/
def fnExactFramedUptoCard : Claim7 := { stood := { row := fnExactFramedUptoRow, standIns := [], harness := (true, "3a2c60c9ceecd31aee853b02944ebfd33f18ee07aa59bd80782cfd17fb127011"), looks := false }, kinds := [], alts := [], laidByText := true, laidKinds := [.data, .data, .data], laidTests := true, laidLooks := .later }
def FnExactFramedUptoCardSaid : Prop := Claim7.holds Tryd.pinned (.plain (OpenSpec.upto fnExactFramedSpec)) fnExactFramedUptoCard

/-- THE SECOND FORM's CARD OF 'laws.FnExactFrames'. -/
def fnExactFramesUptoCard : Claim7 := { stood := { row := fnExactFramesUptoRow, standIns := [], harness := (true, "3a2c60c9ceecd31aee853b02944ebfd33f18ee07aa59bd80782cfd17fb127011"), looks := false }, kinds := [], alts := [], laidByText := true, laidKinds := [.data, .data, .data], laidTests := true, laidLooks := .later }
def FnExactFramesUptoCardSaid : Prop := Claim7.holds Tryd.pinned (.plain (OpenSpec.upto fnExactFramesSpec)) fnExactFramesUptoCard

/-- THE SECOND FORM's CARD OF 'laws.FnExactLast'. -/
def fnExactLastUptoCard : Claim7 := { stood := { row := fnExactLastUptoRow, standIns := [], harness := (true, "3a2c60c9ceecd31aee853b02944ebfd33f18ee07aa59bd80782cfd17fb127011"), looks := false }, kinds := [], alts := [], laidByText := true, laidKinds := [.data, .data, .data], laidTests := true, laidLooks := .later }
def FnExactLastUptoCardSaid : Prop := Claim7.holds Tryd.pinned (.plain (OpenSpec.upto fnExactLastSpec)) fnExactLastUptoCard
end Rows
end Go.Proofs.YtphmjjmgpnlagaaDoor
