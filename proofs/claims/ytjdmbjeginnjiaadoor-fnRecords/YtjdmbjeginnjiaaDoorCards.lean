/-
  DERIVED. GIVEN WITH THE SEED: THE CARDS: each row of YtjdmbjeginnjiaaDoorRows.lean that lists a variable, with what it lists TIED to the program's text (the seventh form; the later family's looks); each row that meets fmt, with fmt's text TOLD by the authors' own Lean function (tested against real Go, not proved from fmt's source: count such statements apart). THE CARD IS WHAT COUNTS. Prove the row's statement (the work); the ties are given (YtjdmbjeginnjiaaDoorTie.lean); close each card by the builder's one call (the guide's Derived/Test/ToyasCard.lean, 'card_holds'). Laid BY PROGRAM, IN A SANDBOX (cutbox-door.mjs). By AI agents, Wed Nov 11 2026. No macro, syntax, notation, axiom, sorry.
-/
import Derived.Test.YtjdmbjeginnjiaaDoorRows
import GoSem.ClaimSeven
namespace Go.Proofs.YtjdmbjeginnjiaaDoor
namespace Rows

/-- THE TIED CARD OF 'laws.FnRecords'. -/
def fnRecordsCard : Claim7 := { stood := { row := fnRecordsRow, standIns := [], harness := (true, "b1ea88092d56401eebd89eaf7810bc628da5b02a79eea76bda1c2b9a0f36b811"), looks := false }, kinds := [], alts := [], laidByText := true, laidKinds := [.data, .data, .data, .data, .pinned], laidTests := true, laidLooks := .later }
def FnRecordsCardSaid : Prop := Claim7.holds Tryd.pinned (.plain (OpenSpec.ofChange fnRecordsSpec)) fnRecordsCard

/-- THE TIED CARD OF 'laws.FnExactShowRecord'. -/
def fnExactShowRecordCard : Claim7 := { stood := { row := fnExactShowRecordRow, standIns := [], harness := (true, "b1ea88092d56401eebd89eaf7810bc628da5b02a79eea76bda1c2b9a0f36b811"), looks := false }, kinds := [], alts := [], laidByText := true, laidKinds := [.data, .data, .data], laidTests := true, laidLooks := .later }
def FnExactShowRecordCardSaid : Prop := Claim7.holds Tryd.pinned (.plain (OpenSpec.ofChange fnExactShowRecordSpec)) fnExactShowRecordCard

/-- THE TIED CARD OF 'laws.FnExactReadRecord'. -/
def fnExactReadRecordCard : Claim7 := { stood := { row := fnExactReadRecordRow, standIns := [], harness := (true, "b1ea88092d56401eebd89eaf7810bc628da5b02a79eea76bda1c2b9a0f36b811"), looks := false }, kinds := [], alts := [], laidByText := true, laidKinds := [.data, .pinned], laidTests := true, laidLooks := .later }
def FnExactReadRecordCardSaid : Prop := Claim7.holds Tryd.pinned (.plain (OpenSpec.ofChange fnExactReadRecordSpec)) fnExactReadRecordCard

/-- THE TIED CARD OF 'laws.FnExactNoted'. -/
def fnExactNotedCard : Claim7 := { stood := { row := fnExactNotedRow, standIns := [], harness := (true, "b1ea88092d56401eebd89eaf7810bc628da5b02a79eea76bda1c2b9a0f36b811"), looks := false }, kinds := [], alts := [], laidByText := true, laidKinds := [.data, .data, .data], laidTests := true, laidLooks := .later }
def FnExactNotedCardSaid : Prop := Claim7.holds Tryd.pinned (.plain (OpenSpec.ofChange fnExactNotedSpec)) fnExactNotedCard

/-- THE TIED CARD OF 'laws.FnExactRecalled'. -/
def fnExactRecalledCard : Claim7 := { stood := { row := fnExactRecalledRow, standIns := [], harness := (true, "b1ea88092d56401eebd89eaf7810bc628da5b02a79eea76bda1c2b9a0f36b811"), looks := false }, kinds := [], alts := [], laidByText := true, laidKinds := [.data, .data, .data, .data, .pinned], laidTests := true, laidLooks := .later }
def FnExactRecalledCardSaid : Prop := Claim7.holds Tryd.pinned (.plain (OpenSpec.ofChange fnExactRecalledSpec)) fnExactRecalledCard

/-- THE SECOND FORM's CARD OF 'laws.FnRecords'. -/
def fnRecordsUptoCard : Claim7 := { stood := { row := fnRecordsUptoRow, standIns := [], harness := (true, "b1ea88092d56401eebd89eaf7810bc628da5b02a79eea76bda1c2b9a0f36b811"), looks := false }, kinds := [], alts := [], laidByText := true, laidKinds := [.data, .data, .data, .data, .pinned], laidTests := true, laidLooks := .later }
def FnRecordsUptoCardSaid : Prop := Claim7.holds Tryd.pinned (.plain (OpenSpec.upto fnRecordsSpec)) fnRecordsUptoCard

/-- THE SECOND FORM's CARD OF 'laws.FnExactShowRecord'. -/
def fnExactShowRecordUptoCard : Claim7 := { stood := { row := fnExactShowRecordUptoRow, standIns := [], harness := (true, "b1ea88092d56401eebd89eaf7810bc628da5b02a79eea76bda1c2b9a0f36b811"), looks := false }, kinds := [], alts := [], laidByText := true, laidKinds := [.data, .data, .data], laidTests := true, laidLooks := .later }
def FnExactShowRecordUptoCardSaid : Prop := Claim7.holds Tryd.pinned (.plain (OpenSpec.upto fnExactShowRecordSpec)) fnExactShowRecordUptoCard

/-- THE SECOND FORM's CARD OF 'laws.FnExactReadRecord'. -/
def fnExactReadRecordUptoCard : Claim7 := { stood := { row := fnExactReadRecordUptoRow, standIns := [], harness := (true, "b1ea88092d56401eebd89eaf7810bc628da5b02a79eea76bda1c2b9a0f36b811"), looks := false }, kinds := [], alts := [], laidByText := true, laidKinds := [.data, .pinned], laidTests := true, laidLooks := .later }
def FnExactReadRecordUptoCardSaid : Prop := Claim7.holds Tryd.pinned (.plain (OpenSpec.upto fnExactReadRecordSpec)) fnExactReadRecordUptoCard

/-- THE SECOND FORM's CARD OF 'laws.FnExactNoted'. -/
def fnExactNotedUptoCard : Claim7 := { stood := { row := fnExactNotedUptoRow, standIns := [], harness := (true, "b1ea88092d56401eebd89eaf7810bc628da5b02a79eea76bda1c2b9a0f36b811"), looks := false }, kinds := [], alts := [], laidByText := true, laidKinds := [.data, .data, .data], laidTests := true, laidLooks := .later }
def FnExactNotedUptoCardSaid : Prop := Claim7.holds Tryd.pinned (.plain (OpenSpec.upto fnExactNotedSpec)) fnExactNotedUptoCard

/-- THE SECOND FORM's CARD OF 'laws.FnExactRecalled'. -/
def fnExactRecalledUptoCard : Claim7 := { stood := { row := fnExactRecalledUptoRow, standIns := [], harness := (true, "b1ea88092d56401eebd89eaf7810bc628da5b02a79eea76bda1c2b9a0f36b811"), looks := false }, kinds := [], alts := [], laidByText := true, laidKinds := [.data, .data, .data, .data, .pinned], laidTests := true, laidLooks := .later }
def FnExactRecalledUptoCardSaid : Prop := Claim7.holds Tryd.pinned (.plain (OpenSpec.upto fnExactRecalledSpec)) fnExactRecalledUptoCard
end Rows
end Go.Proofs.YtjdmbjeginnjiaaDoor
