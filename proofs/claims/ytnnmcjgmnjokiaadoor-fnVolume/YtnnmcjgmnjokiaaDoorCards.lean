/-
  DERIVED. GIVEN WITH THE SEED: THE CARDS: each row of YtnnmcjgmnjokiaaDoorRows.lean that lists a variable, with what it lists TIED to the program's text (the seventh form; the later family's looks); each row that meets fmt, with fmt's text TOLD by the authors' own Lean function (tested against real Go, not proved from fmt's source: count such statements apart). THE CARD IS WHAT COUNTS. Prove the row's statement (the work); the ties are given (YtnnmcjgmnjokiaaDoorTie.lean); close each card by the builder's one call (the guide's Derived/Test/ToyasCard.lean, 'card_holds'). Laid BY PROGRAM, IN A SANDBOX (cutbox-door.mjs). By AI agents, Wed Nov 11 2026. No macro, syntax, notation, axiom, sorry.
-/
import Derived.Test.YtnnmcjgmnjokiaaDoorRows
import GoSem.ClaimSeven
namespace Go.Proofs.YtnnmcjgmnjokiaaDoor
namespace Rows

/-- THE TIED CARD OF 'laws.FnVolume'. -/
def fnVolumeCard : Claim7 := { stood := { row := fnVolumeRow, standIns := [], harness := (true, "3aa7a82c1d5a74517d9fc0157b21a90449f5d2fbbda0ac225e98c04cbfeb6b93"), looks := true }, kinds := [], alts := [], laidByText := true, laidKinds := [.data, .data, .data], laidTests := true, laidLooks := .later }
def FnVolumeCardSaid : Prop := Claim7.holds Tryd.pinned (.plain (OpenSpec.ofChange fnVolumeSpec)) fnVolumeCard

/-- THE TIED CARD OF 'laws.FnExactDidDisk'. -/
def fnExactDidDiskCard : Claim7 := { stood := { row := fnExactDidDiskRow, standIns := [], harness := (true, "3aa7a82c1d5a74517d9fc0157b21a90449f5d2fbbda0ac225e98c04cbfeb6b93"), looks := true }, kinds := [], alts := [], laidByText := true, laidKinds := [.data, .data, .data], laidTests := true, laidLooks := .later }
def FnExactDidDiskCardSaid : Prop := Claim7.holds Tryd.pinned (.plain (OpenSpec.ofChange fnExactDidDiskSpec)) fnExactDidDiskCard

/-- THE SECOND FORM's CARD OF 'laws.FnVolume'. -/
def fnVolumeUptoCard : Claim7 := { stood := { row := fnVolumeUptoRow, standIns := [], harness := (true, "3aa7a82c1d5a74517d9fc0157b21a90449f5d2fbbda0ac225e98c04cbfeb6b93"), looks := true }, kinds := [], alts := [], laidByText := true, laidKinds := [.data, .data, .data], laidTests := true, laidLooks := .later }
def FnVolumeUptoCardSaid : Prop := Claim7.holds Tryd.pinned (.plain (OpenSpec.upto fnVolumeSpec)) fnVolumeUptoCard

/-- THE SECOND FORM's CARD OF 'laws.FnExactDidDisk'. -/
def fnExactDidDiskUptoCard : Claim7 := { stood := { row := fnExactDidDiskUptoRow, standIns := [], harness := (true, "3aa7a82c1d5a74517d9fc0157b21a90449f5d2fbbda0ac225e98c04cbfeb6b93"), looks := true }, kinds := [], alts := [], laidByText := true, laidKinds := [.data, .data, .data], laidTests := true, laidLooks := .later }
def FnExactDidDiskUptoCardSaid : Prop := Claim7.holds Tryd.pinned (.plain (OpenSpec.upto fnExactDidDiskSpec)) fnExactDidDiskUptoCard
end Rows
end Go.Proofs.YtnnmcjgmnjokiaaDoor
