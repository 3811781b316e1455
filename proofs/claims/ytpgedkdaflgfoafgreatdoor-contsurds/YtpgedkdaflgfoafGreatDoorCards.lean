/-
  DERIVED. GIVEN WITH THE SEED: THE CARDS: each row of YtpgedkdaflgfoafGreatDoorRows.lean that lists a variable, with what it lists TIED to the program's text (the seventh form; the later family's looks); each row that meets fmt, with fmt's text TOLD by the authors' own Lean function (tested against real Go, not proved from fmt's source: count such statements apart). THE CARD IS WHAT COUNTS. Prove the row's statement (the work); the ties are given (YtpgedkdaflgfoafGreatDoorTie.lean); close each card by the builder's one call (the guide's Derived/Test/ToyasCard.lean, 'card_holds'). Laid BY PROGRAM, IN A SANDBOX (cutbox-door.mjs). By AI agents, Wed Nov 11 2026. No macro, syntax, notation, axiom, sorry.
-/
import Derived.Test.YtpgedkdaflgfoafGreatDoorRows
import GoSem.ClaimSeven
namespace Go.Proofs.YtpgedkdaflgfoafGreatDoor
namespace Rows

/-- THE TIED CARD OF 'arithmeticalaw.ContNears'. -/
def contNearsCard : Claim7 := { stood := { row := contNearsRow, standIns := [], harness := (true, "59cbbaa35ad3b663d3f58e167954a31618b128b0dfc5aa2d74c2fbd47483d35e"), looks := false }, kinds := [], alts := [], laidByText := true, laidKinds := [.data, .data, .data], laidTests := true, laidLooks := .later }
def ContNearsCardSaid : Prop := Claim7.holds Tryz.pinned (.plain (OpenSpec.ofChange contNearsSpec)) contNearsCard

/-- THE TIED CARD OF 'arithmeticalaw.ContSurds'. -/
def contSurdsCard : Claim7 := { stood := { row := contSurdsRow, standIns := [], harness := (true, "59cbbaa35ad3b663d3f58e167954a31618b128b0dfc5aa2d74c2fbd47483d35e"), looks := false }, kinds := [], alts := [], laidByText := true, laidKinds := [.data, .data, .data], laidTests := true, laidLooks := .later }
def ContSurdsCardSaid : Prop := Claim7.holds Tryz.pinned (.plain (OpenSpec.ofChange contSurdsSpec)) contSurdsCard

/-- THE TIED CARD OF 'arithmeticalaw.ContUnits'. -/
def contUnitsCard : Claim7 := { stood := { row := contUnitsRow, standIns := [], harness := (true, "59cbbaa35ad3b663d3f58e167954a31618b128b0dfc5aa2d74c2fbd47483d35e"), looks := false }, kinds := [], alts := [], laidByText := true, laidKinds := [.data, .data, .data], laidTests := true, laidLooks := .later }
def ContUnitsCardSaid : Prop := Claim7.holds Tryz.pinned (.plain (OpenSpec.ofChange contUnitsSpec)) contUnitsCard

/-- THE SECOND FORM's CARD OF 'arithmeticalaw.ContNears'. -/
def contNearsUptoCard : Claim7 := { stood := { row := contNearsUptoRow, standIns := [], harness := (true, "59cbbaa35ad3b663d3f58e167954a31618b128b0dfc5aa2d74c2fbd47483d35e"), looks := false }, kinds := [], alts := [], laidByText := true, laidKinds := [.data, .data, .data], laidTests := true, laidLooks := .later }
def ContNearsUptoCardSaid : Prop := Claim7.holds Tryz.pinned (.plain (OpenSpec.upto contNearsSpec)) contNearsUptoCard

/-- THE SECOND FORM's CARD OF 'arithmeticalaw.ContSurds'. -/
def contSurdsUptoCard : Claim7 := { stood := { row := contSurdsUptoRow, standIns := [], harness := (true, "59cbbaa35ad3b663d3f58e167954a31618b128b0dfc5aa2d74c2fbd47483d35e"), looks := false }, kinds := [], alts := [], laidByText := true, laidKinds := [.data, .data, .data], laidTests := true, laidLooks := .later }
def ContSurdsUptoCardSaid : Prop := Claim7.holds Tryz.pinned (.plain (OpenSpec.upto contSurdsSpec)) contSurdsUptoCard

/-- THE SECOND FORM's CARD OF 'arithmeticalaw.ContUnits'. -/
def contUnitsUptoCard : Claim7 := { stood := { row := contUnitsUptoRow, standIns := [], harness := (true, "59cbbaa35ad3b663d3f58e167954a31618b128b0dfc5aa2d74c2fbd47483d35e"), looks := false }, kinds := [], alts := [], laidByText := true, laidKinds := [.data, .data, .data], laidTests := true, laidLooks := .later }
def ContUnitsUptoCardSaid : Prop := Claim7.holds Tryz.pinned (.plain (OpenSpec.upto contUnitsSpec)) contUnitsUptoCard
end Rows
end Go.Proofs.YtpgedkdaflgfoafGreatDoor
