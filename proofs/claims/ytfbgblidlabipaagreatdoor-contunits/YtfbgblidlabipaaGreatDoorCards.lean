/-
  DERIVED. GIVEN WITH THE SEED: THE CARDS: each row of YtfbgblidlabipaaGreatDoorRows.lean that lists a variable, with what it lists TIED to the program's text (the seventh form; the later family's looks); each row that meets fmt, with fmt's text TOLD by the authors' own Lean function (tested against real Go, not proved from fmt's source: count such statements apart). THE CARD IS WHAT COUNTS. Prove the row's statement (the work); the ties are given (YtfbgblidlabipaaGreatDoorTie.lean); close each card by the builder's one call (the guide's Derived/Test/ToyasCard.lean, 'card_holds'). Laid BY PROGRAM, IN A SANDBOX (cutbox-door.mjs). By AI agents, Wed Nov 11 2026. No macro, syntax, notation, axiom, sorry.
-/
import Derived.Test.YtfbgblidlabipaaGreatDoorRows
import GoSem.ClaimSeven
namespace Go.Proofs.YtfbgblidlabipaaGreatDoor
namespace Rows

/-- THE TIED CARD OF 'arithmeticalaw.ContNears'. -/
def contNearsCard : Claim7 := { stood := { row := contNearsRow, standIns := [], harness := (true, "e4117e5ac5fcfac9eb97633aa1aca0ef97eb697c81e653a9f6788b6f4d71654a"), looks := false }, kinds := [], alts := [], laidByText := true, laidKinds := [.data, .data, .data], laidTests := true, laidLooks := .later }
def ContNearsCardSaid : Prop := Claim7.holds Tryz.pinned (.plain (OpenSpec.ofChange contNearsSpec)) contNearsCard

/-- THE TIED CARD OF 'arithmeticalaw.ContUnits'. -/
def contUnitsCard : Claim7 := { stood := { row := contUnitsRow, standIns := [], harness := (true, "e4117e5ac5fcfac9eb97633aa1aca0ef97eb697c81e653a9f6788b6f4d71654a"), looks := false }, kinds := [], alts := [], laidByText := true, laidKinds := [.data, .data, .data], laidTests := true, laidLooks := .later }
def ContUnitsCardSaid : Prop := Claim7.holds Tryz.pinned (.plain (OpenSpec.ofChange contUnitsSpec)) contUnitsCard

/-- THE TIED CARD OF 'arithmeticalaw.SquareJacobi'. -/
def squareJacobiCard : Claim7 := { stood := { row := squareJacobiRow, standIns := [], harness := (true, "e4117e5ac5fcfac9eb97633aa1aca0ef97eb697c81e653a9f6788b6f4d71654a"), looks := false }, kinds := [], alts := [], laidByText := true, laidKinds := [.data, .data, .data], laidTests := true, laidLooks := .later }
def SquareJacobiCardSaid : Prop := Claim7.holds Tryz.pinned (.plain (OpenSpec.ofChange squareJacobiSpec)) squareJacobiCard

/-- THE TIED CARD OF 'arithmeticalaw.GridForms'. -/
def gridFormsCard : Claim7 := { stood := { row := gridFormsRow, standIns := [], harness := (true, "e4117e5ac5fcfac9eb97633aa1aca0ef97eb697c81e653a9f6788b6f4d71654a"), looks := false }, kinds := [], alts := [], laidByText := true, laidKinds := [.data, .data, .data], laidTests := true, laidLooks := .later }
def GridFormsCardSaid : Prop := Claim7.holds Tryz.pinned (.plain (OpenSpec.ofChange gridFormsSpec)) gridFormsCard

/-- THE TIED CARD OF 'arithmeticalaw.GridSmith'. -/
def gridSmithCard : Claim7 := { stood := { row := gridSmithRow, standIns := [], harness := (true, "e4117e5ac5fcfac9eb97633aa1aca0ef97eb697c81e653a9f6788b6f4d71654a"), looks := false }, kinds := [], alts := [], laidByText := true, laidKinds := [.data, .data, .data], laidTests := true, laidLooks := .later }
def GridSmithCardSaid : Prop := Claim7.holds Tryz.pinned (.plain (OpenSpec.ofChange gridSmithSpec)) gridSmithCard

/-- THE TIED CARD OF 'arithmeticalaw.GridSolves'. -/
def gridSolvesCard : Claim7 := { stood := { row := gridSolvesRow, standIns := [], harness := (true, "e4117e5ac5fcfac9eb97633aa1aca0ef97eb697c81e653a9f6788b6f4d71654a"), looks := false }, kinds := [], alts := [], laidByText := true, laidKinds := [.data, .data, .data], laidTests := true, laidLooks := .later }
def GridSolvesCardSaid : Prop := Claim7.holds Tryz.pinned (.plain (OpenSpec.ofChange gridSolvesSpec)) gridSolvesCard

/-- THE SECOND FORM's CARD OF 'arithmeticalaw.ContNears'. -/
def contNearsUptoCard : Claim7 := { stood := { row := contNearsUptoRow, standIns := [], harness := (true, "e4117e5ac5fcfac9eb97633aa1aca0ef97eb697c81e653a9f6788b6f4d71654a"), looks := false }, kinds := [], alts := [], laidByText := true, laidKinds := [.data, .data, .data], laidTests := true, laidLooks := .later }
def ContNearsUptoCardSaid : Prop := Claim7.holds Tryz.pinned (.plain (OpenSpec.upto contNearsSpec)) contNearsUptoCard

/-- THE SECOND FORM's CARD OF 'arithmeticalaw.ContUnits'. -/
def contUnitsUptoCard : Claim7 := { stood := { row := contUnitsUptoRow, standIns := [], harness := (true, "e4117e5ac5fcfac9eb97633aa1aca0ef97eb697c81e653a9f6788b6f4d71654a"), looks := false }, kinds := [], alts := [], laidByText := true, laidKinds := [.data, .data, .data], laidTests := true, laidLooks := .later }
def ContUnitsUptoCardSaid : Prop := Claim7.holds Tryz.pinned (.plain (OpenSpec.upto contUnitsSpec)) contUnitsUptoCard

/-- THE SECOND FORM's CARD OF 'arithmeticalaw.SquareJacobi'. -/
def squareJacobiUptoCard : Claim7 := { stood := { row := squareJacobiUptoRow, standIns := [], harness := (true, "e4117e5ac5fcfac9eb97633aa1aca0ef97eb697c81e653a9f6788b6f4d71654a"), looks := false }, kinds := [], alts := [], laidByText := true, laidKinds := [.data, .data, .data], laidTests := true, laidLooks := .later }
def SquareJacobiUptoCardSaid : Prop := Claim7.holds Tryz.pinned (.plain (OpenSpec.upto squareJacobiSpec)) squareJacobiUptoCard

/-- THE SECOND FORM's CARD OF 'arithmeticalaw.GridForms'. -/
def gridFormsUptoCard : Claim7 := { stood := { row := gridFormsUptoRow, standIns := [], harness := (true, "e4117e5ac5fcfac9eb97633aa1aca0ef97eb697c81e653a9f6788b6f4d71654a"), looks := false }, kinds := [], alts := [], laidByText := true, laidKinds := [.data, .data, .data], laidTests := true, laidLooks := .later }
def GridFormsUptoCardSaid : Prop := Claim7.holds Tryz.pinned (.plain (OpenSpec.upto gridFormsSpec)) gridFormsUptoCard

/-- THE SECOND FORM's CARD OF 'arithmeticalaw.GridSmith'. -/
def gridSmithUptoCard : Claim7 := { stood := { row := gridSmithUptoRow, standIns := [], harness := (true, "e4117e5ac5fcfac9eb97633aa1aca0ef97eb697c81e653a9f6788b6f4d71654a"), looks := false }, kinds := [], alts := [], laidByText := true, laidKinds := [.data, .data, .data], laidTests := true, laidLooks := .later }
def GridSmithUptoCardSaid : Prop := Claim7.holds Tryz.pinned (.plain (OpenSpec.upto gridSmithSpec)) gridSmithUptoCard

/-- THE SECOND FORM's CARD OF 'arithmeticalaw.GridSolves'. -/
def gridSolvesUptoCard : Claim7 := { stood := { row := gridSolvesUptoRow, standIns := [], harness := (true, "e4117e5ac5fcfac9eb97633aa1aca0ef97eb697c81e653a9f6788b6f4d71654a"), looks := false }, kinds := [], alts := [], laidByText := true, laidKinds := [.data, .data, .data], laidTests := true, laidLooks := .later }
def GridSolvesUptoCardSaid : Prop := Claim7.holds Tryz.pinned (.plain (OpenSpec.upto gridSolvesSpec)) gridSolvesUptoCard
end Rows
end Go.Proofs.YtfbgblidlabipaaGreatDoor
