/-
  DERIVED. GIVEN WITH THE SEED: THE CARDS: each row of YtaflfbofkeppjaaGreatDoorRows.lean that lists a variable, with what it lists TIED to the program's text (the seventh form; the later family's looks); each row that meets fmt, with fmt's text TOLD by the authors' own Lean function (tested against real Go, not proved from fmt's source: count such statements apart). THE CARD IS WHAT COUNTS. Prove the row's statement (the work); the ties are given (YtaflfbofkeppjaaGreatDoorTie.lean); close each card by the builder's one call (the guide's Derived/Test/ToyasCard.lean, 'card_holds'). Laid BY PROGRAM, IN A SANDBOX (cutbox-door.mjs). By AI agents, Wed Nov 11 2026. No macro, syntax, notation, axiom, sorry.
-/
import Derived.Test.YtaflfbofkeppjaaGreatDoorRows
import GoSem.ClaimSeven
namespace Go.Proofs.YtaflfbofkeppjaaGreatDoor
namespace Rows

/-- THE TIED CARD OF 'arithmeticalaw.ContExpands'. -/
def contExpandsCard : Claim7 := { stood := { row := contExpandsRow, standIns := [], harness := (true, "1c68df12f6969982f1cfa59b766a862de12711299f1173b3a527a66a760a4eda"), looks := false }, kinds := [], alts := [], laidByText := true, laidKinds := [.data, .data, .data], laidTests := true, laidLooks := .later }
def ContExpandsCardSaid : Prop := Claim7.holds Tryz.pinned (.plain (OpenSpec.ofChange contExpandsSpec)) contExpandsCard

/-- THE TIED CARD OF 'arithmeticalaw.ContNears'. -/
def contNearsCard : Claim7 := { stood := { row := contNearsRow, standIns := [], harness := (true, "1c68df12f6969982f1cfa59b766a862de12711299f1173b3a527a66a760a4eda"), looks := false }, kinds := [], alts := [], laidByText := true, laidKinds := [.data, .data, .data], laidTests := true, laidLooks := .later }
def ContNearsCardSaid : Prop := Claim7.holds Tryz.pinned (.plain (OpenSpec.ofChange contNearsSpec)) contNearsCard

/-- THE TIED CARD OF 'arithmeticalaw.ContUnits'. -/
def contUnitsCard : Claim7 := { stood := { row := contUnitsRow, standIns := [], harness := (true, "1c68df12f6969982f1cfa59b766a862de12711299f1173b3a527a66a760a4eda"), looks := false }, kinds := [], alts := [], laidByText := true, laidKinds := [.data, .data, .data], laidTests := true, laidLooks := .later }
def ContUnitsCardSaid : Prop := Claim7.holds Tryz.pinned (.plain (OpenSpec.ofChange contUnitsSpec)) contUnitsCard

/-- THE TIED CARD OF 'arithmeticalaw.SquareTwo'. -/
def squareTwoCard : Claim7 := { stood := { row := squareTwoRow, standIns := [], harness := (true, "1c68df12f6969982f1cfa59b766a862de12711299f1173b3a527a66a760a4eda"), looks := false }, kinds := [], alts := [], laidByText := true, laidKinds := [.data], laidTests := true, laidLooks := .later }
def SquareTwoCardSaid : Prop := Claim7.holds Tryz.pinned (.plain (OpenSpec.ofChange squareTwoSpec)) squareTwoCard

/-- THE TIED CARD OF 'arithmeticalaw.SquareThree'. -/
def squareThreeCard : Claim7 := { stood := { row := squareThreeRow, standIns := [], harness := (true, "1c68df12f6969982f1cfa59b766a862de12711299f1173b3a527a66a760a4eda"), looks := false }, kinds := [], alts := [], laidByText := true, laidKinds := [.data], laidTests := true, laidLooks := .later }
def SquareThreeCardSaid : Prop := Claim7.holds Tryz.pinned (.plain (OpenSpec.ofChange squareThreeSpec)) squareThreeCard

/-- THE TIED CARD OF 'arithmeticalaw.SquareJacobi'. -/
def squareJacobiCard : Claim7 := { stood := { row := squareJacobiRow, standIns := [], harness := (true, "1c68df12f6969982f1cfa59b766a862de12711299f1173b3a527a66a760a4eda"), looks := false }, kinds := [], alts := [], laidByText := true, laidKinds := [.data, .data, .data], laidTests := true, laidLooks := .later }
def SquareJacobiCardSaid : Prop := Claim7.holds Tryz.pinned (.plain (OpenSpec.ofChange squareJacobiSpec)) squareJacobiCard

/-- THE SECOND FORM's CARD OF 'arithmeticalaw.ContExpands'. -/
def contExpandsUptoCard : Claim7 := { stood := { row := contExpandsUptoRow, standIns := [], harness := (true, "1c68df12f6969982f1cfa59b766a862de12711299f1173b3a527a66a760a4eda"), looks := false }, kinds := [], alts := [], laidByText := true, laidKinds := [.data, .data, .data], laidTests := true, laidLooks := .later }
def ContExpandsUptoCardSaid : Prop := Claim7.holds Tryz.pinned (.plain (OpenSpec.upto contExpandsSpec)) contExpandsUptoCard

/-- THE SECOND FORM's CARD OF 'arithmeticalaw.ContNears'. -/
def contNearsUptoCard : Claim7 := { stood := { row := contNearsUptoRow, standIns := [], harness := (true, "1c68df12f6969982f1cfa59b766a862de12711299f1173b3a527a66a760a4eda"), looks := false }, kinds := [], alts := [], laidByText := true, laidKinds := [.data, .data, .data], laidTests := true, laidLooks := .later }
def ContNearsUptoCardSaid : Prop := Claim7.holds Tryz.pinned (.plain (OpenSpec.upto contNearsSpec)) contNearsUptoCard

/-- THE SECOND FORM's CARD OF 'arithmeticalaw.ContUnits'. -/
def contUnitsUptoCard : Claim7 := { stood := { row := contUnitsUptoRow, standIns := [], harness := (true, "1c68df12f6969982f1cfa59b766a862de12711299f1173b3a527a66a760a4eda"), looks := false }, kinds := [], alts := [], laidByText := true, laidKinds := [.data, .data, .data], laidTests := true, laidLooks := .later }
def ContUnitsUptoCardSaid : Prop := Claim7.holds Tryz.pinned (.plain (OpenSpec.upto contUnitsSpec)) contUnitsUptoCard

/-- THE SECOND FORM's CARD OF 'arithmeticalaw.SquareTwo'. -/
def squareTwoUptoCard : Claim7 := { stood := { row := squareTwoUptoRow, standIns := [], harness := (true, "1c68df12f6969982f1cfa59b766a862de12711299f1173b3a527a66a760a4eda"), looks := false }, kinds := [], alts := [], laidByText := true, laidKinds := [.data], laidTests := true, laidLooks := .later }
def SquareTwoUptoCardSaid : Prop := Claim7.holds Tryz.pinned (.plain (OpenSpec.upto squareTwoSpec)) squareTwoUptoCard

/-- THE SECOND FORM's CARD OF 'arithmeticalaw.SquareThree'. -/
def squareThreeUptoCard : Claim7 := { stood := { row := squareThreeUptoRow, standIns := [], harness := (true, "1c68df12f6969982f1cfa59b766a862de12711299f1173b3a527a66a760a4eda"), looks := false }, kinds := [], alts := [], laidByText := true, laidKinds := [.data], laidTests := true, laidLooks := .later }
def SquareThreeUptoCardSaid : Prop := Claim7.holds Tryz.pinned (.plain (OpenSpec.upto squareThreeSpec)) squareThreeUptoCard

/-- THE SECOND FORM's CARD OF 'arithmeticalaw.SquareJacobi'. -/
def squareJacobiUptoCard : Claim7 := { stood := { row := squareJacobiUptoRow, standIns := [], harness := (true, "1c68df12f6969982f1cfa59b766a862de12711299f1173b3a527a66a760a4eda"), looks := false }, kinds := [], alts := [], laidByText := true, laidKinds := [.data, .data, .data], laidTests := true, laidLooks := .later }
def SquareJacobiUptoCardSaid : Prop := Claim7.holds Tryz.pinned (.plain (OpenSpec.upto squareJacobiSpec)) squareJacobiUptoCard
end Rows
end Go.Proofs.YtaflfbofkeppjaaGreatDoor
