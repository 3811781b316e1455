/-
  DERIVED. GIVEN WITH THE SEED: THE CARDS: each row of YtogdggdaaiajnadGreatDoorRows.lean that lists a variable, with what it lists TIED to the program's text (the seventh form; the later family's looks); each row that meets fmt, with fmt's text TOLD by the authors' own Lean function (tested against real Go, not proved from fmt's source: count such statements apart). THE CARD IS WHAT COUNTS. Prove the row's statement (the work); the ties are given (YtogdggdaaiajnadGreatDoorTie.lean); close each card by the builder's one call (the guide's Derived/Test/ToyasCard.lean, 'card_holds'). Laid BY PROGRAM, IN A SANDBOX (cutbox-door.mjs). By AI agents, Wed Nov 11 2026. No macro, syntax, notation, axiom, sorry.
-/
import Derived.Test.YtogdggdaaiajnadGreatDoorRows
import GoSem.ClaimSeven
namespace Go.Proofs.YtogdggdaaiajnadGreatDoor
namespace Rows

/-- THE TIED CARD OF 'arithmeticalaw.GaussReciprocity'. -/
def gaussReciprocityCard : Claim7 := { stood := { row := gaussReciprocityRow, standIns := [], harness := (true, "04656594a3e8901cc41859a11075f1984f0d4ba29e671f48cc0e4b56a192ce8a"), looks := false }, kinds := [], alts := [], laidByText := true, laidKinds := [.data, .data], laidTests := true, laidLooks := .later }
def GaussReciprocityCardSaid : Prop := Claim7.holds Tryz.pinned (.plain (OpenSpec.ofChange gaussReciprocitySpec)) gaussReciprocityCard

/-- THE TIED CARD OF 'arithmeticalaw.EisenReckons'. -/
def eisenReckonsCard : Claim7 := { stood := { row := eisenReckonsRow, standIns := [], harness := (true, "04656594a3e8901cc41859a11075f1984f0d4ba29e671f48cc0e4b56a192ce8a"), looks := false }, kinds := [], alts := [], laidByText := true, laidKinds := [.data, .data], laidTests := true, laidLooks := .later }
def EisenReckonsCardSaid : Prop := Claim7.holds Tryz.pinned (.plain (OpenSpec.ofChange eisenReckonsSpec)) eisenReckonsCard

/-- THE TIED CARD OF 'arithmeticalaw.EisenFactors'. -/
def eisenFactorsCard : Claim7 := { stood := { row := eisenFactorsRow, standIns := [], harness := (true, "04656594a3e8901cc41859a11075f1984f0d4ba29e671f48cc0e4b56a192ce8a"), looks := false }, kinds := [], alts := [], laidByText := true, laidKinds := [.data, .data], laidTests := true, laidLooks := .later }
def EisenFactorsCardSaid : Prop := Claim7.holds Tryz.pinned (.plain (OpenSpec.ofChange eisenFactorsSpec)) eisenFactorsCard

/-- THE TIED CARD OF 'arithmeticalaw.EisenSymbols'. -/
def eisenSymbolsCard : Claim7 := { stood := { row := eisenSymbolsRow, standIns := [], harness := (true, "04656594a3e8901cc41859a11075f1984f0d4ba29e671f48cc0e4b56a192ce8a"), looks := false }, kinds := [], alts := [], laidByText := true, laidKinds := [.data, .data], laidTests := true, laidLooks := .later }
def EisenSymbolsCardSaid : Prop := Claim7.holds Tryz.pinned (.plain (OpenSpec.ofChange eisenSymbolsSpec)) eisenSymbolsCard

/-- THE TIED CARD OF 'arithmeticalaw.EisenReciprocity'. -/
def eisenReciprocityCard : Claim7 := { stood := { row := eisenReciprocityRow, standIns := [], harness := (true, "04656594a3e8901cc41859a11075f1984f0d4ba29e671f48cc0e4b56a192ce8a"), looks := false }, kinds := [], alts := [], laidByText := true, laidKinds := [.data, .data], laidTests := true, laidLooks := .later }
def EisenReciprocityCardSaid : Prop := Claim7.holds Tryz.pinned (.plain (OpenSpec.ofChange eisenReciprocitySpec)) eisenReciprocityCard

/-- THE SECOND FORM's CARD OF 'arithmeticalaw.GaussReciprocity'. -/
def gaussReciprocityUptoCard : Claim7 := { stood := { row := gaussReciprocityUptoRow, standIns := [], harness := (true, "04656594a3e8901cc41859a11075f1984f0d4ba29e671f48cc0e4b56a192ce8a"), looks := false }, kinds := [], alts := [], laidByText := true, laidKinds := [.data, .data], laidTests := true, laidLooks := .later }
def GaussReciprocityUptoCardSaid : Prop := Claim7.holds Tryz.pinned (.plain (OpenSpec.upto gaussReciprocitySpec)) gaussReciprocityUptoCard

/-- THE SECOND FORM's CARD OF 'arithmeticalaw.EisenReckons'. -/
def eisenReckonsUptoCard : Claim7 := { stood := { row := eisenReckonsUptoRow, standIns := [], harness := (true, "04656594a3e8901cc41859a11075f1984f0d4ba29e671f48cc0e4b56a192ce8a"), looks := false }, kinds := [], alts := [], laidByText := true, laidKinds := [.data, .data], laidTests := true, laidLooks := .later }
def EisenReckonsUptoCardSaid : Prop := Claim7.holds Tryz.pinned (.plain (OpenSpec.upto eisenReckonsSpec)) eisenReckonsUptoCard

/-- THE SECOND FORM's CARD OF 'arithmeticalaw.EisenFactors'. -/
def eisenFactorsUptoCard : Claim7 := { stood := { row := eisenFactorsUptoRow, standIns := [], harness := (true, "04656594a3e8901cc41859a11075f1984f0d4ba29e671f48cc0e4b56a192ce8a"), looks := false }, kinds := [], alts := [], laidByText := true, laidKinds := [.data, .data], laidTests := true, laidLooks := .later }
def EisenFactorsUptoCardSaid : Prop := Claim7.holds Tryz.pinned (.plain (OpenSpec.upto eisenFactorsSpec)) eisenFactorsUptoCard

/-- THE SECOND FORM's CARD OF 'arithmeticalaw.EisenSymbols'. -/
def eisenSymbolsUptoCard : Claim7 := { stood := { row := eisenSymbolsUptoRow, standIns := [], harness := (true, "04656594a3e8901cc41859a11075f1984f0d4ba29e671f48cc0e4b56a192ce8a"), looks := false }, kinds := [], alts := [], laidByText := true, laidKinds := [.data, .data], laidTests := true, laidLooks := .later }
def EisenSymbolsUptoCardSaid : Prop := Claim7.holds Tryz.pinned (.plain (OpenSpec.upto eisenSymbolsSpec)) eisenSymbolsUptoCard

/-- THE SECOND FORM's CARD OF 'arithmeticalaw.EisenReciprocity'. -/
def eisenReciprocityUptoCard : Claim7 := { stood := { row := eisenReciprocityUptoRow, standIns := [], harness := (true, "04656594a3e8901cc41859a11075f1984f0d4ba29e671f48cc0e4b56a192ce8a"), looks := false }, kinds := [], alts := [], laidByText := true, laidKinds := [.data, .data], laidTests := true, laidLooks := .later }
def EisenReciprocityUptoCardSaid : Prop := Claim7.holds Tryz.pinned (.plain (OpenSpec.upto eisenReciprocitySpec)) eisenReciprocityUptoCard
end Rows
end Go.Proofs.YtogdggdaaiajnadGreatDoor
