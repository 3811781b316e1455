/-
  DERIVED. GIVEN WITH THE SEED: THE CARDS: each row of YtoionlnbodfhlacGreatDoorRows.lean that lists a variable, with what it lists TIED to the program's text (the seventh form; the later family's looks); each row that meets fmt, with fmt's text TOLD by the authors' own Lean function (tested against real Go, not proved from fmt's source: count such statements apart). THE CARD IS WHAT COUNTS. Prove the row's statement (the work); the ties are given (YtoionlnbodfhlacGreatDoorTie.lean); close each card by the builder's one call (the guide's Derived/Test/ToyasCard.lean, 'card_holds'). Laid BY PROGRAM, IN A SANDBOX (cutbox-door.mjs). By AI agents, Wed Nov 11 2026. No macro, syntax, notation, axiom, sorry.
-/
import Derived.Test.YtoionlnbodfhlacGreatDoorRows
import GoSem.ClaimSeven
namespace Go.Proofs.YtoionlnbodfhlacGreatDoor
namespace Rows

/-- THE TIED CARD OF 'arithmeticalaw.ResidueSymbols'. -/
def residueSymbolsCard : Claim7 := { stood := { row := residueSymbolsRow, standIns := [], harness := (true, "e4ec1430e711b6dd0ede192fc18000273240c3d7d8b67242cd036697d5465541"), looks := false }, kinds := [], alts := [], laidByText := true, laidKinds := [.data], laidTests := true, laidLooks := .later }
def ResidueSymbolsCardSaid : Prop := Claim7.holds Tryz.pinned (.plain (OpenSpec.ofChange residueSymbolsSpec)) residueSymbolsCard

/-- THE TIED CARD OF 'arithmeticalaw.ResidueRoots'. -/
def residueRootsCard : Claim7 := { stood := { row := residueRootsRow, standIns := [], harness := (true, "e4ec1430e711b6dd0ede192fc18000273240c3d7d8b67242cd036697d5465541"), looks := false }, kinds := [], alts := [], laidByText := true, laidKinds := [.data], laidTests := true, laidLooks := .later }
def ResidueRootsCardSaid : Prop := Claim7.holds Tryz.pinned (.plain (OpenSpec.ofChange residueRootsSpec)) residueRootsCard

/-- THE TIED CARD OF 'arithmeticalaw.GaussReckons'. -/
def gaussReckonsCard : Claim7 := { stood := { row := gaussReckonsRow, standIns := [], harness := (true, "e4ec1430e711b6dd0ede192fc18000273240c3d7d8b67242cd036697d5465541"), looks := false }, kinds := [], alts := [], laidByText := true, laidKinds := [.data, .data], laidTests := true, laidLooks := .later }
def GaussReckonsCardSaid : Prop := Claim7.holds Tryz.pinned (.plain (OpenSpec.ofChange gaussReckonsSpec)) gaussReckonsCard

/-- THE TIED CARD OF 'arithmeticalaw.GaussFactors'. -/
def gaussFactorsCard : Claim7 := { stood := { row := gaussFactorsRow, standIns := [], harness := (true, "e4ec1430e711b6dd0ede192fc18000273240c3d7d8b67242cd036697d5465541"), looks := false }, kinds := [], alts := [], laidByText := true, laidKinds := [.data, .data], laidTests := true, laidLooks := .later }
def GaussFactorsCardSaid : Prop := Claim7.holds Tryz.pinned (.plain (OpenSpec.ofChange gaussFactorsSpec)) gaussFactorsCard

/-- THE TIED CARD OF 'arithmeticalaw.GaussSymbols'. -/
def gaussSymbolsCard : Claim7 := { stood := { row := gaussSymbolsRow, standIns := [], harness := (true, "e4ec1430e711b6dd0ede192fc18000273240c3d7d8b67242cd036697d5465541"), looks := false }, kinds := [], alts := [], laidByText := true, laidKinds := [.data, .data], laidTests := true, laidLooks := .later }
def GaussSymbolsCardSaid : Prop := Claim7.holds Tryz.pinned (.plain (OpenSpec.ofChange gaussSymbolsSpec)) gaussSymbolsCard

/-- THE SECOND FORM's CARD OF 'arithmeticalaw.ResidueSymbols'. -/
def residueSymbolsUptoCard : Claim7 := { stood := { row := residueSymbolsUptoRow, standIns := [], harness := (true, "e4ec1430e711b6dd0ede192fc18000273240c3d7d8b67242cd036697d5465541"), looks := false }, kinds := [], alts := [], laidByText := true, laidKinds := [.data], laidTests := true, laidLooks := .later }
def ResidueSymbolsUptoCardSaid : Prop := Claim7.holds Tryz.pinned (.plain (OpenSpec.upto residueSymbolsSpec)) residueSymbolsUptoCard

/-- THE SECOND FORM's CARD OF 'arithmeticalaw.ResidueRoots'. -/
def residueRootsUptoCard : Claim7 := { stood := { row := residueRootsUptoRow, standIns := [], harness := (true, "e4ec1430e711b6dd0ede192fc18000273240c3d7d8b67242cd036697d5465541"), looks := false }, kinds := [], alts := [], laidByText := true, laidKinds := [.data], laidTests := true, laidLooks := .later }
def ResidueRootsUptoCardSaid : Prop := Claim7.holds Tryz.pinned (.plain (OpenSpec.upto residueRootsSpec)) residueRootsUptoCard

/-- THE SECOND FORM's CARD OF 'arithmeticalaw.GaussReckons'. -/
def gaussReckonsUptoCard : Claim7 := { stood := { row := gaussReckonsUptoRow, standIns := [], harness := (true, "e4ec1430e711b6dd0ede192fc18000273240c3d7d8b67242cd036697d5465541"), looks := false }, kinds := [], alts := [], laidByText := true, laidKinds := [.data, .data], laidTests := true, laidLooks := .later }
def GaussReckonsUptoCardSaid : Prop := Claim7.holds Tryz.pinned (.plain (OpenSpec.upto gaussReckonsSpec)) gaussReckonsUptoCard

/-- THE SECOND FORM's CARD OF 'arithmeticalaw.GaussFactors'. -/
def gaussFactorsUptoCard : Claim7 := { stood := { row := gaussFactorsUptoRow, standIns := [], harness := (true, "e4ec1430e711b6dd0ede192fc18000273240c3d7d8b67242cd036697d5465541"), looks := false }, kinds := [], alts := [], laidByText := true, laidKinds := [.data, .data], laidTests := true, laidLooks := .later }
def GaussFactorsUptoCardSaid : Prop := Claim7.holds Tryz.pinned (.plain (OpenSpec.upto gaussFactorsSpec)) gaussFactorsUptoCard

/-- THE SECOND FORM's CARD OF 'arithmeticalaw.GaussSymbols'. -/
def gaussSymbolsUptoCard : Claim7 := { stood := { row := gaussSymbolsUptoRow, standIns := [], harness := (true, "e4ec1430e711b6dd0ede192fc18000273240c3d7d8b67242cd036697d5465541"), looks := false }, kinds := [], alts := [], laidByText := true, laidKinds := [.data, .data], laidTests := true, laidLooks := .later }
def GaussSymbolsUptoCardSaid : Prop := Claim7.holds Tryz.pinned (.plain (OpenSpec.upto gaussSymbolsSpec)) gaussSymbolsUptoCard
end Rows
end Go.Proofs.YtoionlnbodfhlacGreatDoor
