/-
  DERIVED. GIVEN WITH THE SEED: THE CARDS: each row of YthfoakbpoggmbacDoorRows.lean that lists a variable, with what it lists TIED to the program's text (the seventh form; the later family's looks); each row that meets fmt, with fmt's text TOLD by the authors' own Lean function (tested against real Go, not proved from fmt's source: count such statements apart). THE CARD IS WHAT COUNTS. Prove the row's statement (the work); the ties are given (YthfoakbpoggmbacDoorTie.lean); close each card by the builder's one call (the guide's Derived/Test/ToyasCard.lean, 'card_holds'). Laid BY PROGRAM, IN A SANDBOX (cutbox-door.mjs). By AI agents, Wed Nov 11 2026. No macro, syntax, notation, axiom, sorry.
-/
import Derived.Test.YthfoakbpoggmbacDoorRows
import GoSem.ClaimSeven
namespace Go.Proofs.YthfoakbpoggmbacDoor
namespace Rows

/-- THE TIED CARD OF 'arithmeticalaw.ResidueGauss'. -/
def residueGaussCard : Claim7 := { stood := { row := residueGaussRow, standIns := [], harness := (true, "918b82d5176968d81c12fa4a2442a4680a91644bb0f82f5753caa775d4461bb4"), looks := false }, kinds := [], alts := [], laidByText := true, laidKinds := [.data], laidTests := true, laidLooks := .later }
def ResidueGaussCardSaid : Prop := Claim7.holds Tryd.pinned (.plain (OpenSpec.ofChange residueGaussSpec)) residueGaussCard

/-- THE SECOND FORM's CARD OF 'arithmeticalaw.ResidueGauss'. -/
def residueGaussUptoCard : Claim7 := { stood := { row := residueGaussUptoRow, standIns := [], harness := (true, "918b82d5176968d81c12fa4a2442a4680a91644bb0f82f5753caa775d4461bb4"), looks := false }, kinds := [], alts := [], laidByText := true, laidKinds := [.data], laidTests := true, laidLooks := .later }
def ResidueGaussUptoCardSaid : Prop := Claim7.holds Tryd.pinned (.plain (OpenSpec.upto residueGaussSpec)) residueGaussUptoCard
end Rows
end Go.Proofs.YthfoakbpoggmbacDoor
