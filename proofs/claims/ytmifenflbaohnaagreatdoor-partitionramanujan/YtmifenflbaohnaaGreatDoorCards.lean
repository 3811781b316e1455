/-
  DERIVED. GIVEN WITH THE SEED: THE CARDS: each row of YtmifenflbaohnaaGreatDoorRows.lean that lists a variable, with what it lists TIED to the program's text (the seventh form; the later family's looks); each row that meets fmt, with fmt's text TOLD by the authors' own Lean function (tested against real Go, not proved from fmt's source: count such statements apart). THE CARD IS WHAT COUNTS. Prove the row's statement (the work); the ties are given (YtmifenflbaohnaaGreatDoorTie.lean); close each card by the builder's one call (the guide's Derived/Test/ToyasCard.lean, 'card_holds'). Laid BY PROGRAM, IN A SANDBOX (cutbox-door.mjs). By AI agents, Wed Nov 11 2026. No macro, syntax, notation, axiom, sorry.
-/
import Derived.Test.YtmifenflbaohnaaGreatDoorRows
import GoSem.ClaimSeven
namespace Go.Proofs.YtmifenflbaohnaaGreatDoor
namespace Rows

/-- THE TIED CARD OF 'arithmeticalaw.PartitionRamanujan'. -/
def partitionRamanujanCard : Claim7 := { stood := { row := partitionRamanujanRow, standIns := [], harness := (true, "9e3092c5dbb3163f8f5708221a46602f48eda91124ab78926b77d963fac6d5f4"), looks := false }, kinds := [], alts := [], laidByText := true, laidKinds := [.data, .data, .data], laidTests := true, laidLooks := .later }
def PartitionRamanujanCardSaid : Prop := Claim7.holds Tryz.pinned (.plain (OpenSpec.ofChange partitionRamanujanSpec)) partitionRamanujanCard

/-- THE SECOND FORM's CARD OF 'arithmeticalaw.PartitionRamanujan'. -/
def partitionRamanujanUptoCard : Claim7 := { stood := { row := partitionRamanujanUptoRow, standIns := [], harness := (true, "9e3092c5dbb3163f8f5708221a46602f48eda91124ab78926b77d963fac6d5f4"), looks := false }, kinds := [], alts := [], laidByText := true, laidKinds := [.data, .data, .data], laidTests := true, laidLooks := .later }
def PartitionRamanujanUptoCardSaid : Prop := Claim7.holds Tryz.pinned (.plain (OpenSpec.upto partitionRamanujanSpec)) partitionRamanujanUptoCard
end Rows
end Go.Proofs.YtmifenflbaohnaaGreatDoor
