/-
  DERIVED. GIVEN WITH THE SEED: THE CARDS: each row of YtmifenflbaohnaaDoorRows.lean that lists a variable, with what it lists TIED to the program's text (the seventh form; the later family's looks); each row that meets fmt, with fmt's text TOLD by the authors' own Lean function (tested against real Go, not proved from fmt's source: count such statements apart). THE CARD IS WHAT COUNTS. Prove the row's statement (the work); the ties are given (YtmifenflbaohnaaDoorTie.lean); close each card by the builder's one call (the guide's Derived/Test/ToyasCard.lean, 'card_holds'). Laid BY PROGRAM, IN A SANDBOX (cutbox-door.mjs). By AI agents, Wed Nov 11 2026. No macro, syntax, notation, axiom, sorry.
-/
import Derived.Test.YtmifenflbaohnaaDoorRows
import GoSem.ClaimSeven
namespace Go.Proofs.YtmifenflbaohnaaDoor
namespace Rows

/-- THE TIED CARD OF 'arithmeticalaw.PartitionCounts'. -/
def partitionCountsCard : Claim7 := { stood := { row := partitionCountsRow, standIns := [], harness := (true, "0e3a8ccae5a5e03f104beb5beda4771595bda0cad919c320378394a8eb73b03f"), looks := false }, kinds := [], alts := [], laidByText := true, laidKinds := [.data, .data, .data], laidTests := true, laidLooks := .later }
def PartitionCountsCardSaid : Prop := Claim7.holds Tryd.pinned (.plain (OpenSpec.ofChange partitionCountsSpec)) partitionCountsCard

/-- THE TIED CARD OF 'arithmeticalaw.PartitionTurns'. -/
def partitionTurnsCard : Claim7 := { stood := { row := partitionTurnsRow, standIns := [], harness := (true, "0e3a8ccae5a5e03f104beb5beda4771595bda0cad919c320378394a8eb73b03f"), looks := false }, kinds := [], alts := [], laidByText := true, laidKinds := [.data, .data, .data], laidTests := true, laidLooks := .later }
def PartitionTurnsCardSaid : Prop := Claim7.holds Tryd.pinned (.plain (OpenSpec.ofChange partitionTurnsSpec)) partitionTurnsCard

/-- THE TIED CARD OF 'arithmeticalaw.PartitionGlaisher'. -/
def partitionGlaisherCard : Claim7 := { stood := { row := partitionGlaisherRow, standIns := [], harness := (true, "0e3a8ccae5a5e03f104beb5beda4771595bda0cad919c320378394a8eb73b03f"), looks := false }, kinds := [], alts := [], laidByText := true, laidKinds := [.data, .data, .data], laidTests := true, laidLooks := .later }
def PartitionGlaisherCardSaid : Prop := Claim7.holds Tryd.pinned (.plain (OpenSpec.ofChange partitionGlaisherSpec)) partitionGlaisherCard

/-- THE SECOND FORM's CARD OF 'arithmeticalaw.PartitionCounts'. -/
def partitionCountsUptoCard : Claim7 := { stood := { row := partitionCountsUptoRow, standIns := [], harness := (true, "0e3a8ccae5a5e03f104beb5beda4771595bda0cad919c320378394a8eb73b03f"), looks := false }, kinds := [], alts := [], laidByText := true, laidKinds := [.data, .data, .data], laidTests := true, laidLooks := .later }
def PartitionCountsUptoCardSaid : Prop := Claim7.holds Tryd.pinned (.plain (OpenSpec.upto partitionCountsSpec)) partitionCountsUptoCard

/-- THE SECOND FORM's CARD OF 'arithmeticalaw.PartitionTurns'. -/
def partitionTurnsUptoCard : Claim7 := { stood := { row := partitionTurnsUptoRow, standIns := [], harness := (true, "0e3a8ccae5a5e03f104beb5beda4771595bda0cad919c320378394a8eb73b03f"), looks := false }, kinds := [], alts := [], laidByText := true, laidKinds := [.data, .data, .data], laidTests := true, laidLooks := .later }
def PartitionTurnsUptoCardSaid : Prop := Claim7.holds Tryd.pinned (.plain (OpenSpec.upto partitionTurnsSpec)) partitionTurnsUptoCard

/-- THE SECOND FORM's CARD OF 'arithmeticalaw.PartitionGlaisher'. -/
def partitionGlaisherUptoCard : Claim7 := { stood := { row := partitionGlaisherUptoRow, standIns := [], harness := (true, "0e3a8ccae5a5e03f104beb5beda4771595bda0cad919c320378394a8eb73b03f"), looks := false }, kinds := [], alts := [], laidByText := true, laidKinds := [.data, .data, .data], laidTests := true, laidLooks := .later }
def PartitionGlaisherUptoCardSaid : Prop := Claim7.holds Tryd.pinned (.plain (OpenSpec.upto partitionGlaisherSpec)) partitionGlaisherUptoCard
end Rows
end Go.Proofs.YtmifenflbaohnaaDoor
