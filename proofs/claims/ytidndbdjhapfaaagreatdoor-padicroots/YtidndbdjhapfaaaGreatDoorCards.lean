/-
  DERIVED. GIVEN WITH THE SEED: THE CARDS: each row of YtidndbdjhapfaaaGreatDoorRows.lean that lists a variable, with what it lists TIED to the program's text (the seventh form; the later family's looks); each row that meets fmt, with fmt's text TOLD by the authors' own Lean function (tested against real Go, not proved from fmt's source: count such statements apart). THE CARD IS WHAT COUNTS. Prove the row's statement (the work); the ties are given (YtidndbdjhapfaaaGreatDoorTie.lean); close each card by the builder's one call (the guide's Derived/Test/ToyasCard.lean, 'card_holds'). Laid BY PROGRAM, IN A SANDBOX (cutbox-door.mjs). By AI agents, Wed Nov 11 2026. No macro, syntax, notation, axiom, sorry.
-/
import Derived.Test.YtidndbdjhapfaaaGreatDoorRows
import GoSem.ClaimSeven
namespace Go.Proofs.YtidndbdjhapfaaaGreatDoor
namespace Rows

/-- THE TIED CARD OF 'arithmeticalaw.PadicRoots'. -/
def padicRootsCard : Claim7 := { stood := { row := padicRootsRow, standIns := [], harness := (true, "b33640e6d1139f0789c938de6c11a0ca2ce8e7429d013d62b8a8d7e882726719"), looks := false }, kinds := [], alts := [], laidByText := true, laidKinds := [.data], laidTests := true, laidLooks := .later }
def PadicRootsCardSaid : Prop := Claim7.holds Tryz.pinned (.plain (OpenSpec.ofChange padicRootsSpec)) padicRootsCard

/-- THE SECOND FORM's CARD OF 'arithmeticalaw.PadicRoots'. -/
def padicRootsUptoCard : Claim7 := { stood := { row := padicRootsUptoRow, standIns := [], harness := (true, "b33640e6d1139f0789c938de6c11a0ca2ce8e7429d013d62b8a8d7e882726719"), looks := false }, kinds := [], alts := [], laidByText := true, laidKinds := [.data], laidTests := true, laidLooks := .later }
def PadicRootsUptoCardSaid : Prop := Claim7.holds Tryz.pinned (.plain (OpenSpec.upto padicRootsSpec)) padicRootsUptoCard
end Rows
end Go.Proofs.YtidndbdjhapfaaaGreatDoor
