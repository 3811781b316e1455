/-
  DERIVED. GIVEN WITH THE SEED: THE CARDS: each row of YtidndbdjhapfaaaDoorRows.lean that lists a variable, with what it lists TIED to the program's text (the seventh form; the later family's looks); each row that meets fmt, with fmt's text TOLD by the authors' own Lean function (tested against real Go, not proved from fmt's source: count such statements apart). THE CARD IS WHAT COUNTS. Prove the row's statement (the work); the ties are given (YtidndbdjhapfaaaDoorTie.lean); close each card by the builder's one call (the guide's Derived/Test/ToyasCard.lean, 'card_holds'). Laid BY PROGRAM, IN A SANDBOX (cutbox-door.mjs). By AI agents, Wed Nov 11 2026. No macro, syntax, notation, axiom, sorry.
-/
import Derived.Test.YtidndbdjhapfaaaDoorRows
import GoSem.ClaimSeven
namespace Go.Proofs.YtidndbdjhapfaaaDoor
namespace Rows

/-- THE TIED CARD OF 'arithmeticalaw.PadicDigits'. -/
def padicDigitsCard : Claim7 := { stood := { row := padicDigitsRow, standIns := [], harness := (true, "7f4bf0ccd4e3fe10c79c76a155d14f70b300721747d0d75249b5dd1b0c2faef6"), looks := false }, kinds := [], alts := [], laidByText := true, laidKinds := [.data], laidTests := true, laidLooks := .later }
def PadicDigitsCardSaid : Prop := Claim7.holds Tryd.pinned (.plain (OpenSpec.ofChange padicDigitsSpec)) padicDigitsCard

/-- THE TIED CARD OF 'arithmeticalaw.PadicHensel'. -/
def padicHenselCard : Claim7 := { stood := { row := padicHenselRow, standIns := [], harness := (true, "7f4bf0ccd4e3fe10c79c76a155d14f70b300721747d0d75249b5dd1b0c2faef6"), looks := false }, kinds := [], alts := [], laidByText := true, laidKinds := [.data], laidTests := true, laidLooks := .later }
def PadicHenselCardSaid : Prop := Claim7.holds Tryd.pinned (.plain (OpenSpec.ofChange padicHenselSpec)) padicHenselCard

/-- THE SECOND FORM's CARD OF 'arithmeticalaw.PadicDigits'. -/
def padicDigitsUptoCard : Claim7 := { stood := { row := padicDigitsUptoRow, standIns := [], harness := (true, "7f4bf0ccd4e3fe10c79c76a155d14f70b300721747d0d75249b5dd1b0c2faef6"), looks := false }, kinds := [], alts := [], laidByText := true, laidKinds := [.data], laidTests := true, laidLooks := .later }
def PadicDigitsUptoCardSaid : Prop := Claim7.holds Tryd.pinned (.plain (OpenSpec.upto padicDigitsSpec)) padicDigitsUptoCard

/-- THE SECOND FORM's CARD OF 'arithmeticalaw.PadicHensel'. -/
def padicHenselUptoCard : Claim7 := { stood := { row := padicHenselUptoRow, standIns := [], harness := (true, "7f4bf0ccd4e3fe10c79c76a155d14f70b300721747d0d75249b5dd1b0c2faef6"), looks := false }, kinds := [], alts := [], laidByText := true, laidKinds := [.data], laidTests := true, laidLooks := .later }
def PadicHenselUptoCardSaid : Prop := Claim7.holds Tryd.pinned (.plain (OpenSpec.upto padicHenselSpec)) padicHenselUptoCard
end Rows
end Go.Proofs.YtidndbdjhapfaaaDoor
