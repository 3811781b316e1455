/-
  DERIVED. GIVEN WITH THE SEED: THE CARDS: each row of YtnkjadpmigpneaaGreatDoorRows.lean that lists a variable, with what it lists TIED to the program's text (the seventh form; the later family's looks); each row that meets fmt, with fmt's text TOLD by the authors' own Lean function (tested against real Go, not proved from fmt's source: count such statements apart). THE CARD IS WHAT COUNTS. Prove the row's statement (the work); the ties are given (YtnkjadpmigpneaaGreatDoorTie.lean); close each card by the builder's one call (the guide's Derived/Test/ToyasCard.lean, 'card_holds'). Laid BY PROGRAM, IN A SANDBOX (cutbox-door.mjs). By AI agents, Wed Nov 11 2026. No macro, syntax, notation, axiom, sorry.
-/
import Derived.Test.YtnkjadpmigpneaaGreatDoorRows
import GoSem.ClaimSeven
namespace Go.Proofs.YtnkjadpmigpneaaGreatDoor
namespace Rows

/-- THE TIED CARD OF 'arithmeticalaw.BernNumbers'. -/
def bernNumbersCard : Claim7 := { stood := { row := bernNumbersRow, standIns := [], harness := (true, "e8d2348b940fc34164632629069e863c3fced420b6675ccff822cae728cbdc63"), looks := false }, kinds := [], alts := [], laidByText := true, laidKinds := [.data, .data, .data], laidTests := true, laidLooks := .later }
def BernNumbersCardSaid : Prop := Claim7.holds Tryz.pinned (.plain (OpenSpec.ofChange bernNumbersSpec)) bernNumbersCard

/-- THE TIED CARD OF 'arithmeticalaw.BernSums'. -/
def bernSumsCard : Claim7 := { stood := { row := bernSumsRow, standIns := [], harness := (true, "e8d2348b940fc34164632629069e863c3fced420b6675ccff822cae728cbdc63"), looks := false }, kinds := [], alts := [], laidByText := true, laidKinds := [.data, .data, .data], laidTests := true, laidLooks := .later }
def BernSumsCardSaid : Prop := Claim7.holds Tryz.pinned (.plain (OpenSpec.ofChange bernSumsSpec)) bernSumsCard

/-- THE TIED CARD OF 'arithmeticalaw.BernNicomachus'. -/
def bernNicomachusCard : Claim7 := { stood := { row := bernNicomachusRow, standIns := [], harness := (true, "e8d2348b940fc34164632629069e863c3fced420b6675ccff822cae728cbdc63"), looks := false }, kinds := [], alts := [], laidByText := true, laidKinds := [.data, .data, .data], laidTests := true, laidLooks := .later }
def BernNicomachusCardSaid : Prop := Claim7.holds Tryz.pinned (.plain (OpenSpec.ofChange bernNicomachusSpec)) bernNicomachusCard

/-- THE TIED CARD OF 'arithmeticalaw.BernSets'. -/
def bernSetsCard : Claim7 := { stood := { row := bernSetsRow, standIns := [], harness := (true, "e8d2348b940fc34164632629069e863c3fced420b6675ccff822cae728cbdc63"), looks := false }, kinds := [], alts := [], laidByText := true, laidKinds := [.data, .data, .data], laidTests := true, laidLooks := .later }
def BernSetsCardSaid : Prop := Claim7.holds Tryz.pinned (.plain (OpenSpec.ofChange bernSetsSpec)) bernSetsCard

/-- THE SECOND FORM's CARD OF 'arithmeticalaw.BernNumbers'. -/
def bernNumbersUptoCard : Claim7 := { stood := { row := bernNumbersUptoRow, standIns := [], harness := (true, "e8d2348b940fc34164632629069e863c3fced420b6675ccff822cae728cbdc63"), looks := false }, kinds := [], alts := [], laidByText := true, laidKinds := [.data, .data, .data], laidTests := true, laidLooks := .later }
def BernNumbersUptoCardSaid : Prop := Claim7.holds Tryz.pinned (.plain (OpenSpec.upto bernNumbersSpec)) bernNumbersUptoCard

/-- THE SECOND FORM's CARD OF 'arithmeticalaw.BernSums'. -/
def bernSumsUptoCard : Claim7 := { stood := { row := bernSumsUptoRow, standIns := [], harness := (true, "e8d2348b940fc34164632629069e863c3fced420b6675ccff822cae728cbdc63"), looks := false }, kinds := [], alts := [], laidByText := true, laidKinds := [.data, .data, .data], laidTests := true, laidLooks := .later }
def BernSumsUptoCardSaid : Prop := Claim7.holds Tryz.pinned (.plain (OpenSpec.upto bernSumsSpec)) bernSumsUptoCard

/-- THE SECOND FORM's CARD OF 'arithmeticalaw.BernNicomachus'. -/
def bernNicomachusUptoCard : Claim7 := { stood := { row := bernNicomachusUptoRow, standIns := [], harness := (true, "e8d2348b940fc34164632629069e863c3fced420b6675ccff822cae728cbdc63"), looks := false }, kinds := [], alts := [], laidByText := true, laidKinds := [.data, .data, .data], laidTests := true, laidLooks := .later }
def BernNicomachusUptoCardSaid : Prop := Claim7.holds Tryz.pinned (.plain (OpenSpec.upto bernNicomachusSpec)) bernNicomachusUptoCard

/-- THE SECOND FORM's CARD OF 'arithmeticalaw.BernSets'. -/
def bernSetsUptoCard : Claim7 := { stood := { row := bernSetsUptoRow, standIns := [], harness := (true, "e8d2348b940fc34164632629069e863c3fced420b6675ccff822cae728cbdc63"), looks := false }, kinds := [], alts := [], laidByText := true, laidKinds := [.data, .data, .data], laidTests := true, laidLooks := .later }
def BernSetsUptoCardSaid : Prop := Claim7.holds Tryz.pinned (.plain (OpenSpec.upto bernSetsSpec)) bernSetsUptoCard
end Rows
end Go.Proofs.YtnkjadpmigpneaaGreatDoor
