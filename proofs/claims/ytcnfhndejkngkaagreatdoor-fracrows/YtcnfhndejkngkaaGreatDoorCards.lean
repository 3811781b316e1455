/-
  DERIVED. GIVEN WITH THE SEED: THE CARDS: each row of YtcnfhndejkngkaaGreatDoorRows.lean that lists a variable, with what it lists TIED to the program's text (the seventh form; the later family's looks); each row that meets fmt, with fmt's text TOLD by the authors' own Lean function (tested against real Go, not proved from fmt's source: count such statements apart). THE CARD IS WHAT COUNTS. Prove the row's statement (the work); the ties are given (YtcnfhndejkngkaaGreatDoorTie.lean); close each card by the builder's one call (the guide's Derived/Test/ToyasCard.lean, 'card_holds'). Laid BY PROGRAM, IN A SANDBOX (cutbox-door.mjs). By AI agents, Wed Nov 11 2026. No macro, syntax, notation, axiom, sorry.
-/
import Derived.Test.YtcnfhndejkngkaaGreatDoorRows
import GoSem.ClaimSeven
namespace Go.Proofs.YtcnfhndejkngkaaGreatDoor
namespace Rows

/-- THE TIED CARD OF 'arithmeticalaw.FracRows'. -/
def fracRowsCard : Claim7 := { stood := { row := fracRowsRow, standIns := [], harness := (true, "b8b66f0be7b2926b6a5b7634093224d75e3600b0d844fc92e45946d559fc7bbf"), looks := false }, kinds := [], alts := [], laidByText := true, laidKinds := [.data, .data, .data], laidTests := true, laidLooks := .later }
def FracRowsCardSaid : Prop := Claim7.holds Tryz.pinned (.plain (OpenSpec.ofChange fracRowsSpec)) fracRowsCard

/-- THE TIED CARD OF 'arithmeticalaw.FracTree'. -/
def fracTreeCard : Claim7 := { stood := { row := fracTreeRow, standIns := [], harness := (true, "b8b66f0be7b2926b6a5b7634093224d75e3600b0d844fc92e45946d559fc7bbf"), looks := false }, kinds := [], alts := [], laidByText := true, laidKinds := [.data, .data, .data, .data, .pinned], laidTests := true, laidLooks := .later }
def FracTreeCardSaid : Prop := Claim7.holds Tryz.pinned (.plain (OpenSpec.ofChange fracTreeSpec)) fracTreeCard

/-- THE TIED CARD OF 'arithmeticalaw.FracEgypt'. -/
def fracEgyptCard : Claim7 := { stood := { row := fracEgyptRow, standIns := [], harness := (true, "b8b66f0be7b2926b6a5b7634093224d75e3600b0d844fc92e45946d559fc7bbf"), looks := false }, kinds := [], alts := [], laidByText := true, laidKinds := [.data, .data, .data], laidTests := true, laidLooks := .later }
def FracEgyptCardSaid : Prop := Claim7.holds Tryz.pinned (.plain (OpenSpec.ofChange fracEgyptSpec)) fracEgyptCard

/-- THE TIED CARD OF 'arithmeticalaw.FracDecimal'. -/
def fracDecimalCard : Claim7 := { stood := { row := fracDecimalRow, standIns := [], harness := (true, "b8b66f0be7b2926b6a5b7634093224d75e3600b0d844fc92e45946d559fc7bbf"), looks := false }, kinds := [], alts := [], laidByText := true, laidKinds := [.data, .data, .data], laidTests := true, laidLooks := .later }
def FracDecimalCardSaid : Prop := Claim7.holds Tryz.pinned (.plain (OpenSpec.ofChange fracDecimalSpec)) fracDecimalCard

/-- THE TIED CARD OF 'arithmeticalaw.FracZeckendorf'. -/
def fracZeckendorfCard : Claim7 := { stood := { row := fracZeckendorfRow, standIns := [], harness := (true, "b8b66f0be7b2926b6a5b7634093224d75e3600b0d844fc92e45946d559fc7bbf"), looks := false }, kinds := [], alts := [], laidByText := true, laidKinds := [.data, .data, .data], laidTests := true, laidLooks := .later }
def FracZeckendorfCardSaid : Prop := Claim7.holds Tryz.pinned (.plain (OpenSpec.ofChange fracZeckendorfSpec)) fracZeckendorfCard

/-- THE SECOND FORM's CARD OF 'arithmeticalaw.FracRows'. -/
def fracRowsUptoCard : Claim7 := { stood := { row := fracRowsUptoRow, standIns := [], harness := (true, "b8b66f0be7b2926b6a5b7634093224d75e3600b0d844fc92e45946d559fc7bbf"), looks := false }, kinds := [], alts := [], laidByText := true, laidKinds := [.data, .data, .data], laidTests := true, laidLooks := .later }
def FracRowsUptoCardSaid : Prop := Claim7.holds Tryz.pinned (.plain (OpenSpec.upto fracRowsSpec)) fracRowsUptoCard

/-- THE SECOND FORM's CARD OF 'arithmeticalaw.FracTree'. -/
def fracTreeUptoCard : Claim7 := { stood := { row := fracTreeUptoRow, standIns := [], harness := (true, "b8b66f0be7b2926b6a5b7634093224d75e3600b0d844fc92e45946d559fc7bbf"), looks := false }, kinds := [], alts := [], laidByText := true, laidKinds := [.data, .data, .data, .data, .pinned], laidTests := true, laidLooks := .later }
def FracTreeUptoCardSaid : Prop := Claim7.holds Tryz.pinned (.plain (OpenSpec.upto fracTreeSpec)) fracTreeUptoCard

/-- THE SECOND FORM's CARD OF 'arithmeticalaw.FracEgypt'. -/
def fracEgyptUptoCard : Claim7 := { stood := { row := fracEgyptUptoRow, standIns := [], harness := (true, "b8b66f0be7b2926b6a5b7634093224d75e3600b0d844fc92e45946d559fc7bbf"), looks := false }, kinds := [], alts := [], laidByText := true, laidKinds := [.data, .data, .data], laidTests := true, laidLooks := .later }
def FracEgyptUptoCardSaid : Prop := Claim7.holds Tryz.pinned (.plain (OpenSpec.upto fracEgyptSpec)) fracEgyptUptoCard

/-- THE SECOND FORM's CARD OF 'arithmeticalaw.FracDecimal'. -/
def fracDecimalUptoCard : Claim7 := { stood := { row := fracDecimalUptoRow, standIns := [], harness := (true, "b8b66f0be7b2926b6a5b7634093224d75e3600b0d844fc92e45946d559fc7bbf"), looks := false }, kinds := [], alts := [], laidByText := true, laidKinds := [.data, .data, .data], laidTests := true, laidLooks := .later }
def FracDecimalUptoCardSaid : Prop := Claim7.holds Tryz.pinned (.plain (OpenSpec.upto fracDecimalSpec)) fracDecimalUptoCard

/-- THE SECOND FORM's CARD OF 'arithmeticalaw.FracZeckendorf'. -/
def fracZeckendorfUptoCard : Claim7 := { stood := { row := fracZeckendorfUptoRow, standIns := [], harness := (true, "b8b66f0be7b2926b6a5b7634093224d75e3600b0d844fc92e45946d559fc7bbf"), looks := false }, kinds := [], alts := [], laidByText := true, laidKinds := [.data, .data, .data], laidTests := true, laidLooks := .later }
def FracZeckendorfUptoCardSaid : Prop := Claim7.holds Tryz.pinned (.plain (OpenSpec.upto fracZeckendorfSpec)) fracZeckendorfUptoCard
end Rows
end Go.Proofs.YtcnfhndejkngkaaGreatDoor
