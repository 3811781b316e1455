/-
  No cell of these rows narrows 'for every input' (looked for: loops, veiled, ifaces, maps, wideKeys, modest, calm, conditions, laid).
  DERIVED. THE GIVEN ROWS OF THIS SEAT. 4 by the template 'for every input the law returns true; each argument reads behind the call as it read before'; 0 by the template 'total and deterministic' (their statements: YtknmfohipdjlpaaTotals.lean).
  GIVEN WITH THE SEED: the statements are not yours to turn. If you find one false, say at which input.
  Laid BY PROGRAM, IN A SANDBOX (cutbox-rows.mjs): the forced cells as the released guide's own fill.sh prints them over the translation f731b0b7b2e01a7b… (all of the seat's roots in one cut). By AI agents, Wed Nov 11 2026. No macro, syntax, notation, axiom, sorry.
-/
import Derived.Test.YtknmfohipdjlpaaChecked
import GoSem.Claim
import GoSem.ClaimJoined
import GoSem.ClaimMapViews
import Derived.JoinedTies
import Derived.KernelRfl
namespace Go.Proofs.Ytknmfohipdjlpaa
/- THE CELL 'sum', in the pinned program and in every row, IS THE sha256 OF THE DUMP (.gsa) THAT YtknmfohipdjlpaaProg.lean LOADS. Nothing in Lean hashes anything: it is a label: what it is worth is what the hold of that sum in a sandbox is worth. -/
noncomputable def Try.pinned : Pinned := { name := "ytknmfohipdjlpaa", sum := "f731b0b7b2e01a7bb876f7eabf9c0f4561e28ca8ac0aefeb51febf9dbb9dd4b4", checked := Try.checked }
namespace Rows
def none {H : Type} : Left H := { results := [], args := [] }

/-- 'arithmeticalaw.WholeDivides': WHATEVER THE INPUT: true; the input reads as it did. -/
def wholeDividesSpec : ChangeSpec := { name := "wholeDivides", fn := fun _ => fun
  | [d1, d2] => { results := [.lit (.bool true)], args := [d1, d2] }
  | _ => none }
def wholeDividesRow : OpenClaim := { program := "ytknmfohipdjlpaa", sum := "f731b0b7b2e01a7bb876f7eabf9c0f4561e28ca8ac0aefeb51febf9dbb9dd4b4", func := "arithmetica/arithmeticalaw.WholeDivides", spec := "wholeDivides", named := ["math/bits.divideError", "math/bits.overflowError"], apart := false }
def WholeDividesSaid : Prop := wholeDividesRow.holds Try.pinned (OpenSpec.ofChange wholeDividesSpec)

/-- ITS FALSE NEIGHBOUR: 'it returns false'. Refute it at one input. -/
def wholeDividesWrong : ChangeSpec := { name := "wholeDivides", fn := fun _ => fun
  | [d1, d2] => { results := [.lit (.bool false)], args := [d1, d2] }
  | _ => none }
def WholeDividesWrongFalsely : Prop := wholeDividesRow.holds Try.pinned (OpenSpec.ofChange wholeDividesWrong)

/-- 'arithmeticalaw.WholePowers': WHATEVER THE INPUT: true; the input reads as it did. -/
def wholePowersSpec : ChangeSpec := { name := "wholePowers", fn := fun _ => fun
  | [d1, d2, d3, d4] => { results := [.lit (.bool true)], args := [d1, d2, d3, d4] }
  | _ => none }
def wholePowersRow : OpenClaim := { program := "ytknmfohipdjlpaa", sum := "f731b0b7b2e01a7bb876f7eabf9c0f4561e28ca8ac0aefeb51febf9dbb9dd4b4", func := "arithmetica/arithmeticalaw.WholePowers", spec := "wholePowers", named := ["math/bits.divideError", "math/bits.overflowError"], apart := false }
def WholePowersSaid : Prop := wholePowersRow.holds Try.pinned (OpenSpec.ofChange wholePowersSpec)

/-- ITS FALSE NEIGHBOUR: 'it returns false'. Refute it at one input. -/
def wholePowersWrong : ChangeSpec := { name := "wholePowers", fn := fun _ => fun
  | [d1, d2, d3, d4] => { results := [.lit (.bool false)], args := [d1, d2, d3, d4] }
  | _ => none }
def WholePowersWrongFalsely : Prop := wholePowersRow.holds Try.pinned (OpenSpec.ofChange wholePowersWrong)

/-- 'arithmeticalaw.WholeJoins': WHATEVER THE INPUT: true; the input reads as it did. -/
def wholeJoinsSpec : ChangeSpec := { name := "wholeJoins", fn := fun _ => fun
  | [d1, d2] => { results := [.lit (.bool true)], args := [d1, d2] }
  | _ => none }
def wholeJoinsRow : OpenClaim := { program := "ytknmfohipdjlpaa", sum := "f731b0b7b2e01a7bb876f7eabf9c0f4561e28ca8ac0aefeb51febf9dbb9dd4b4", func := "arithmetica/arithmeticalaw.WholeJoins", spec := "wholeJoins", named := ["math/bits.divideError", "math/bits.overflowError"], apart := false }
def WholeJoinsSaid : Prop := wholeJoinsRow.holds Try.pinned (OpenSpec.ofChange wholeJoinsSpec)

/-- ITS FALSE NEIGHBOUR: 'it returns false'. Refute it at one input. -/
def wholeJoinsWrong : ChangeSpec := { name := "wholeJoins", fn := fun _ => fun
  | [d1, d2] => { results := [.lit (.bool false)], args := [d1, d2] }
  | _ => none }
def WholeJoinsWrongFalsely : Prop := wholeJoinsRow.holds Try.pinned (OpenSpec.ofChange wholeJoinsWrong)

/-- 'arithmeticalaw.WholeLaws': WHATEVER THE INPUT: true; the input reads as it did. -/
def wholeLawsSpec : ChangeSpec := { name := "wholeLaws", fn := fun _ => fun
  | [d1, d2, d3, d4] => { results := [.lit (.bool true)], args := [d1, d2, d3, d4] }
  | _ => none }
def wholeLawsRow : OpenClaim := { program := "ytknmfohipdjlpaa", sum := "f731b0b7b2e01a7bb876f7eabf9c0f4561e28ca8ac0aefeb51febf9dbb9dd4b4", func := "arithmetica/arithmeticalaw.WholeLaws", spec := "wholeLaws", named := ["math/bits.divideError", "math/bits.overflowError"], apart := false }
def WholeLawsSaid : Prop := wholeLawsRow.holds Try.pinned (OpenSpec.ofChange wholeLawsSpec)

/-- ITS FALSE NEIGHBOUR: 'it returns false'. Refute it at one input. -/
def wholeLawsWrong : ChangeSpec := { name := "wholeLaws", fn := fun _ => fun
  | [d1, d2, d3, d4] => { results := [.lit (.bool false)], args := [d1, d2, d3, d4] }
  | _ => none }
def WholeLawsWrongFalsely : Prop := wholeLawsRow.holds Try.pinned (OpenSpec.ofChange wholeLawsWrong)

/- THE SECOND FORM. 'bulk': how many values and letters a reading holds, each counted each time it is reached (what is shared counts as often as it is met; a slice's spare places count too). A statement '..UptoSaid' is the law's where the arguments, and the package variables that the reading takes, are together of bulk at most 1048576: NARROWER than '..Said'. Prove '..Said' where nothing that the law and all that it calls make is longer than what came in: it says more and counts as full. Else prove '..UptoSaid'. A law counts once. -/
mutual
def uptoBulk {H : Type} : DataW H → Nat
  | .lit (.string bytes) => bytes.length + 1
  | .lit _ => 1
  | .nil => 1
  | .ptr d => uptoBulk d + 1
  | .slice elems spare => uptoBulkAll elems + uptoBulkAll spare + 1
  | .agg parts => uptoBulkAll parts + 1
  | .iface _ d => uptoBulk d + 1
  | .map entries => uptoBulkEntries entries + 1
  | .held _ => 1
def uptoBulkAll {H : Type} : List (DataW H) → Nat
  | [] => 0
  | d :: r => uptoBulk d + uptoBulkAll r
def uptoBulkEntries {H : Type} : List (Lit × DataW H) → Nat
  | [] => 0
  | x :: r => uptoBulkEntry x + uptoBulkEntries r
def uptoBulkEntry {H : Type} : Lit × DataW H → Nat
  | (.string bytes, d) => bytes.length + uptoBulk d + 1
  | (_, d) => uptoBulk d + 1
 end
def uptoSmall : (H : Type) → List (DataW H) → Bool := fun _ ds => decide (uptoBulkAll ds ≤ 1048576)
def OpenSpec.upto (s : _root_.Go.ChangeSpec) : _root_.Go.OpenSpec := { _root_.Go.OpenSpec.ofChange s with cond := some uptoSmall }

/-- 'arithmeticalaw.WholeDivides', WHERE WHAT IT READS IS OF BULK AT MOST 1048576: true; the input reads as it did. -/
def wholeDividesUptoRow : OpenClaim := { program := "ytknmfohipdjlpaa", sum := "f731b0b7b2e01a7bb876f7eabf9c0f4561e28ca8ac0aefeb51febf9dbb9dd4b4", func := "arithmetica/arithmeticalaw.WholeDivides", spec := "wholeDivides", named := ["math/bits.divideError", "math/bits.overflowError"], apart := false, narrowed := true }
def WholeDividesUptoSaid : Prop := wholeDividesUptoRow.holds Try.pinned (OpenSpec.upto wholeDividesSpec)

/-- 'arithmeticalaw.WholePowers', WHERE WHAT IT READS IS OF BULK AT MOST 1048576: true; the input reads as it did. -/
def wholePowersUptoRow : OpenClaim := { program := "ytknmfohipdjlpaa", sum := "f731b0b7b2e01a7bb876f7eabf9c0f4561e28ca8ac0aefeb51febf9dbb9dd4b4", func := "arithmetica/arithmeticalaw.WholePowers", spec := "wholePowers", named := ["math/bits.divideError", "math/bits.overflowError"], apart := false, narrowed := true }
def WholePowersUptoSaid : Prop := wholePowersUptoRow.holds Try.pinned (OpenSpec.upto wholePowersSpec)

/-- 'arithmeticalaw.WholeJoins', WHERE WHAT IT READS IS OF BULK AT MOST 1048576: true; the input reads as it did. -/
def wholeJoinsUptoRow : OpenClaim := { program := "ytknmfohipdjlpaa", sum := "f731b0b7b2e01a7bb876f7eabf9c0f4561e28ca8ac0aefeb51febf9dbb9dd4b4", func := "arithmetica/arithmeticalaw.WholeJoins", spec := "wholeJoins", named := ["math/bits.divideError", "math/bits.overflowError"], apart := false, narrowed := true }
def WholeJoinsUptoSaid : Prop := wholeJoinsUptoRow.holds Try.pinned (OpenSpec.upto wholeJoinsSpec)

/-- 'arithmeticalaw.WholeLaws', WHERE WHAT IT READS IS OF BULK AT MOST 1048576: true; the input reads as it did. -/
def wholeLawsUptoRow : OpenClaim := { program := "ytknmfohipdjlpaa", sum := "f731b0b7b2e01a7bb876f7eabf9c0f4561e28ca8ac0aefeb51febf9dbb9dd4b4", func := "arithmetica/arithmeticalaw.WholeLaws", spec := "wholeLaws", named := ["math/bits.divideError", "math/bits.overflowError"], apart := false, narrowed := true }
def WholeLawsUptoSaid : Prop := wholeLawsUptoRow.holds Try.pinned (OpenSpec.upto wholeLawsSpec)

end Rows
end Go.Proofs.Ytknmfohipdjlpaa
