/-
  NARROWER THAN 'FOR EVERY INPUT', by the rows' own cells (each row's printed sentence says how): ContNears: laid · ContUnits: laid · SquareJacobi: laid · GridForms: laid · GridSmith: laid · GridSolves: laid.
  DERIVED. THE GIVEN ROWS OF THIS SEAT. 6 by the template 'for every input the law returns true; each argument reads behind the call as it read before'; 0 by the template 'total and deterministic' (their statements: YtfbgblidlabipaaGreatDoorTotals.lean).
  GIVEN WITH THE SEED: the statements are not yours to turn. If you find one false, say at which input.
  Laid BY PROGRAM, IN A SANDBOX (cutbox-rows.mjs): the forced cells as the released guide's own fill.sh prints them over the translation 8a0b95d9167b620e… (all of the seat's roots in one cut). By AI agents, Wed Nov 11 2026. No macro, syntax, notation, axiom, sorry.
-/
import Derived.Test.YtfbgblidlabipaaGreatDoorChecked
import GoSem.Claim
import GoSem.ClaimJoined
import GoSem.ClaimMapViews
import Derived.JoinedTies
import Derived.KernelRfl
namespace Go.Proofs.YtfbgblidlabipaaGreatDoor
/- THE CELL 'sum', in the pinned program and in every row, IS THE sha256 OF THE DUMP (.gsa) THAT YtfbgblidlabipaaGreatDoorProg.lean LOADS. Nothing in Lean hashes anything: it is a label: what it is worth is what the hold of that sum in a sandbox is worth. -/
noncomputable def Tryz.pinned : Pinned := { name := "ytfbgblidlabipaagreatdoor", sum := "8a0b95d9167b620eed5cdf74af241a6c93755dbe20c1b529fc26daef36693fd2", checked := Tryz.checked }
namespace Rows
def none {H : Type} : Left H := { results := [], args := [] }

/- WHAT THE LISTED PACKAGE-LEVEL VARIABLES READ AS WHEN THE CALL BEGINS. Each datum BY PROGRAM (the guide's laid-datum.mjs) off the statement by which the dump's own 'gosem.cut.vars' lays the variable. In a bare row this is a premise. The card (YtfbgblidlabipaaGreatDoorCards.lean) ties it to the program's text. -/
def laid_math_bits_deBruijn32tab {H : Type} : DataW H := .agg [.lit (.int .u8 0), .lit (.int .u8 1), .lit (.int .u8 28), .lit (.int .u8 2), .lit (.int .u8 29), .lit (.int .u8 14), .lit (.int .u8 24), .lit (.int .u8 3), .lit (.int .u8 30), .lit (.int .u8 22), .lit (.int .u8 20), .lit (.int .u8 15), .lit (.int .u8 25), .lit (.int .u8 17), .lit (.int .u8 4), .lit (.int .u8 8), .lit (.int .u8 31), .lit (.int .u8 27), .lit (.int .u8 13), .lit (.int .u8 23), .lit (.int .u8 21), .lit (.int .u8 19), .lit (.int .u8 16), .lit (.int .u8 7), .lit (.int .u8 26), .lit (.int .u8 12), .lit (.int .u8 18), .lit (.int .u8 6), .lit (.int .u8 11), .lit (.int .u8 5), .lit (.int .u8 10), .lit (.int .u8 9)]
def laid_math_bits_deBruijn64tab {H : Type} : DataW H := .agg [.lit (.int .u8 0), .lit (.int .u8 1), .lit (.int .u8 56), .lit (.int .u8 2), .lit (.int .u8 57), .lit (.int .u8 49), .lit (.int .u8 28), .lit (.int .u8 3), .lit (.int .u8 61), .lit (.int .u8 58), .lit (.int .u8 42), .lit (.int .u8 50), .lit (.int .u8 38), .lit (.int .u8 29), .lit (.int .u8 17), .lit (.int .u8 4), .lit (.int .u8 62), .lit (.int .u8 47), .lit (.int .u8 59), .lit (.int .u8 36), .lit (.int .u8 45), .lit (.int .u8 43), .lit (.int .u8 51), .lit (.int .u8 22), .lit (.int .u8 53), .lit (.int .u8 39), .lit (.int .u8 33), .lit (.int .u8 30), .lit (.int .u8 24), .lit (.int .u8 18), .lit (.int .u8 12), .lit (.int .u8 5), .lit (.int .u8 63), .lit (.int .u8 55), .lit (.int .u8 48), .lit (.int .u8 27), .lit (.int .u8 60), .lit (.int .u8 41), .lit (.int .u8 37), .lit (.int .u8 16), .lit (.int .u8 46), .lit (.int .u8 35), .lit (.int .u8 44), .lit (.int .u8 21), .lit (.int .u8 52), .lit (.int .u8 32), .lit (.int .u8 23), .lit (.int .u8 11), .lit (.int .u8 54), .lit (.int .u8 26), .lit (.int .u8 40), .lit (.int .u8 15), .lit (.int .u8 34), .lit (.int .u8 20), .lit (.int .u8 31), .lit (.int .u8 10), .lit (.int .u8 25), .lit (.int .u8 14), .lit (.int .u8 19), .lit (.int .u8 9), .lit (.int .u8 13), .lit (.int .u8 8), .lit (.int .u8 7), .lit (.int .u8 6)]
def laid_internal_strconv_uint64pow10 {H : Type} : DataW H := .agg [.lit (.int .u64 1), .lit (.int .u64 10), .lit (.int .u64 100), .lit (.int .u64 1000), .lit (.int .u64 10000), .lit (.int .u64 100000), .lit (.int .u64 1000000), .lit (.int .u64 10000000), .lit (.int .u64 100000000), .lit (.int .u64 1000000000), .lit (.int .u64 10000000000), .lit (.int .u64 100000000000), .lit (.int .u64 1000000000000), .lit (.int .u64 10000000000000), .lit (.int .u64 100000000000000), .lit (.int .u64 1000000000000000), .lit (.int .u64 10000000000000000), .lit (.int .u64 100000000000000000), .lit (.int .u64 1000000000000000000), .lit (.int .u64 10000000000000000000)]

/-- 'arithmeticalaw.ContNears': WHATEVER THE INPUT: true; the input reads as it did. -/
def contNearsSpec : ChangeSpec := { name := "contNears", fn := fun _ => fun
  | [d1, d2, d3] => { results := [.lit (.bool true)], args := [d1, d2, d3] }
  | _ => none }
def contNearsRow : OpenClaim := { program := "ytfbgblidlabipaagreatdoor", sum := "8a0b95d9167b620eed5cdf74af241a6c93755dbe20c1b529fc26daef36693fd2", func := "arithmetica/arithmeticalaw.ContNears", spec := "contNears", inPlace := ["internal/abi.NoEscape", "internal/bytealg.MakeNoZero"], unfollowed := true, recurses := true, named := ["internal/strconv.uint64pow10", "math/bits.deBruijn32tab", "math/bits.deBruijn64tab", "math/bits.divideError", "math/bits.overflowError"], apart := false, laid := [("math/bits.deBruijn32tab", laid_math_bits_deBruijn32tab), ("math/bits.deBruijn64tab", laid_math_bits_deBruijn64tab), ("internal/strconv.uint64pow10", laid_internal_strconv_uint64pow10)] }
def ContNearsSaid : Prop := contNearsRow.holds Tryz.pinned (OpenSpec.ofChange contNearsSpec)

/-- ITS FALSE NEIGHBOUR: 'it returns false'. Refute it at one input. -/
def contNearsWrong : ChangeSpec := { name := "contNears", fn := fun _ => fun
  | [d1, d2, d3] => { results := [.lit (.bool false)], args := [d1, d2, d3] }
  | _ => none }
def ContNearsWrongFalsely : Prop := contNearsRow.holds Tryz.pinned (OpenSpec.ofChange contNearsWrong)

/-- 'arithmeticalaw.ContUnits': WHATEVER THE INPUT: true; the input reads as it did. -/
def contUnitsSpec : ChangeSpec := { name := "contUnits", fn := fun _ => fun
  | [d] => { results := [.lit (.bool true)], args := [d] }
  | _ => none }
def contUnitsRow : OpenClaim := { program := "ytfbgblidlabipaagreatdoor", sum := "8a0b95d9167b620eed5cdf74af241a6c93755dbe20c1b529fc26daef36693fd2", func := "arithmetica/arithmeticalaw.ContUnits", spec := "contUnits", inPlace := ["internal/abi.NoEscape", "internal/bytealg.MakeNoZero"], unfollowed := true, recurses := true, named := ["math/bits.deBruijn64tab", "math/bits.divideError", "math/bits.overflowError", "internal/strconv.uint64pow10", "math/bits.deBruijn32tab"], apart := false, laid := [("math/bits.deBruijn32tab", laid_math_bits_deBruijn32tab), ("math/bits.deBruijn64tab", laid_math_bits_deBruijn64tab), ("internal/strconv.uint64pow10", laid_internal_strconv_uint64pow10)] }
def ContUnitsSaid : Prop := contUnitsRow.holds Tryz.pinned (OpenSpec.ofChange contUnitsSpec)

/-- ITS FALSE NEIGHBOUR: 'it returns false'. Refute it at one input. -/
def contUnitsWrong : ChangeSpec := { name := "contUnits", fn := fun _ => fun
  | [d] => { results := [.lit (.bool false)], args := [d] }
  | _ => none }
def ContUnitsWrongFalsely : Prop := contUnitsRow.holds Tryz.pinned (OpenSpec.ofChange contUnitsWrong)

/-- 'arithmeticalaw.SquareJacobi': WHATEVER THE INPUT: true; the input reads as it did. -/
def squareJacobiSpec : ChangeSpec := { name := "squareJacobi", fn := fun _ => fun
  | [d1, d2] => { results := [.lit (.bool true)], args := [d1, d2] }
  | _ => none }
def squareJacobiRow : OpenClaim := { program := "ytfbgblidlabipaagreatdoor", sum := "8a0b95d9167b620eed5cdf74af241a6c93755dbe20c1b529fc26daef36693fd2", func := "arithmetica/arithmeticalaw.SquareJacobi", spec := "squareJacobi", inPlace := ["internal/abi.NoEscape", "internal/bytealg.MakeNoZero"], unfollowed := true, recurses := true, named := ["math/bits.deBruijn64tab", "math/bits.divideError", "math/bits.overflowError", "internal/strconv.uint64pow10", "math/bits.deBruijn32tab"], apart := false, laid := [("math/bits.deBruijn32tab", laid_math_bits_deBruijn32tab), ("math/bits.deBruijn64tab", laid_math_bits_deBruijn64tab), ("internal/strconv.uint64pow10", laid_internal_strconv_uint64pow10)] }
def SquareJacobiSaid : Prop := squareJacobiRow.holds Tryz.pinned (OpenSpec.ofChange squareJacobiSpec)

/-- ITS FALSE NEIGHBOUR: 'it returns false'. Refute it at one input. -/
def squareJacobiWrong : ChangeSpec := { name := "squareJacobi", fn := fun _ => fun
  | [d1, d2] => { results := [.lit (.bool false)], args := [d1, d2] }
  | _ => none }
def SquareJacobiWrongFalsely : Prop := squareJacobiRow.holds Tryz.pinned (OpenSpec.ofChange squareJacobiWrong)

/-- 'arithmeticalaw.GridForms': WHATEVER THE INPUT: true; the input reads as it did. -/
def gridFormsSpec : ChangeSpec := { name := "gridForms", fn := fun _ => fun
  | [d] => { results := [.lit (.bool true)], args := [d] }
  | _ => none }
def gridFormsRow : OpenClaim := { program := "ytfbgblidlabipaagreatdoor", sum := "8a0b95d9167b620eed5cdf74af241a6c93755dbe20c1b529fc26daef36693fd2", func := "arithmetica/arithmeticalaw.GridForms", spec := "gridForms", inPlace := ["slices.overlaps[arithmetica/grid.vector]", "internal/abi.NoEscape", "internal/bytealg.MakeNoZero"], unfollowed := true, recurses := true, named := ["internal/strconv.uint64pow10", "math/bits.deBruijn32tab", "math/bits.deBruijn64tab"], apart := false, laid := [("math/bits.deBruijn32tab", laid_math_bits_deBruijn32tab), ("math/bits.deBruijn64tab", laid_math_bits_deBruijn64tab), ("internal/strconv.uint64pow10", laid_internal_strconv_uint64pow10)] }
def GridFormsSaid : Prop := gridFormsRow.holds Tryz.pinned (OpenSpec.ofChange gridFormsSpec)

/-- ITS FALSE NEIGHBOUR: 'it returns false'. Refute it at one input. -/
def gridFormsWrong : ChangeSpec := { name := "gridForms", fn := fun _ => fun
  | [d] => { results := [.lit (.bool false)], args := [d] }
  | _ => none }
def GridFormsWrongFalsely : Prop := gridFormsRow.holds Tryz.pinned (OpenSpec.ofChange gridFormsWrong)

/-- 'arithmeticalaw.GridSmith': WHATEVER THE INPUT: true; the input reads as it did. -/
def gridSmithSpec : ChangeSpec := { name := "gridSmith", fn := fun _ => fun
  | [d] => { results := [.lit (.bool true)], args := [d] }
  | _ => none }
def gridSmithRow : OpenClaim := { program := "ytfbgblidlabipaagreatdoor", sum := "8a0b95d9167b620eed5cdf74af241a6c93755dbe20c1b529fc26daef36693fd2", func := "arithmetica/arithmeticalaw.GridSmith", spec := "gridSmith", inPlace := ["slices.overlaps[arithmetica/grid.vector]", "internal/abi.NoEscape", "internal/bytealg.MakeNoZero"], unfollowed := true, recurses := true, named := ["internal/strconv.uint64pow10", "math/bits.deBruijn32tab", "math/bits.deBruijn64tab"], apart := false, laid := [("math/bits.deBruijn32tab", laid_math_bits_deBruijn32tab), ("math/bits.deBruijn64tab", laid_math_bits_deBruijn64tab), ("internal/strconv.uint64pow10", laid_internal_strconv_uint64pow10)] }
def GridSmithSaid : Prop := gridSmithRow.holds Tryz.pinned (OpenSpec.ofChange gridSmithSpec)

/-- ITS FALSE NEIGHBOUR: 'it returns false'. Refute it at one input. -/
def gridSmithWrong : ChangeSpec := { name := "gridSmith", fn := fun _ => fun
  | [d] => { results := [.lit (.bool false)], args := [d] }
  | _ => none }
def GridSmithWrongFalsely : Prop := gridSmithRow.holds Tryz.pinned (OpenSpec.ofChange gridSmithWrong)

/-- 'arithmeticalaw.GridSolves': WHATEVER THE INPUT: true; the input reads as it did. -/
def gridSolvesSpec : ChangeSpec := { name := "gridSolves", fn := fun _ => fun
  | [d1, d2] => { results := [.lit (.bool true)], args := [d1, d2] }
  | _ => none }
def gridSolvesRow : OpenClaim := { program := "ytfbgblidlabipaagreatdoor", sum := "8a0b95d9167b620eed5cdf74af241a6c93755dbe20c1b529fc26daef36693fd2", func := "arithmetica/arithmeticalaw.GridSolves", spec := "gridSolves", inPlace := ["slices.overlaps[arithmetica/grid.vector]", "internal/abi.NoEscape", "internal/bytealg.MakeNoZero"], unfollowed := true, recurses := true, named := ["internal/strconv.uint64pow10", "math/bits.deBruijn32tab", "math/bits.deBruijn64tab"], apart := false, laid := [("math/bits.deBruijn32tab", laid_math_bits_deBruijn32tab), ("math/bits.deBruijn64tab", laid_math_bits_deBruijn64tab), ("internal/strconv.uint64pow10", laid_internal_strconv_uint64pow10)] }
def GridSolvesSaid : Prop := gridSolvesRow.holds Tryz.pinned (OpenSpec.ofChange gridSolvesSpec)

/-- ITS FALSE NEIGHBOUR: 'it returns false'. Refute it at one input. -/
def gridSolvesWrong : ChangeSpec := { name := "gridSolves", fn := fun _ => fun
  | [d1, d2] => { results := [.lit (.bool false)], args := [d1, d2] }
  | _ => none }
def GridSolvesWrongFalsely : Prop := gridSolvesRow.holds Tryz.pinned (OpenSpec.ofChange gridSolvesWrong)

/- THE SECOND FORM. 'bulk': how many values and letters a reading holds, each counted each time it is reached (what is shared counts as often as it is met; a slice's spare places count too). A statement '..UptoSaid' is the law's where the arguments, and the package variables that the reading takes, are together of bulk at most 1048576: NARROWER than '..Said'. Prove '..Said' where nothing that the law and all that it calls make is longer than what came in: it says more and counts as full. Else prove '..UptoSaid'. A law counts once. -/
mutual
def uptoBulk {H : Type} : DataW H → Nat
  | .lit (.string bytes) => bytes.length + 1
  | .lit _ => 1
  | .nil => 1
  | .ptr d => uptoBulk d + 1
  | .slice elems spare => uptoBulkAll elems + uptoBulkAll spare + 1
  | .agg parts => uptoBulkAll parts + 1
  | .iface _ d => uptoBulk d + 1
  | .map entries => uptoBulkEntries entries + 1
  | .held _ => 1
def uptoBulkAll {H : Type} : List (DataW H) → Nat
  | [] => 0
  | d :: r => uptoBulk d + uptoBulkAll r
def uptoBulkEntries {H : Type} : List (Lit × DataW H) → Nat
  | [] => 0
  | x :: r => uptoBulkEntry x + uptoBulkEntries r
def uptoBulkEntry {H : Type} : Lit × DataW H → Nat
  | (.string bytes, d) => bytes.length + uptoBulk d + 1
  | (_, d) => uptoBulk d + 1
 end
def uptoSmall : (H : Type) → List (DataW H) → Bool := fun _ ds => decide (uptoBulkAll ds ≤ 1048576)
def OpenSpec.upto (s : _root_.Go.ChangeSpec) : _root_.Go.OpenSpec := { _root_.Go.OpenSpec.ofChange s with cond := some uptoSmall }

/-- 'arithmeticalaw.ContNears', WHERE WHAT IT READS IS OF BULK AT MOST 1048576: true; the input reads as it did. -/
def contNearsUptoRow : OpenClaim := { program := "ytfbgblidlabipaagreatdoor", sum := "8a0b95d9167b620eed5cdf74af241a6c93755dbe20c1b529fc26daef36693fd2", func := "arithmetica/arithmeticalaw.ContNears", spec := "contNears", inPlace := ["internal/abi.NoEscape", "internal/bytealg.MakeNoZero"], unfollowed := true, recurses := true, named := ["internal/strconv.uint64pow10", "math/bits.deBruijn32tab", "math/bits.deBruijn64tab", "math/bits.divideError", "math/bits.overflowError"], apart := false, laid := [("math/bits.deBruijn32tab", laid_math_bits_deBruijn32tab), ("math/bits.deBruijn64tab", laid_math_bits_deBruijn64tab), ("internal/strconv.uint64pow10", laid_internal_strconv_uint64pow10)], narrowed := true }
def ContNearsUptoSaid : Prop := contNearsUptoRow.holds Tryz.pinned (OpenSpec.upto contNearsSpec)

/-- 'arithmeticalaw.ContUnits', WHERE WHAT IT READS IS OF BULK AT MOST 1048576: true; the input reads as it did. -/
def contUnitsUptoRow : OpenClaim := { program := "ytfbgblidlabipaagreatdoor", sum := "8a0b95d9167b620eed5cdf74af241a6c93755dbe20c1b529fc26daef36693fd2", func := "arithmetica/arithmeticalaw.ContUnits", spec := "contUnits", inPlace := ["internal/abi.NoEscape", "internal/bytealg.MakeNoZero"], unfollowed := true, recurses := true, named := ["math/bits.deBruijn64tab", "math/bits.divideError", "math/bits.overflowError", "internal/strconv.uint64pow10", "math/bits.deBruijn32tab"], apart := false, laid := [("math/bits.deBruijn32tab", laid_math_bits_deBruijn32tab), ("math/bits.deBruijn64tab", laid_math_bits_deBruijn64tab), ("internal/strconv.uint64pow10", laid_internal_strconv_uint64pow10)], narrowed := true }
def ContUnitsUptoSaid : Prop := contUnitsUptoRow.holds Tryz.pinned (OpenSpec.upto contUnitsSpec)

/-- 'arithmeticalaw.SquareJacobi', WHERE WHAT IT READS IS OF BULK AT MOST 1048576: true; the input reads as it did. -/
def squareJacobiUptoRow : OpenClaim := { program := "ytfbgblidlabipaagreatdoor", sum := "8a0b95d9167b620eed5cdf74af241a6c93755dbe20c1b529fc26daef36693fd2", func := "arithmetica/arithmeticalaw.SquareJacobi", spec := "squareJacobi", inPlace := ["internal/abi.NoEscape", "internal/bytealg.MakeNoZero"], unfollowed := true, recurses := true, named := ["math/bits.deBruijn64tab", "math/bits.divideError", "math/bits.overflowError", "internal/strconv.uint64pow10", "math/bits.deBruijn32tab"], apart := false, laid := [("math/bits.deBruijn32tab", laid_math_bits_deBruijn32tab), ("math/bits.deBruijn64tab", laid_math_bits_deBruijn64tab), ("internal/strconv.uint64pow10", laid_internal_strconv_uint64pow10)], narrowed := true }
def SquareJacobiUptoSaid : Prop := squareJacobiUptoRow.holds Tryz.pinned (OpenSpec.upto squareJacobiSpec)

/-- 'arithmeticalaw.GridForms', WHERE WHAT IT READS IS OF BULK AT MOST 1048576: true; the input reads as it did. -/
def gridFormsUptoRow : OpenClaim := { program := "ytfbgblidlabipaagreatdoor", sum := "8a0b95d9167b620eed5cdf74af241a6c93755dbe20c1b529fc26daef36693fd2", func := "arithmetica/arithmeticalaw.GridForms", spec := "gridForms", inPlace := ["slices.overlaps[arithmetica/grid.vector]", "internal/abi.NoEscape", "internal/bytealg.MakeNoZero"], unfollowed := true, recurses := true, named := ["internal/strconv.uint64pow10", "math/bits.deBruijn32tab", "math/bits.deBruijn64tab"], apart := false, laid := [("math/bits.deBruijn32tab", laid_math_bits_deBruijn32tab), ("math/bits.deBruijn64tab", laid_math_bits_deBruijn64tab), ("internal/strconv.uint64pow10", laid_internal_strconv_uint64pow10)], narrowed := true }
def GridFormsUptoSaid : Prop := gridFormsUptoRow.holds Tryz.pinned (OpenSpec.upto gridFormsSpec)

/-- 'arithmeticalaw.GridSmith', WHERE WHAT IT READS IS OF BULK AT MOST 1048576: true; the input reads as it did. -/
def gridSmithUptoRow : OpenClaim := { program := "ytfbgblidlabipaagreatdoor", sum := "8a0b95d9167b620eed5cdf74af241a6c93755dbe20c1b529fc26daef36693fd2", func := "arithmetica/arithmeticalaw.GridSmith", spec := "gridSmith", inPlace := ["slices.overlaps[arithmetica/grid.vector]", "internal/abi.NoEscape", "internal/bytealg.MakeNoZero"], unfollowed := true, recurses := true, named := ["internal/strconv.uint64pow10", "math/bits.deBruijn32tab", "math/bits.deBruijn64tab"], apart := false, laid := [("math/bits.deBruijn32tab", laid_math_bits_deBruijn32tab), ("math/bits.deBruijn64tab", laid_math_bits_deBruijn64tab), ("internal/strconv.uint64pow10", laid_internal_strconv_uint64pow10)], narrowed := true }
def GridSmithUptoSaid : Prop := gridSmithUptoRow.holds Tryz.pinned (OpenSpec.upto gridSmithSpec)

/-- 'arithmeticalaw.GridSolves', WHERE WHAT IT READS IS OF BULK AT MOST 1048576: true; the input reads as it did. -/
def gridSolvesUptoRow : OpenClaim := { program := "ytfbgblidlabipaagreatdoor", sum := "8a0b95d9167b620eed5cdf74af241a6c93755dbe20c1b529fc26daef36693fd2", func := "arithmetica/arithmeticalaw.GridSolves", spec := "gridSolves", inPlace := ["slices.overlaps[arithmetica/grid.vector]", "internal/abi.NoEscape", "internal/bytealg.MakeNoZero"], unfollowed := true, recurses := true, named := ["internal/strconv.uint64pow10", "math/bits.deBruijn32tab", "math/bits.deBruijn64tab"], apart := false, laid := [("math/bits.deBruijn32tab", laid_math_bits_deBruijn32tab), ("math/bits.deBruijn64tab", laid_math_bits_deBruijn64tab), ("internal/strconv.uint64pow10", laid_internal_strconv_uint64pow10)], narrowed := true }
def GridSolvesUptoSaid : Prop := gridSolvesUptoRow.holds Tryz.pinned (OpenSpec.upto gridSolvesSpec)

end Rows
end Go.Proofs.YtfbgblidlabipaaGreatDoor
