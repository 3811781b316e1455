/-
  NARROWER THAN 'FOR EVERY INPUT', by the rows' own cells (each row's printed sentence says how): GaussReciprocity: laid · EisenReckons: laid · EisenFactors: laid · EisenSymbols: laid · EisenReciprocity: laid.
  DERIVED. THE GIVEN ROWS OF THIS SEAT. 5 by the template 'for every input the law returns true; each argument reads behind the call as it read before'; 0 by the template 'total and deterministic' (their statements: YtogdggdaaiajnadGreatDoorTotals.lean).
  GIVEN WITH THE SEED: the statements are not yours to turn. If you find one false, say at which input.
  Laid BY PROGRAM, IN A SANDBOX (cutbox-rows.mjs): the forced cells as the released guide's own fill.sh prints them over the translation c28bf9b375776812… (all of the seat's roots in one cut). By AI agents, Wed Nov 11 2026. No macro, syntax, notation, axiom, sorry.
-/
import Derived.Test.YtogdggdaaiajnadGreatDoorChecked
import GoSem.Claim
import GoSem.ClaimJoined
import GoSem.ClaimMapViews
import Derived.JoinedTies
import Derived.KernelRfl
namespace Go.Proofs.YtogdggdaaiajnadGreatDoor
/- THE CELL 'sum', in the pinned program and in every row, IS THE sha256 OF THE DUMP (.gsa) THAT YtogdggdaaiajnadGreatDoorProg.lean LOADS. Nothing in Lean hashes anything: it is a label: what it is worth is what the hold of that sum in a sandbox is worth. -/
noncomputable def Tryz.pinned : Pinned := { name := "ytogdggdaaiajnadgreatdoor", sum := "c28bf9b3757768128469bedd98beba8a04503b28475bb07b1767e36ac06db6bc", checked := Tryz.checked }
namespace Rows
def none {H : Type} : Left H := { results := [], args := [] }

/- WHAT THE LISTED PACKAGE-LEVEL VARIABLES READ AS WHEN THE CALL BEGINS. Each datum BY PROGRAM (the guide's laid-datum.mjs) off the statement by which the dump's own 'gosem.cut.vars' lays the variable. In a bare row this is a premise. The card (YtogdggdaaiajnadGreatDoorCards.lean) ties it to the program's text. -/
def laid_math_bits_deBruijn64tab {H : Type} : DataW H := .agg [.lit (.int .u8 0), .lit (.int .u8 1), .lit (.int .u8 56), .lit (.int .u8 2), .lit (.int .u8 57), .lit (.int .u8 49), .lit (.int .u8 28), .lit (.int .u8 3), .lit (.int .u8 61), .lit (.int .u8 58), .lit (.int .u8 42), .lit (.int .u8 50), .lit (.int .u8 38), .lit (.int .u8 29), .lit (.int .u8 17), .lit (.int .u8 4), .lit (.int .u8 62), .lit (.int .u8 47), .lit (.int .u8 59), .lit (.int .u8 36), .lit (.int .u8 45), .lit (.int .u8 43), .lit (.int .u8 51), .lit (.int .u8 22), .lit (.int .u8 53), .lit (.int .u8 39), .lit (.int .u8 33), .lit (.int .u8 30), .lit (.int .u8 24), .lit (.int .u8 18), .lit (.int .u8 12), .lit (.int .u8 5), .lit (.int .u8 63), .lit (.int .u8 55), .lit (.int .u8 48), .lit (.int .u8 27), .lit (.int .u8 60), .lit (.int .u8 41), .lit (.int .u8 37), .lit (.int .u8 16), .lit (.int .u8 46), .lit (.int .u8 35), .lit (.int .u8 44), .lit (.int .u8 21), .lit (.int .u8 52), .lit (.int .u8 32), .lit (.int .u8 23), .lit (.int .u8 11), .lit (.int .u8 54), .lit (.int .u8 26), .lit (.int .u8 40), .lit (.int .u8 15), .lit (.int .u8 34), .lit (.int .u8 20), .lit (.int .u8 31), .lit (.int .u8 10), .lit (.int .u8 25), .lit (.int .u8 14), .lit (.int .u8 19), .lit (.int .u8 9), .lit (.int .u8 13), .lit (.int .u8 8), .lit (.int .u8 7), .lit (.int .u8 6)]
def laid_arithmetica_arithmeticaref_GaussRing {H : Type} : DataW H := .agg [.lit (.int .i64 0), .lit (.int .i64 4), .agg [.lit (.int .i64 0), .lit (.int .i64 1)]]
def laid_arithmetica_arithmeticaref_EisenRing {H : Type} : DataW H := .agg [.lit (.int .i64 (-1)), .lit (.int .i64 6), .agg [.lit (.int .i64 1), .lit (.int .i64 1)]]

/-- 'arithmeticalaw.GaussReciprocity': WHATEVER THE INPUT: true; the input reads as it did. -/
def gaussReciprocitySpec : ChangeSpec := { name := "gaussReciprocity", fn := fun _ => fun
  | [d1, d2] => { results := [.lit (.bool true)], args := [d1, d2] }
  | _ => none }
def gaussReciprocityRow : OpenClaim := { program := "ytogdggdaaiajnadgreatdoor", sum := "c28bf9b3757768128469bedd98beba8a04503b28475bb07b1767e36ac06db6bc", func := "arithmetica/arithmeticalaw.GaussReciprocity", spec := "gaussReciprocity", unfollowed := true, recurses := true, named := ["arithmetica/arithmeticaref.GaussRing", "math/bits.deBruijn64tab", "math/bits.divideError", "math/bits.overflowError"], apart := false, laid := [("math/bits.deBruijn64tab", laid_math_bits_deBruijn64tab), ("arithmetica/arithmeticaref.GaussRing", laid_arithmetica_arithmeticaref_GaussRing)] }
def GaussReciprocitySaid : Prop := gaussReciprocityRow.holds Tryz.pinned (OpenSpec.ofChange gaussReciprocitySpec)

/-- ITS FALSE NEIGHBOUR: 'it returns false'. Refute it at one input. -/
def gaussReciprocityWrong : ChangeSpec := { name := "gaussReciprocity", fn := fun _ => fun
  | [d1, d2] => { results := [.lit (.bool false)], args := [d1, d2] }
  | _ => none }
def GaussReciprocityWrongFalsely : Prop := gaussReciprocityRow.holds Tryz.pinned (OpenSpec.ofChange gaussReciprocityWrong)

/-- 'arithmeticalaw.EisenReckons': WHATEVER THE INPUT: true; the input reads as it did. -/
def eisenReckonsSpec : ChangeSpec := { name := "eisenReckons", fn := fun _ => fun
  | [d1, d2] => { results := [.lit (.bool true)], args := [d1, d2] }
  | _ => none }
def eisenReckonsRow : OpenClaim := { program := "ytogdggdaaiajnadgreatdoor", sum := "c28bf9b3757768128469bedd98beba8a04503b28475bb07b1767e36ac06db6bc", func := "arithmetica/arithmeticalaw.EisenReckons", spec := "eisenReckons", unfollowed := true, recurses := true, named := ["arithmetica/arithmeticaref.EisenRing", "math/bits.deBruijn64tab", "math/bits.divideError", "math/bits.overflowError"], apart := false, laid := [("math/bits.deBruijn64tab", laid_math_bits_deBruijn64tab), ("arithmetica/arithmeticaref.EisenRing", laid_arithmetica_arithmeticaref_EisenRing)] }
def EisenReckonsSaid : Prop := eisenReckonsRow.holds Tryz.pinned (OpenSpec.ofChange eisenReckonsSpec)

/-- ITS FALSE NEIGHBOUR: 'it returns false'. Refute it at one input. -/
def eisenReckonsWrong : ChangeSpec := { name := "eisenReckons", fn := fun _ => fun
  | [d1, d2] => { results := [.lit (.bool false)], args := [d1, d2] }
  | _ => none }
def EisenReckonsWrongFalsely : Prop := eisenReckonsRow.holds Tryz.pinned (OpenSpec.ofChange eisenReckonsWrong)

/-- 'arithmeticalaw.EisenFactors': WHATEVER THE INPUT: true; the input reads as it did. -/
def eisenFactorsSpec : ChangeSpec := { name := "eisenFactors", fn := fun _ => fun
  | [d] => { results := [.lit (.bool true)], args := [d] }
  | _ => none }
def eisenFactorsRow : OpenClaim := { program := "ytogdggdaaiajnadgreatdoor", sum := "c28bf9b3757768128469bedd98beba8a04503b28475bb07b1767e36ac06db6bc", func := "arithmetica/arithmeticalaw.EisenFactors", spec := "eisenFactors", unfollowed := true, recurses := true, named := ["arithmetica/arithmeticaref.EisenRing", "math/bits.deBruijn64tab", "math/bits.divideError", "math/bits.overflowError"], apart := false, laid := [("math/bits.deBruijn64tab", laid_math_bits_deBruijn64tab), ("arithmetica/arithmeticaref.EisenRing", laid_arithmetica_arithmeticaref_EisenRing)] }
def EisenFactorsSaid : Prop := eisenFactorsRow.holds Tryz.pinned (OpenSpec.ofChange eisenFactorsSpec)

/-- ITS FALSE NEIGHBOUR: 'it returns false'. Refute it at one input. -/
def eisenFactorsWrong : ChangeSpec := { name := "eisenFactors", fn := fun _ => fun
  | [d] => { results := [.lit (.bool false)], args := [d] }
  | _ => none }
def EisenFactorsWrongFalsely : Prop := eisenFactorsRow.holds Tryz.pinned (OpenSpec.ofChange eisenFactorsWrong)

/-- 'arithmeticalaw.EisenSymbols': WHATEVER THE INPUT: true; the input reads as it did. -/
def eisenSymbolsSpec : ChangeSpec := { name := "eisenSymbols", fn := fun _ => fun
  | [d1, d2] => { results := [.lit (.bool true)], args := [d1, d2] }
  | _ => none }
def eisenSymbolsRow : OpenClaim := { program := "ytogdggdaaiajnadgreatdoor", sum := "c28bf9b3757768128469bedd98beba8a04503b28475bb07b1767e36ac06db6bc", func := "arithmetica/arithmeticalaw.EisenSymbols", spec := "eisenSymbols", unfollowed := true, recurses := true, named := ["arithmetica/arithmeticaref.EisenRing", "math/bits.deBruijn64tab", "math/bits.divideError", "math/bits.overflowError"], apart := false, laid := [("math/bits.deBruijn64tab", laid_math_bits_deBruijn64tab), ("arithmetica/arithmeticaref.EisenRing", laid_arithmetica_arithmeticaref_EisenRing)] }
def EisenSymbolsSaid : Prop := eisenSymbolsRow.holds Tryz.pinned (OpenSpec.ofChange eisenSymbolsSpec)

/-- ITS FALSE NEIGHBOUR: 'it returns false'. Refute it at one input. -/
def eisenSymbolsWrong : ChangeSpec := { name := "eisenSymbols", fn := fun _ => fun
  | [d1, d2] => { results := [.lit (.bool false)], args := [d1, d2] }
  | _ => none }
def EisenSymbolsWrongFalsely : Prop := eisenSymbolsRow.holds Tryz.pinned (OpenSpec.ofChange eisenSymbolsWrong)

/-- 'arithmeticalaw.EisenReciprocity': WHATEVER THE INPUT: true; the input reads as it did. -/
def eisenReciprocitySpec : ChangeSpec := { name := "eisenReciprocity", fn := fun _ => fun
  | [d1, d2] => { results := [.lit (.bool true)], args := [d1, d2] }
  | _ => none }
def eisenReciprocityRow : OpenClaim := { program := "ytogdggdaaiajnadgreatdoor", sum := "c28bf9b3757768128469bedd98beba8a04503b28475bb07b1767e36ac06db6bc", func := "arithmetica/arithmeticalaw.EisenReciprocity", spec := "eisenReciprocity", unfollowed := true, recurses := true, named := ["arithmetica/arithmeticaref.EisenRing", "math/bits.deBruijn64tab", "math/bits.divideError", "math/bits.overflowError"], apart := false, laid := [("math/bits.deBruijn64tab", laid_math_bits_deBruijn64tab), ("arithmetica/arithmeticaref.EisenRing", laid_arithmetica_arithmeticaref_EisenRing)] }
def EisenReciprocitySaid : Prop := eisenReciprocityRow.holds Tryz.pinned (OpenSpec.ofChange eisenReciprocitySpec)

/-- ITS FALSE NEIGHBOUR: 'it returns false'. Refute it at one input. -/
def eisenReciprocityWrong : ChangeSpec := { name := "eisenReciprocity", fn := fun _ => fun
  | [d1, d2] => { results := [.lit (.bool false)], args := [d1, d2] }
  | _ => none }
def EisenReciprocityWrongFalsely : Prop := eisenReciprocityRow.holds Tryz.pinned (OpenSpec.ofChange eisenReciprocityWrong)

/- THE SECOND FORM. 'bulk': how many values and letters a reading holds, each counted each time it is reached (what is shared counts as often as it is met; a slice's spare places count too). A statement '..UptoSaid' is the law's where the arguments, and the package variables that the reading takes, are together of bulk at most 1048576: NARROWER than '..Said'. Prove '..Said' where nothing that the law and all that it calls make is longer than what came in: it says more and counts as full. Else prove '..UptoSaid'. A law counts once. -/
mutual
def uptoBulk {H : Type} : DataW H → Nat
  | .lit (.string bytes) => bytes.length + 1
  | .lit _ => 1
  | .nil => 1
  | .ptr d => uptoBulk d + 1
  | .slice elems spare => uptoBulkAll elems + uptoBulkAll spare + 1
  | .agg parts => uptoBulkAll parts + 1
  | .iface _ d => uptoBulk d + 1
  | .map entries => uptoBulkEntries entries + 1
  | .held _ => 1
def uptoBulkAll {H : Type} : List (DataW H) → Nat
  | [] => 0
  | d :: r => uptoBulk d + uptoBulkAll r
def uptoBulkEntries {H : Type} : List (Lit × DataW H) → Nat
  | [] => 0
  | x :: r => uptoBulkEntry x + uptoBulkEntries r
def uptoBulkEntry {H : Type} : Lit × DataW H → Nat
  | (.string bytes, d) => bytes.length + uptoBulk d + 1
  | (_, d) => uptoBulk d + 1
 end
def uptoSmall : (H : Type) → List (DataW H) → Bool := fun _ ds => decide (uptoBulkAll ds ≤ 1048576)
def OpenSpec.upto (s : _root_.Go.ChangeSpec) : _root_.Go.OpenSpec := { _root_.Go.OpenSpec.ofChange s with cond := some uptoSmall }

/-- 'arithmeticalaw.GaussReciprocity', WHERE WHAT IT READS IS OF BULK AT MOST 1048576: true; the input reads as it did. -/
def gaussReciprocityUptoRow : OpenClaim := { program := "ytogdggdaaiajnadgreatdoor", sum := "c28bf9b3757768128469bedd98beba8a04503b28475bb07b1767e36ac06db6bc", func := "arithmetica/arithmeticalaw.GaussReciprocity", spec := "gaussReciprocity", unfollowed := true, recurses := true, named := ["arithmetica/arithmeticaref.GaussRing", "math/bits.deBruijn64tab", "math/bits.divideError", "math/bits.overflowError"], apart := false, laid := [("math/bits.deBruijn64tab", laid_math_bits_deBruijn64tab), ("arithmetica/arithmeticaref.GaussRing", laid_arithmetica_arithmeticaref_GaussRing)], narrowed := true }
def GaussReciprocityUptoSaid : Prop := gaussReciprocityUptoRow.holds Tryz.pinned (OpenSpec.upto gaussReciprocitySpec)

/-- 'arithmeticalaw.EisenReckons', WHERE WHAT IT READS IS OF BULK AT MOST 1048576: true; the input reads as it did. -/
def eisenReckonsUptoRow : OpenClaim := { program := "ytogdggdaaiajnadgreatdoor", sum := "c28bf9b3757768128469bedd98beba8a04503b28475bb07b1767e36ac06db6bc", func := "arithmetica/arithmeticalaw.EisenReckons", spec := "eisenReckons", unfollowed := true, recurses := true, named := ["arithmetica/arithmeticaref.EisenRing", "math/bits.deBruijn64tab", "math/bits.divideError", "math/bits.overflowError"], apart := false, laid := [("math/bits.deBruijn64tab", laid_math_bits_deBruijn64tab), ("arithmetica/arithmeticaref.EisenRing", laid_arithmetica_arithmeticaref_EisenRing)], narrowed := true }
def EisenReckonsUptoSaid : Prop := eisenReckonsUptoRow.holds Tryz.pinned (OpenSpec.upto eisenReckonsSpec)

/-- 'arithmeticalaw.EisenFactors', WHERE WHAT IT READS IS OF BULK AT MOST 1048576: true; the input reads as it did. -/
def eisenFactorsUptoRow : OpenClaim := { program := "ytogdggdaaiajnadgreatdoor", sum := "c28bf9b3757768128469bedd98beba8a04503b28475bb07b1767e36ac06db6bc", func := "arithmetica/arithmeticalaw.EisenFactors", spec := "eisenFactors", unfollowed := true, recurses := true, named := ["arithmetica/arithmeticaref.EisenRing", "math/bits.deBruijn64tab", "math/bits.divideError", "math/bits.overflowError"], apart := false, laid := [("math/bits.deBruijn64tab", laid_math_bits_deBruijn64tab), ("arithmetica/arithmeticaref.EisenRing", laid_arithmetica_arithmeticaref_EisenRing)], narrowed := true }
def EisenFactorsUptoSaid : Prop := eisenFactorsUptoRow.holds Tryz.pinned (OpenSpec.upto eisenFactorsSpec)

/-- 'arithmeticalaw.EisenSymbols', WHERE WHAT IT READS IS OF BULK AT MOST 1048576: true; the input reads as it did. -/
def eisenSymbolsUptoRow : OpenClaim := { program := "ytogdggdaaiajnadgreatdoor", sum := "c28bf9b3757768128469bedd98beba8a04503b28475bb07b1767e36ac06db6bc", func := "arithmetica/arithmeticalaw.EisenSymbols", spec := "eisenSymbols", unfollowed := true, recurses := true, named := ["arithmetica/arithmeticaref.EisenRing", "math/bits.deBruijn64tab", "math/bits.divideError", "math/bits.overflowError"], apart := false, laid := [("math/bits.deBruijn64tab", laid_math_bits_deBruijn64tab), ("arithmetica/arithmeticaref.EisenRing", laid_arithmetica_arithmeticaref_EisenRing)], narrowed := true }
def EisenSymbolsUptoSaid : Prop := eisenSymbolsUptoRow.holds Tryz.pinned (OpenSpec.upto eisenSymbolsSpec)

/-- 'arithmeticalaw.EisenReciprocity', WHERE WHAT IT READS IS OF BULK AT MOST 1048576: true; the input reads as it did. -/
def eisenReciprocityUptoRow : OpenClaim := { program := "ytogdggdaaiajnadgreatdoor", sum := "c28bf9b3757768128469bedd98beba8a04503b28475bb07b1767e36ac06db6bc", func := "arithmetica/arithmeticalaw.EisenReciprocity", spec := "eisenReciprocity", unfollowed := true, recurses := true, named := ["arithmetica/arithmeticaref.EisenRing", "math/bits.deBruijn64tab", "math/bits.divideError", "math/bits.overflowError"], apart := false, laid := [("math/bits.deBruijn64tab", laid_math_bits_deBruijn64tab), ("arithmetica/arithmeticaref.EisenRing", laid_arithmetica_arithmeticaref_EisenRing)], narrowed := true }
def EisenReciprocityUptoSaid : Prop := eisenReciprocityUptoRow.holds Tryz.pinned (OpenSpec.upto eisenReciprocitySpec)

end Rows
end Go.Proofs.YtogdggdaaiajnadGreatDoor
