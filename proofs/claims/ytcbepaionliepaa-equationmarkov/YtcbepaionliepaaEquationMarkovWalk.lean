/- The law EquationMarkov: whatever bound. -/
import Derived.Test.YtcbepaionliepaaEquationMarkovWa
import Derived.Test.YtcbepaionliepaaEquationMarkovWb
import Derived.Test.YtcbepaionliepaaEquationMarkovWc
set_option maxRecDepth 100000
namespace Go.Proofs.Ytcbepaionliepaa
open Go.RowKit

theorem equation_markov (m : Int) (w : World) :
    Calls Try.prog 4 #[.int .i64 m] w fun e w' => e = .returned (.bool true) ∧ Below w.heap.size w w' := by
  by_cases h : m < 0 ∨ 1000000000000000000 < m
  · exact mk_bad m w h
  · obtain ⟨n, rfl⟩ : ∃ n : Nat, m = (n : Int) := ⟨m.toNat, by omega⟩
    by_cases h1 : n ≤ 100
    · exact mk_small n w h1
    · exact mk_great n w (by omega) (by omega)

end Go.Proofs.Ytcbepaionliepaa
