/- The law EquationCoins: the walk. Written by mkco2.py. -/
import Derived.Test.YtcbepaionliepaaEquationCoinsWb
import Derived.Test.YtcbepaionliepaaEquationCoinsWc
import Derived.Test.YtcbepaionliepaaEquationCoinsWd
import Derived.Test.YtcbepaionliepaaEquationCoinsWe
import Derived.Test.YtcbepaionliepaaEquationCoinsWf
import Derived.Test.YtcbepaionliepaaEquationCoinsWg
set_option linter.unusedSimpArgs false
set_option linter.unusedVariables false
set_option maxRecDepth 100000
namespace Go.Proofs.Ytcbepaionliepaa
open Go.RowKit

/-- The law, whatever list is handed in. -/
theorem equation_coins (ad : Addr) (ca : Nat) (xs : List Int) (w : World) (ra : xs.length * 8 ≤ 140737488351232) (hca : ∀ j u, (xs.map fun x : Int => Value.int .i64 x)[j]? = some u → w.cell? (ad.add j) = some u) (hIA : IS w (.slice (some ad) xs.length ca) xs) :
    Calls Try.prog 5 #[.slice (some ad) xs.length ca] w fun e w' => e = .returned (.bool true) ∧ Below w.heap.size w w' := by
  by_cases hn : xs.length < 1 ∨ 20 < xs.length
  · exact co_many ad ca xs w ra hca hIA hn
  · have h0 : 1 ≤ xs.length := by omega
    have hl : xs.length ≤ 20 := by omega
    rcases co_first xs with hC | ⟨k, k1, k2, k3⟩
    · obtain ⟨l, e1, e2, e3, e4⟩ := nat_of hC
      have hg0 : CO.gl l ≤ 1000 ∧ 0 < CO.gl l := by
        have hd : CO.gl l ∣ l.getD 0 0 := CO.gl_dvd (by
          rw [List.getD_eq_getElem?_getD, List.getElem?_eq_getElem (by omega), Option.getD_some]
          exact List.getElem_mem _)
        have hb := e3 0 (by omega)
        exact ⟨Nat.le_trans (Nat.le_of_dvd (by omega) hd) hb.2, Nat.pos_of_dvd_of_pos hd (by omega)⟩
      by_cases hg1 : CO.gl l = 1
      · by_cases h2 : l.length = 2 ∧ 1 < lw l l.length
        · exact co_two ad ca xs w ra hca hIA h0 hl l e2 e3 e4 hg1 h2.1 h2.2
        · exact co_ok ad ca xs w ra hca hIA h0 hl l e2 e3 e4 hg1 h2
      · exact co_none ad ca xs w ra hca hIA h0 hl l e2 e3 e4 (by omega) hg0.1
    · exact co_range ad ca xs w ra hca hIA h0 hl k k1 k2 k3

end Go.Proofs.Ytcbepaionliepaa
