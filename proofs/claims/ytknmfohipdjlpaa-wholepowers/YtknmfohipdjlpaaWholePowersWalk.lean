/- The law WholePowers: the walk, of all classes. -/
import Derived.Test.YtknmfohipdjlpaaWholePowersWa
import Derived.Test.YtknmfohipdjlpaaWholePowersWb
import Derived.Test.YtknmfohipdjlpaaWholePowersWc
import Derived.Test.YtknmfohipdjlpaaWholePowersWd
set_option linter.unusedSimpArgs false
set_option linter.unusedVariables false
namespace Go.Proofs.Ytknmfohipdjlpaa.wholePowers
open Go.RowKit

theorem walk (a n m k : Int) (w : World) :
    Calls Try.prog 4 #[.int .i64 a, .int .i64 n, .int .i64 m, .int .i64 k] w fun e w' => e = .returned (.bool true) ∧ Below w.heap.size w w' := by
  cases h2 : okB a m
  · cases hNB : numB n
    · exact walk_bad_nn a n m k w h2 hNB
    · by_cases hn : n < 0
      · exact walk_bad_neg a n m k w h2 hNB hn
      · obtain ⟨N, eN⟩ := Int.eq_ofNat_of_zero_le (show 0 ≤ n by omega)
        by_cases k1 : k < 1
        · exact walk_bad_manyL a n m k w h2 hNB N eN k1
        · by_cases k2 : 60 < k
          · exact walk_bad_manyH a n m k w h2 hNB N eN k2
          · obtain ⟨K, eK⟩ := Int.eq_ofNat_of_zero_le (show 0 ≤ k by omega)
            exact walk_bad_ok a n m k w h2 hNB N eN K eK (by omega) (by omega)
  · by_cases hm : m < 1
    · cases hNB : numB n
      · exact walk_low_nn a n m k w h2 hm hNB
      · by_cases hn : n < 0
        · exact walk_low_neg a n m k w h2 hm hNB hn
        · obtain ⟨N, eN⟩ := Int.eq_ofNat_of_zero_le (show 0 ≤ n by omega)
          by_cases k1 : k < 1
          · exact walk_low_manyL a n m k w h2 hm hNB N eN k1
          · by_cases k2 : 60 < k
            · exact walk_low_manyH a n m k w h2 hm hNB N eN k2
            · obtain ⟨K, eK⟩ := Int.eq_ofNat_of_zero_le (show 0 ≤ k by omega)
              exact walk_low_ok a n m k w h2 hm hNB N eN K eK (by omega) (by omega)
    · obtain ⟨M, eM⟩ := Int.eq_ofNat_of_zero_le (show 0 ≤ m by omega)
      by_cases hg : Int.gcd a m = 1
      · cases hNB : numB n
        · exact walk_ok_nn a n m k w h2 M eM (by omega) hg hNB
        · by_cases hn : n < 0
          · exact walk_ok_neg a n m k w h2 M eM (by omega) hg hNB hn
          · obtain ⟨N, eN⟩ := Int.eq_ofNat_of_zero_le (show 0 ≤ n by omega)
            by_cases k1 : k < 1
            · exact walk_ok_manyL a n m k w h2 M eM (by omega) hg hNB N eN k1
            · by_cases k2 : 60 < k
              · exact walk_ok_manyH a n m k w h2 M eM (by omega) hg hNB N eN k2
              · obtain ⟨K, eK⟩ := Int.eq_ofNat_of_zero_le (show 0 ≤ k by omega)
                exact walk_ok_ok a n m k w h2 M eM (by omega) hg hNB N eN K eK (by omega) (by omega)
      · cases hNB : numB n
        · exact walk_none_nn a n m k w h2 M eM (by omega) hg hNB
        · by_cases hn : n < 0
          · exact walk_none_neg a n m k w h2 M eM (by omega) hg hNB hn
          · obtain ⟨N, eN⟩ := Int.eq_ofNat_of_zero_le (show 0 ≤ n by omega)
            by_cases k1 : k < 1
            · exact walk_none_manyL a n m k w h2 M eM (by omega) hg hNB N eN k1
            · by_cases k2 : 60 < k
              · exact walk_none_manyH a n m k w h2 M eM (by omega) hg hNB N eN k2
              · obtain ⟨K, eK⟩ := Int.eq_ofNat_of_zero_le (show 0 ≤ k by omega)
                exact walk_none_ok a n m k w h2 M eM (by omega) hg hNB N eN K eK (by omega) (by omega)

end Go.Proofs.Ytknmfohipdjlpaa.wholePowers
