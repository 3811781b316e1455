/- The contract of div of words where the divisor is greater, or both are short, or the divisor is one word. -/
import Derived.Test.YtcbepaionliepaaJnC
import Derived.Test.YtcbepaionliepaaMathD
set_option linter.unusedSimpArgs false
set_option linter.unusedVariables false
set_option maxRecDepth 100000
namespace Go.Proofs.Ytcbepaionliepaa
open Go.RowKit

theorem Below.alloc_self' (w : World) (o : Obj) : Below w.heap.size w (w.alloc o) := Below.alloc (Below.refl _ _) (Nat.le_refl _) _

theorem NS.nil (w : World) : NS w (.slice none 0 0) 0 := ⟨[], ⟨by simp, Or.inl ⟨rfl, rfl⟩⟩, rfl, Or.inl rfl⟩

theorem NS.short {w : World} {aa : Option Addr} {len cap a : Nat} (h : NS w (.slice aa len cap) a) : (len ≤ 2 ↔ a < 18446744073709551616) ∧ (len = 1 → a < 4294967296) ∧ (len = 0 ↔ a = 0) := by
  obtain ⟨l, aa', g, cap', e, va, na, sa, _, _, _, _⟩ := h.open
  simp at e
  obtain ⟨rfl, rfl, rfl⟩ := e
  subst va
  refine ⟨⟨fun h => ?_, fun h => ?_⟩, fun h => ?_, ?_⟩
  · have := val_lt l sa
    have h2 := pw_le h
    rw [pw_two] at h2; omega
  · exact na.len (by rw [pw_two]; exact h)
  · have := val_lt l sa
    rw [h] at this; simpa [pw] using this
  · rw [List.length_eq_zero_iff]; exact na.nil_iff

end Go.Proofs.Ytcbepaionliepaa
