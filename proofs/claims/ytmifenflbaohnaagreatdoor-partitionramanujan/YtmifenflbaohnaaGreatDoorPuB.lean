/- The program: partition.turned, Turned; what is asked of Check and Turned. -/
import Derived.Test.YtmifenflbaohnaaGreatDoorPuA
import Derived.Test.YtmifenflbaohnaaGreatDoorJnD
set_option linter.unusedSimpArgs false
set_option linter.unusedVariables false
set_option maxRecDepth 100000
namespace Go.Proofs.YtmifenflbaohnaaGreatDoor
open Go.RowKit

theorem icn_fit {k : Nat} {B B' : Nat → Int} (h : ∀ j, j < k → B j = B' j) : icn k B = icn k B' := by
  unfold icn
  exact List.map_congr_left fun j hj => by rw [h j (List.mem_range.1 hj)]
/-- A slice of numbers whose array is new since B. -/
structure Iu (B : Nat) (w : World) (s : Value) (xs : List Int) : Prop where
  shape : ∃ (aa : Option Addr) (g o cap : Nat), s = .slice aa xs.length cap ∧ (0 < xs.length → aa = some ⟨g, o, none⟩) ∧ (∀ i, i < xs.length → w.cell? ⟨g, o + i, none⟩ = some (.int .i64 (xs.getD i 0))) ∧ (0 < xs.length → g < w.heap.size ∧ B ≤ g)
theorem Iu.is {B : Nat} {w : World} {s : Value} {xs : List Int} (h : Iu B w s xs) : IS w s xs := by
  obtain ⟨aa, g, o, cap, h1, h2, h3, h4⟩ := h.shape
  exact ⟨aa, g, o, cap, h1, h2, h3, fun h => (h4 h).1⟩
theorem Iu.set {B b : Nat} {w : World} {s : Value} {xs : List Int} (h : Iu B w s xs) (hb : b < B) (k : Nat) (v : Value) : Iu B (w.setCell ⟨b, k, none⟩ v) s xs := by
  obtain ⟨aa, g, o, cap, h1, h2, h3, h4⟩ := h.shape
  refine ⟨aa, g, o, cap, h1, h2, fun i hi => ?_, fun h => ⟨by simpa using (h4 h).1, (h4 h).2⟩⟩
  have hg : g ≠ b := by have := (h4 (by omega)).2; omega
  exact (World.cell?_of_block (Below.heap_setCell _ ⟨b, k, none⟩ _ g hg)).trans (h3 i hi)
theorem Iu.below {B : Nat} {w w' : World} {s : Value} {xs : List Int} (h : Iu B w s xs) (k : Below w.heap.size w w') : Iu B w' s xs := by
  obtain ⟨aa, g, o, cap, h1, h2, h3, h4⟩ := h.shape
  exact ⟨aa, g, o, cap, h1, h2, fun i hi => (k.cell (p := ⟨g, o + i, none⟩) (h4 (by omega)).1).trans (h3 i hi), fun h => ⟨Nat.lt_of_lt_of_le (h4 h).1 k.size, (h4 h).2⟩⟩
theorem Iu.mono {B B' : Nat} {w : World} {s : Value} {xs : List Int} (h : Iu B w s xs) (hB : B' ≤ B) : Iu B' w s xs := by
  obtain ⟨aa, g, o, cap, h1, h2, h3, h4⟩ := h.shape
  exact ⟨aa, g, o, cap, h1, h2, h3, fun h => ⟨(h4 h).1, Nat.le_trans hB (h4 h).2⟩⟩
theorem Iu.nil (B : Nat) (w : World) : Iu B w (.slice none 0 0) [] := ⟨none, 0, 0, 0, rfl, fun h => by simp at h, fun i hi => by simp at hi, fun h => by simp at h⟩
theorem iu_of_icn {w : World} {b k : Nat} {B : Nat → Int} {l : List Int} (h : Cl b (icn k B) 3 w) (hl : l.length = k) (he : ∀ i, i < k → l.getD i 0 = B i) : Iu b w (.slice (some ⟨b, 0, none⟩) k k) l := by
  refine ⟨some ⟨b, 0, none⟩, b, 0, k, by rw [hl], fun _ => rfl, fun i hi => ?_, fun _ => ⟨h.lt, Nat.le_refl _⟩⟩
  rw [Nat.zero_add, h.cell i, icn_get B (by omega), he i (by omega)]
/-- The row while the i-th entry is counted: up to m. -/
def trB (l : List Int) (i m : Nat) (j : Nat) : Int := (PT.tge (l.take i) ((j + 1 : Nat) : Int) : Int) + if j < m then 1 else 0
theorem trB_zero (l : List Int) (i j : Nat) : trB l i 0 j = (PT.tge (l.take i) ((j + 1 : Nat) : Int) : Int) := by unfold trB; rw [if_neg (by omega)]; omega
theorem trB_step (l : List Int) (i m : Nat) (j : Nat) : trB l i (m + 1) j = if j = m then trB l i m m + 1 else trB l i m j := by
  unfold trB
  by_cases h : j = m
  · subst h; rw [if_pos (by omega), if_pos rfl, if_neg (by omega)]; omega
  · rw [if_neg h]
    by_cases h2 : j < m
    · rw [if_pos h2, if_pos (by omega)]
    · rw [if_neg h2, if_neg (by omega)]
theorem trB_next {l : List Int} {i x : Nat} (h : i < l.length) (hx : l.getD i 0 = (x : Int)) (j : Nat) : trB l i x j = trB l (i + 1) 0 j := by
  rw [trB_zero, PT.tge_take h, hx]
  unfold trB
  by_cases h2 : j < x
  · rw [if_pos h2, if_pos (by omega)]; omega
  · rw [if_neg h2, if_neg (by omega)]; omega

end Go.Proofs.YtmifenflbaohnaaGreatDoor
