/- Contracts of arithmeticabig: trim, words, give, SetInt64, NewInt; and B. -/
import Derived.Test.YthfoakbpoggmbacDoorBigBase
set_option linter.unusedSimpArgs false
set_option linter.unusedVariables false
set_option maxRecDepth 100000
namespace Go.Proofs.YthfoakbpoggmbacDoor
open Go.RowKit

theorem val_take (l : List Nat) (k : Nat) (h : ∀ j, k ≤ j → j < l.length → l.getD j 0 = 0) : val (l.take k) = val l := by
  induction l generalizing k with
  | nil => simp
  | cons x r ih =>
    cases k with
    | zero =>
      have h0 := h 0 (Nat.le_refl _) (by simp)
      have := ih 0 (fun j _ hj => by have := h (j + 1) (by omega) (by simp; omega); simpa using this)
      simp [val] at h0 this ⊢; omega
    | succ k =>
      have := ih k (fun j hk hj => by have := h (j + 1) (by omega) (by simp; omega); simpa using this)
      simp [val, this]

theorem val_last (l : List Nat) (k : Nat) (hk : k < l.length) (h : l.getD k 0 ≠ 0) : pw k ≤ val (l.take (k + 1)) := by
  rw [List.take_succ_eq_append_getElem hk, val_append, List.length_take, Nat.min_eq_left (by omega)]
  have h1 : l[k] ≠ 0 := by rwa [List.getD_eq_getElem?_getD, List.getElem?_eq_getElem hk, Option.getD_some] at h
  simp only [val]
  have : pw k * 1 ≤ pw k * (l[k] + 4294967296 * 0) := Nat.mul_le_mul_left _ (by omega)
  omega

theorem Sl.take {w : World} {g cap : Nat} {l : List Nat} (h : Sl w (.slice (some ⟨g, 0, none⟩) l.length cap) l) (k : Nat) (hk : k ≤ l.length) : Sl w (.slice (some ⟨g, 0, none⟩) k cap) (l.take k) := by
  refine ⟨fun x hx => h.small x (List.mem_of_mem_take hx), ?_⟩
  rcases h.shape with ⟨_, h1⟩ | ⟨g', cap', C, h1, h2, h3, h4⟩
  · simp at h1
  · simp at h1
    obtain ⟨rfl, rfl⟩ := h1
    have e : (l.take k).length = k := by simp; omega
    refine Or.inr ⟨g, cap, C, by rw [e], by omega, h3, fun i hi => ?_⟩
    rw [e] at hi
    rw [h4 i (by omega)]
    simp [List.getElem?_take, hi]

theorem Sl.new (w : World) (l : List Nat) (h : ∀ x ∈ l, x < 4294967296) : Sl (w.alloc (.cells (l.map fun x : Nat => Value.int .u32 (x : Int)).toArray 76)) (.slice (some ⟨w.heap.size, 0, none⟩) l.length l.length) l := by
  refine ⟨h, Or.inr ⟨w.heap.size, l.length, _, rfl, Nat.le_refl _, heap_alloc_new _ _, fun i hi => ?_⟩⟩
  simp [hi]

theorem NS.shape {w : World} {s : Value} {n : Nat} (h : NS w s n) : ∃ aa len cap, s = .slice aa len cap ∧ (0 < len ↔ 0 < n) := by
  obtain ⟨l, h1, h2, h3⟩ := h
  have : l = [] ↔ n = 0 := by rw [← h2]; exact h3.nil_iff
  have e : 0 < l.length ↔ 0 < n := by
    have := List.length_pos_iff (l := l); constructor
    · intro hh; rcases Nat.eq_zero_or_pos n with k | k
      · simp_all
      · exact k
    · intro hh; rw [this]; intro k; simp_all
  rcases h1.shape with ⟨k1, k2⟩ | ⟨g, cap, C, k1, _⟩
  · exact ⟨_, _, _, k2, by rw [← e, k1]; simp⟩
  · exact ⟨_, _, _, k1, e⟩

def sgd (neg : Bool) (m : Nat) : Int := if neg = true then -(m : Int) else m

theorem wrap_neg (x : Int) (h1 : -9223372036854775808 ≤ x) (hx : x < 0) : IntKind.u64.wrap (-IntKind.u64.wrap x) = ((x.natAbs : Nat) : Int) := by
  rw [IntKind.wrap_u64, IntKind.wrap_u64]; omega
theorem wrap_pos (x : Int) (h2 : x ≤ 9223372036854775807) (hx : ¬ x < 0) : x = ((x.natAbs : Nat) : Int) := by omega

theorem sgd_neg {x : Int} (h : x < 0) : sgd true x.natAbs = x := by simp [sgd]; omega
theorem sgd_pos {x : Int} (h : ¬ x < 0) : sgd false x.natAbs = x := by simp [sgd]; omega

theorem Upd.then_below {b : Nat} {w w1 w2 : World} (hb : Below w.heap.size w w1) (hu : Upd b w1 w2) : Upd b w w2 := (Upd.of_below hb).trans hu

end Go.Proofs.YthfoakbpoggmbacDoor
