/- Contracts of numbers of any length: QuoRem, Quo, DivMod, Mod. -/
import Derived.Test.YtcbepaionliepaaBigM
import Derived.Test.YtcbepaionliepaaJnC
set_option linter.unusedSimpArgs false
set_option linter.unusedVariables false
set_option maxRecDepth 100000
namespace Go.Proofs.Ytcbepaionliepaa
open Go.RowKit

/-- w' is w with new blocks, and with writes to the blocks b and c alone. -/
structure Upd2 (b c : Nat) (w w' : World) : Prop where
  os : w'.os = w.os
  tape : w'.tape = w.tape
  output : w'.output = w.output
  size : w.heap.size ≤ w'.heap.size
  block : ∀ k, k < w.heap.size → k ≠ b → k ≠ c → w'.heap[k]? = w.heap[k]?

theorem Upd.two {b : Nat} {w w' : World} (h : Upd b w w') (c : Nat) : Upd2 b c w w' := ⟨h.os, h.tape, h.output, h.size, fun k hk h1 _ => h.block k hk h1⟩
theorem Upd.two' {b : Nat} {w w' : World} (h : Upd b w w') (c : Nat) : Upd2 c b w w' := ⟨h.os, h.tape, h.output, h.size, fun k hk _ h1 => h.block k hk h1⟩
theorem Upd2.trans {b c : Nat} {x y z : World} (h : Upd2 b c x y) (k : Upd2 b c y z) : Upd2 b c x z :=
  ⟨k.os.trans h.os, k.tape.trans h.tape, k.output.trans h.output, Nat.le_trans h.size k.size, fun i hi h1 h2 => (k.block i (Nat.lt_of_lt_of_le hi h.size) h1 h2).trans (h.block i hi h1 h2)⟩
theorem Upd2.of_below {b c : Nat} {w w' : World} (h : Below w.heap.size w w') : Upd2 b c w w' := (Upd.of_below (b := b) h).two c
theorem Upd2.refl (b c : Nat) (w : World) : Upd2 b c w w := (Upd.refl b w).two c
theorem Upd2.drewN {b c n : Nat} {x y : World} (h : Upd2 b c x y) : Upd2 b c x (y.drewN n) := ⟨h.os, h.tape, h.output, h.size, h.block⟩
theorem Slot.upd2 {b c d : Nat} {w w' : World} (h : Slot w d) (hu : Upd2 b c w w') (h1 : d ≠ b) (h2 : d ≠ c) : Slot w' d := by
  obtain ⟨x, y, h3⟩ := h
  exact ⟨x, y, by rw [hu.block d (lt_of_some h3) h1 h2]; exact h3⟩
theorem Sl.upd2 {b c : Nat} {w w' : World} {s : Value} {l : List Nat} (h : Sl w s l) (hu : Upd2 b c w w') (hb : Slot w b) (hc : Slot w c) : Sl w' s l := by
  refine ⟨h.small, ?_⟩
  rcases h.shape with h1 | ⟨g, cap, C, h1, h2, h3, h4⟩
  · exact Or.inl h1
  · refine Or.inr ⟨g, cap, C, h1, h2, ?_, h4⟩
    rw [hu.block g (lt_of_some h3) ?_ ?_]; exact h3
    · intro e; subst e; obtain ⟨x, y, h5⟩ := hb; rw [h3] at h5; simp at h5
    · intro e; subst e; obtain ⟨x, y, h5⟩ := hc; rw [h3] at h5; simp at h5
theorem BigAt.upd2 {b c d : Nat} {w w' : World} {n : Int} (h : BigAt w d n) (hu : Upd2 b c w w') (hb : Slot w b) (hc : Slot w c) (h1 : d ≠ b) (h2 : d ≠ c) : BigAt w' d n := by
  obtain ⟨s, h3, l, h4, h5⟩ := h
  exact ⟨s, by rw [hu.block d (lt_of_some h3) h1 h2]; exact h3, l, h4.upd2 hu hb hc, h5⟩
theorem Upd2.swap {b c : Nat} {w w' : World} (h : Upd2 b c w w') : Upd2 c b w w' := ⟨h.os, h.tape, h.output, h.size, fun k hk h1 h2 => h.block k hk h2 h1⟩
/-- The first block is new: only the second one is written. -/
theorem Upd2.fresh {b c : Nat} {w w1 w' : World} (h0 : Below w.heap.size w w1) (hb : w.heap.size ≤ b) (h : Upd2 b c w1 w') : Upd c w w' :=
  ⟨h.os.trans h0.os, h.tape.trans h0.tape, h.output.trans h0.output, Nat.le_trans h0.size h.size, fun k hk h1 => (h.block k (Nat.lt_of_lt_of_le hk h0.size) (by omega) h1).trans (h0.block k hk)⟩

theorem sgd_div (x y : Int) : sgd (decide (x < 0) != decide (y < 0)) (x.natAbs / y.natAbs) = x.tdiv y := by
  rcases Int.lt_or_le x 0 with hx | hx <;> rcases Int.lt_or_le y 0 with hy | hy
  · rw [decide_eq_true hx, decide_eq_true hy]
    obtain ⟨a, rfl⟩ : ∃ a : Nat, x = -(a : Int) := ⟨x.natAbs, by omega⟩
    obtain ⟨b, rfl⟩ : ∃ b : Nat, y = -(b : Int) := ⟨y.natAbs, by omega⟩
    show (((-(a : Int)).natAbs / (-(b : Int)).natAbs : Nat) : Int) = _
    rw [Int.natAbs_neg, Int.natAbs_natCast, Int.natAbs_neg, Int.natAbs_natCast, Int.neg_tdiv, Int.tdiv_neg, Int.neg_neg, Int.ofNat_tdiv]
  · rw [decide_eq_true hx, decide_eq_false (Int.not_lt.2 hy)]
    obtain ⟨a, rfl⟩ : ∃ a : Nat, x = -(a : Int) := ⟨x.natAbs, by omega⟩
    obtain ⟨b, rfl⟩ : ∃ b : Nat, y = (b : Int) := ⟨y.natAbs, by omega⟩
    show -(((-(a : Int)).natAbs / (b : Int).natAbs : Nat) : Int) = _
    rw [Int.natAbs_neg, Int.natAbs_natCast, Int.natAbs_natCast, Int.neg_tdiv, Int.ofNat_tdiv]
  · rw [decide_eq_false (Int.not_lt.2 hx), decide_eq_true hy]
    obtain ⟨a, rfl⟩ : ∃ a : Nat, x = (a : Int) := ⟨x.natAbs, by omega⟩
    obtain ⟨b, rfl⟩ : ∃ b : Nat, y = -(b : Int) := ⟨y.natAbs, by omega⟩
    show -(((a : Int).natAbs / (-(b : Int)).natAbs : Nat) : Int) = _
    rw [Int.natAbs_neg, Int.natAbs_natCast, Int.natAbs_natCast, Int.tdiv_neg, Int.ofNat_tdiv]
  · rw [decide_eq_false (Int.not_lt.2 hx), decide_eq_false (Int.not_lt.2 hy)]
    obtain ⟨a, rfl⟩ : ∃ a : Nat, x = (a : Int) := ⟨x.natAbs, by omega⟩
    obtain ⟨b, rfl⟩ : ∃ b : Nat, y = (b : Int) := ⟨y.natAbs, by omega⟩
    show (((a : Int).natAbs / (b : Int).natAbs : Nat) : Int) = _
    rw [Int.natAbs_natCast, Int.natAbs_natCast, Int.ofNat_tdiv]
theorem sgd_mod (x y : Int) : sgd (decide (x < 0)) (x.natAbs % y.natAbs) = x.tmod y := by
  have h : x.tmod y = x.tmod (y.natAbs : Int) := by
    rcases Int.natAbs_eq y with e | e
    · rw [← e]
    · rw [e, Int.tmod_neg, Int.natAbs_neg]; rfl
  rw [h]
  rcases Int.lt_or_le x 0 with hx | hx
  · rw [decide_eq_true hx]
    obtain ⟨a, rfl⟩ : ∃ a : Nat, x = -(a : Int) := ⟨x.natAbs, by omega⟩
    show -(((-(a : Int)).natAbs % y.natAbs : Nat) : Int) = _
    rw [Int.natAbs_neg, Int.natAbs_natCast, Int.neg_tmod, Int.ofNat_tmod]
  · rw [decide_eq_false (Int.not_lt.2 hx)]
    obtain ⟨a, rfl⟩ : ∃ a : Nat, x = (a : Int) := ⟨x.natAbs, by omega⟩
    show (((a : Int).natAbs % y.natAbs : Nat) : Int) = _
    rw [Int.natAbs_natCast, Int.ofNat_tmod]

/-- From the rest with the dividend's sign to the rest that is no less than 0. -/
theorem euclid_rest {x y : Int} (hy : y ≠ 0) : (¬ x.tmod y < 0 → x / y = x.tdiv y ∧ x % y = x.tmod y) ∧ (x.tmod y < 0 → y < 0 → x / y = x.tdiv y + 1 ∧ x % y = x.tmod y - y) ∧ (x.tmod y < 0 → ¬ y < 0 → x / y = x.tdiv y - 1 ∧ x % y = x.tmod y + y) := by
  have h1 := Int.tmod_add_mul_tdiv x y
  have h2 := Int.emod_add_mul_ediv x y
  have h3 := Int.emod_nonneg x hy
  have h4 : x % y < (y.natAbs : Int) := Int.emod_lt x hy
  have h5 : (x.tmod y).natAbs < y.natAbs := by rw [Int.natAbs_tmod]; exact Nat.mod_lt _ (by omega)
  -- y (tdiv - ediv) = emod - tmod
  have h6 : y * (x.tdiv y - x / y) = x % y - x.tmod y := by rw [Int.mul_sub]; omega
  generalize x.tdiv y = T at *
  generalize x / y = E at *
  generalize x % y = e at *
  generalize x.tmod y = t at *
  have key : ∀ k : Int, e - t = y * k → T - E = k := by
    intro k hk
    rw [← h6] at hk
    exact Int.eq_of_mul_eq_mul_left hy hk
  refine ⟨fun h => ?_, fun h hn => ?_, fun h hn => ?_⟩
  · have hz : T - E = 0 := by
      have h7 : (y * (T - E)).natAbs < y.natAbs := by rw [h6]; omega
      rw [Int.natAbs_mul] at h7
      have h8 : (T - E).natAbs < 1 := Nat.lt_of_mul_lt_mul_left (a := y.natAbs) (by omega)
      omega
    have h9 : y * (T - E) = 0 := by rw [hz, Int.mul_zero]
    omega
  · have hz : T - E = -1 := by
      have h7 : (y * (T - E + 1)).natAbs < y.natAbs := by rw [Int.mul_add, h6]; omega
      rw [Int.natAbs_mul] at h7
      have h8 : (T - E + 1).natAbs < 1 := Nat.lt_of_mul_lt_mul_left (a := y.natAbs) (by omega)
      omega
    have h9 : y * (T - E) = -y := by rw [hz]; omega
    omega
  · have hz : T - E = 1 := by
      have h7 : (y * (T - E - 1)).natAbs < y.natAbs := by rw [Int.mul_sub, h6]; omega
      rw [Int.natAbs_mul] at h7
      have h8 : (T - E - 1).natAbs < 1 := Nat.lt_of_mul_lt_mul_left (a := y.natAbs) (by omega)
      omega
    have h9 : y * (T - E) = y := by rw [hz]; omega
    omega

end Go.Proofs.Ytcbepaionliepaa
