import Derived.Test.YtmifenflbaohnaaDoorBigH
section
/- Contracts of numbers of any length: Set, Neg, Abs. -/
set_option linter.unusedSimpArgs false
set_option linter.unusedVariables false
set_option maxRecDepth 100000
namespace Go.Proofs.YtmifenflbaohnaaDoor
open Go.RowKit
end Go.Proofs.YtmifenflbaohnaaDoor
end

section
/- Contracts of arithmeticabig: length, left, right. -/
set_option linter.unusedSimpArgs false
set_option linter.unusedVariables false
set_option maxRecDepth 100000
namespace Go.Proofs.YtmifenflbaohnaaDoor
open Go.RowKit

/-- L is the length in bits of a. -/
structure Bits (a L : Nat) : Prop where
  lt : a < 2 ^ L
  ge : a ≠ 0 → 1 ≤ L ∧ 2 ^ (L - 1) ≤ a

theorem pw_two_pow (k : Nat) : pw k = 2 ^ (32 * k) := by
  induction k with
  | zero => rfl
  | succ n ih => show 4294967296 * pw n = _; rw [ih, Nat.mul_add, Nat.pow_add, Nat.mul_comm]

theorem half_step (x n : Nat) (h : x / 2 ^ n ≠ 0) : 2 ^ n ≤ x := by
  rcases Nat.lt_or_ge x (2 ^ n) with c | c
  · exact absurd (Nat.div_eq_of_lt c) h
  · exact c

theorem half_le (x n : Nat) (hx : x < 4294967296) (h : x / 2 ^ n ≠ 0) : n < 32 := by
  rcases Nat.lt_or_ge n 32 with c | c
  · exact c
  · have h1 := half_step x n h
    have h2 : 2 ^ 32 ≤ 2 ^ n := Nat.pow_le_pow_right (by omega) c
    omega

theorem or_u32 (a b : Nat) (ha : a < 4294967296) (hb : b < 4294967296) : bits .or .u32 (a : Int) (b : Int) = ((a ||| b : Nat) : Int) := by
  have ho : a ||| b < 2 ^ 32 := Nat.or_lt_two_pow (by omega) (by omega)
  have e1 : (BitVec.ofInt 32 (a : Int)).toNat = a := by rw [BitVec.ofInt_natCast, BitVec.toNat_ofNat]; omega
  have e2 : (BitVec.ofInt 32 (b : Int)).toNat = b := by rw [BitVec.ofInt_natCast, BitVec.toNat_ofNat]; omega
  show IntKind.u32.wrap ((BitVec.ofInt 32 (a : Int) ||| BitVec.ofInt 32 (b : Int)).toNat : Int) = _
  rw [BitVec.toNat_or, e1, e2, IntKind.wrap_u32]
  omega

/-- A carry below the shift, and what was shifted: they share no bit. -/
theorem or_carry (c x s : Nat) (hs : s < 32) (hc : c < 2 ^ s) : c ||| (x * 2 ^ s % 4294967296) = c + x * 2 ^ s % 4294967296 := by
  have e : x * 2 ^ s % 4294967296 = 2 ^ s * (x % 2 ^ (32 - s)) := by
    have h32 : (4294967296 : Nat) = 2 ^ (32 - s) * 2 ^ s := by rw [← Nat.pow_add, show 32 - s + s = 32 by omega]
    rw [h32, Nat.mul_mod_mul_right, Nat.mul_comm]
  rw [e, Nat.or_comm, ← Nat.two_pow_add_eq_or_of_lt hc, Nat.add_comm]

theorem left_step (D : List Nat) (k c x S s : Nat) (h : D.length = k) (hv : val D + pw k * c = S * 2 ^ s) :
    val (D ++ [c + x * 2 ^ s % 4294967296]) + pw (k + 1) * (x * 2 ^ s / 4294967296) = (S + pw k * x) * 2 ^ s := by
  have e1 : val (D ++ [c + x * 2 ^ s % 4294967296]) = val D + pw k * (c + x * 2 ^ s % 4294967296) := by rw [val_append, h]; simp [val]
  have e2 : pw (k + 1) * (x * 2 ^ s / 4294967296) = pw k * (4294967296 * (x * 2 ^ s / 4294967296)) := by
    show 4294967296 * pw k * _ = _
    rw [Nat.mul_comm 4294967296 (pw k), Nat.mul_assoc]
  have e3 : pw k * (x * 2 ^ s % 4294967296) + pw k * (4294967296 * (x * 2 ^ s / 4294967296)) = pw k * (x * 2 ^ s) := by rw [← Nat.mul_add, Nat.mod_add_div]
  rw [e1, e2, Nat.mul_add, Nat.add_mul, ← hv, Nat.mul_assoc]
  omega

theorem set_mid (w : Nat) (D : List Nat) (k m c d : Nat) (h : D.length = k) : (List.replicate w 0 ++ (D ++ (c :: List.replicate m 0))).set (k + w) d = List.replicate w 0 ++ (D ++ (d :: List.replicate m 0)) := by
  subst h
  rw [List.set_append_right _ _ (by simp), List.set_append_right _ _ (by simp)]
  simp

theorem getD_mid (w : Nat) (D : List Nat) (k c : Nat) (Z : List Nat) (h : D.length = k) : (List.replicate w 0 ++ (D ++ (c :: Z))).getD (k + w) 0 = c := by
  subst h
  rw [List.getD_eq_getElem?_getD, List.getElem?_append_right (by simp), List.getElem?_append_right (by simp)]
  simp

end Go.Proofs.YtmifenflbaohnaaDoor
end

section
/- The contract of right of words. -/
set_option linter.unusedSimpArgs false
set_option linter.unusedVariables false
set_option maxRecDepth 100000
namespace Go.Proofs.YtmifenflbaohnaaDoor
open Go.RowKit

theorem right_digit (x0 x1 Z s : Nat) (hs : s < 32) (h0 : x0 < 4294967296) : (x0 + 4294967296 * (x1 + 4294967296 * Z)) / 2 ^ s = (x0 + 4294967296 * x1) / 2 ^ s % 4294967296 + 4294967296 * ((x1 + 4294967296 * Z) / 2 ^ s) := by
  have hp : 0 < 2 ^ s := Nat.two_pow_pos s
  have e32 : (4294967296 : Nat) = 2 ^ (32 - s) * 2 ^ s := by rw [← Nat.pow_add, show 32 - s + s = 32 by omega]
  have e64 : (4294967296 : Nat) * 4294967296 = 2 ^ s * (4294967296 * 2 ^ (32 - s)) := by
    have : 2 ^ s * (4294967296 * 2 ^ (32 - s)) = 4294967296 * (2 ^ (32 - s) * 2 ^ s) := by simp only [Nat.mul_assoc, Nat.mul_comm, Nat.mul_left_comm]
    rw [this, ← e32]
  generalize hX : x0 + 4294967296 * (x1 + 4294967296 * Z) = X
  have h1 := Nat.div_add_mod (X / 2 ^ s) 4294967296
  have h2 : X / 2 ^ s / 4294967296 = (x1 + 4294967296 * Z) / 2 ^ s := by
    rw [Nat.div_div_eq_div_mul, Nat.mul_comm, ← Nat.div_div_eq_div_mul]
    congr 1
    omega
  have h3 : X / 2 ^ s = (x0 + 4294967296 * x1) / 2 ^ s + 4294967296 * 2 ^ (32 - s) * Z := by
    have : X = (x0 + 4294967296 * x1) + 2 ^ s * (4294967296 * 2 ^ (32 - s) * Z) := by
      rw [← hX, ← Nat.mul_assoc (2 ^ s), ← e64]; omega
    rw [this, Nat.add_mul_div_left _ _ hp]
  have h4 : X / 2 ^ s % 4294967296 = (x0 + 4294967296 * x1) / 2 ^ s % 4294967296 := by
    rw [h3, Nat.mul_assoc, Nat.add_mul_mod_self_left]
  rw [h2, h4] at h1
  omega

theorem right_step (D : List Nat) (k x0 x1 Z s T : Nat) (hs : s < 32) (h0 : x0 < 4294967296) (h : D.length = k) (hv : val D + pw k * ((x0 + 4294967296 * (x1 + 4294967296 * Z)) / 2 ^ s) = T) :
    val (D ++ [(x0 + 4294967296 * x1) / 2 ^ s % 4294967296]) + pw (k + 1) * ((x1 + 4294967296 * Z) / 2 ^ s) = T := by
  rw [right_digit x0 x1 Z s hs h0, Nat.mul_add] at hv
  have e1 : val (D ++ [(x0 + 4294967296 * x1) / 2 ^ s % 4294967296]) = val D + pw k * ((x0 + 4294967296 * x1) / 2 ^ s % 4294967296) := by rw [val_append, h]; simp [val]
  have e2 : pw (k + 1) * ((x1 + 4294967296 * Z) / 2 ^ s) = pw k * (4294967296 * ((x1 + 4294967296 * Z) / 2 ^ s)) := by
    show 4294967296 * pw k * _ = _
    rw [Nat.mul_comm 4294967296 (pw k), Nat.mul_assoc]
  omega

theorem val_drop_shift (l : List Nat) (h : ∀ x ∈ l, x < 4294967296) (n ww s : Nat) (hn : n = 32 * ww + s) (hw : ww ≤ l.length) : val l / 2 ^ n = val (l.drop ww) / 2 ^ s := by
  have e : val l = val (l.take ww) + pw ww * val (l.drop ww) := by
    have := val_append (l.take ww) (l.drop ww)
    rwa [List.take_append_drop, List.length_take, Nat.min_eq_left hw] at this
  have ht := take_lt l ww hw h
  rw [hn, Nat.pow_add, ← pw_two_pow, ← Nat.div_div_eq_div_mul, e, Nat.add_mul_div_left _ _ (pw_pos ww), Nat.div_eq_of_lt ht, Nat.zero_add]

end Go.Proofs.YtmifenflbaohnaaDoor
end
