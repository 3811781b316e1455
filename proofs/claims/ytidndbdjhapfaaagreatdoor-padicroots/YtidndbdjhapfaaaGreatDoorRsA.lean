/- math/bits.TrailingZeros64, residue.symbol and residue.Jacobi. -/
import Derived.Test.YtidndbdjhapfaaaGreatDoorJoinB
import Derived.Test.YtidndbdjhapfaaaGreatDoorSv
import Derived.Test.YtidndbdjhapfaaaGreatDoorMathH
import Derived.Shelf.Spec.TrailingZeros
set_option linter.unusedSimpArgs false
set_option linter.unusedVariables false
set_option maxRecDepth 100000
namespace Go.Proofs.YtidndbdjhapfaaaGreatDoor
open Go.RowKit

/-- The table of package math/bits is in memory. -/
def Tb (w : World) : Prop := TabAt 2 Lib.deBruijn64tab w
theorem Tb.lt {w : World} (h : Tb w) : 2 < w.heap.size := by
  rcases Nat.lt_or_ge 2 w.heap.size with k | k
  · exact k
  · have h1 := h 0 (by decide)
    simp only [World.cell?, Array.getElem?_eq_none k] at h1; cases h1
theorem Tb.below {w w' : World} (h : Tb w) (k : Below w.heap.size w w') : Tb w' := fun j hj => (k.cell (p := ⟨2, j, none⟩) h.lt).trans (h j hj)
theorem Tb.alloc {w : World} (h : Tb w) (o : Obj) : Tb (w.alloc o) := h.below (Below.alloc (Below.refl _ _) (Nat.le_refl _) _)
theorem Tb.upto {B : Nat} {w w' : World} (h : Tb w) (k : Below B w w') (hB : w.heap.size ≤ B) : Tb w' := h.below (k.mono hB)

set_option maxHeartbeats 1000000 in
theorem tz_core (x k idx : Nat) (w : World) (hx0 : ((x : Int) == 0) = false)
    (key : IntKind.u64.wrap (bits BinOp.and IntKind.u64 (x : Int) (IntKind.u64.wrap (-(x : Int))) * 285870213051353865) / 288230376151711744 = (idx : Int))
    (hi : idx < 64) (hk : k < 64) (hcell : w.cell? ⟨2, idx, none⟩ = some (.int .u8 k)) :
    Calls Tryz.prog 98 #[.int .u64 x] w fun e w' => e = .returned (.int .i64 k) ∧ w' = w := by
  go_enter Tryz.func98, Tryz.ntmps98
  go_wp2_with (simp only [key])
  go_ret
  exact ⟨rfl, rfl⟩

/-- x is 2 so often, times an odd number. -/
theorem tz_any (x : Nat) (hx : x < 18446744073709551616) (h0 : x ≠ 0) :
    ∃ t b : Nat, x = 2 ^ t * b ∧ b % 2 = 1 ∧ t < 64 ∧ ∀ w, Tb w → Calls Tryz.prog 98 #[.int .u64 x] w fun e w' => e = .returned (.int .i64 t) ∧ w' = w := by
  obtain ⟨hlow, hk⟩ := Lib.lowest_bit 64 x h0 hx
  obtain ⟨m, hm, hk2⟩ := Lib.ctzFrom_spec 64 x (by omega) hx
  have e : Lib.ctz 64 x = Lib.ctzFrom 64 x := by simp [Lib.ctz, h0]
  refine ⟨Lib.ctz 64 x, 2 * m + 1, by rw [e]; exact hm, by omega, hk, fun w hT => ?_⟩
  obtain ⟨hi, htab⟩ := Lib.deBruijn64_at _ hk
  have hcell := hT _ hi
  rw [htab] at hcell
  exact tz_core x _ _ w (by simp; omega) (tz64_key x _ hx h0 hlow) hi hk hcell

/-- One round: out with all 2, and turned round. -/
theorem jac_round {a n t b : Nat} {z J : Int} (h : a = 2 ^ t * b) (hb : b % 2 = 1) (hz : z * jac a n = J) :
    (if b % 4 = 3 ∧ n % 4 = 3 then -(if t % 2 = 1 ∧ (n % 8 = 3 ∨ n % 8 = 5) then -z else z) else (if t % 2 = 1 ∧ (n % 8 = 3 ∨ n % 8 = 5) then -z else z)) * jac (n % b) b = J := by
  rw [h, jac_out t b n (by omega), jac_odd b n hb] at hz
  rw [← hz]
  have e1 : twoS n ^ t = if t % 2 = 1 ∧ (n % 8 = 3 ∨ n % 8 = 5) then -1 else 1 := by
    unfold twoS
    by_cases h8 : n % 8 = 3 ∨ n % 8 = 5
    · rw [if_pos h8]
      rcases Nat.mod_two_eq_zero_or_one t with h2 | h2
      · rw [if_neg (by omega)]
        obtain ⟨k, rfl⟩ : ∃ k, t = 2 * k := ⟨t / 2, by omega⟩
        rw [Int.pow_mul]; simp [Int.one_pow]
      · rw [if_pos ⟨h2, h8⟩]
        obtain ⟨k, rfl⟩ : ∃ k, t = 2 * k + 1 := ⟨t / 2, by omega⟩
        rw [Int.pow_succ, Int.pow_mul]; simp [Int.one_pow]
    · rw [if_neg h8, if_neg (by omega), Int.one_pow]
  rw [e1]
  unfold sgnS
  split <;> split <;> grind

end Go.Proofs.YtidndbdjhapfaaaGreatDoor
