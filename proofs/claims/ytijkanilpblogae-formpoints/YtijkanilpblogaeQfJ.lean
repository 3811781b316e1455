/- The reference's Value and PointsMany. -/
import Derived.Test.YtijkanilpblogaeQfG
import Derived.Test.YtijkanilpblogaeQfI
set_option linter.unusedSimpArgs false
set_option linter.unusedVariables false
set_option maxRecDepth 100000
namespace Go.Proofs.Ytijkanilpblogae
open Go.RowKit

theorem bd3 {a b M N : Int} (h1 : -M ≤ a) (h2 : a ≤ M) (h3 : -N ≤ b) (h4 : b ≤ N) : -(M * N) ≤ a * b ∧ a * b ≤ M * N := by
  have hM : 0 ≤ M := by omega
  have hN : 0 ≤ N := by omega
  have h := Int.natAbs_mul a b
  have e : (a * b).natAbs ≤ M.natAbs * N.natAbs := by rw [h]; exact Nat.mul_le_mul (by omega) (by omega)
  have e2 : (M.natAbs * N.natAbs : Nat) = (M * N).natAbs := (Int.natAbs_mul M N).symm
  have hMN := Int.mul_nonneg hM hN
  omega

set_option maxHeartbeats 1000000 in
theorem Value_any (g : Qf) (p q : Int) (w : World) (hu : g.upto 1000000) (hp : -3000 ≤ p ∧ p ≤ 3000) (hq : -3000 ≤ q ∧ q ≤ 3000) :
    Calls Try.prog 37 #[g.v, .int .i64 p, .int .i64 q] w fun e w' => e = .returned (.int .i64 (g.at p q)) ∧ Below w.heap.size w w' := by
  obtain ⟨a1, a2, a3, a4, a5, a6⟩ := hu
  have h1 := bd3 a1 a2 hp.1 hp.2
  have h2 := bd3 h1.1 h1.2 hp.1 hp.2
  have h3 := bd3 a3 a4 hp.1 hp.2
  have h4 := bd3 h3.1 h3.2 hq.1 hq.2
  have h5 := bd3 a5 a6 hq.1 hq.2
  have h6 := bd3 h5.1 h5.2 hq.1 hq.2
  have HE : Hid (g.a * p * p + g.b * p * q + g.c * q * q = g.at p q) := by show _ = _; unfold Qf.at; grind
  obtain ⟨t1, e1⟩ : ∃ t, g.a * p = t := ⟨_, rfl⟩
  obtain ⟨t3, e3⟩ : ∃ t, g.b * p = t := ⟨_, rfl⟩
  obtain ⟨t5, e5⟩ : ∃ t, g.c * q = t := ⟨_, rfl⟩
  rw [e1] at h1 h2
  rw [e3] at h3 h4
  rw [e5] at h5 h6
  rw [e1, e3, e5] at HE
  obtain ⟨t2, e2⟩ : ∃ t, t1 * p = t := ⟨_, rfl⟩
  obtain ⟨t4, e4⟩ : ∃ t, t3 * q = t := ⟨_, rfl⟩
  obtain ⟨t6, e6⟩ : ∃ t, t5 * q = t := ⟨_, rfl⟩
  rw [e2] at h2
  rw [e4] at h4
  rw [e6] at h6
  rw [e2, e4, e6] at HE
  unfold Qf.v
  clear a1 a2 a3 a4 a5 a6
  go_enter Try.func37, Try.ntmps37
  go_wp2
  go_ret
  exact ⟨ret_int HE.out, al1 _ _⟩

theorem pk_len (g : Qf) (n : Int) (x y s : Nat) : (pk g n x y s).length ≤ 1 := by
  unfold pk
  by_cases h0 : (x = 0 ∧ s % 2 = 1) ∨ (y = 0 ∧ 1 < s)
  · rw [if_pos h0]; simp
  · rw [if_neg h0]
    by_cases h1 : g.at (if s % 2 = 1 then -(x : Int) else x) (if 1 < s then -(y : Int) else y) = n
    · rw [if_pos h1]; simp
    · rw [if_neg h1]; simp
theorem pk_skip (g : Qf) (n : Int) (x y s : Nat) (h : (x = 0 ∧ s % 2 = 1) ∨ (y = 0 ∧ 1 < s)) : pk g n x y s = [] := by unfold pk; rw [if_pos h]
theorem pk_yes (g : Qf) (n : Int) (x y s : Nat) (p q : Int) (h : ¬((x = 0 ∧ s % 2 = 1) ∨ (y = 0 ∧ 1 < s))) (hp : (if s % 2 = 1 then -(x : Int) else x) = p) (hq : (if 1 < s then -(y : Int) else y) = q) (h1 : g.at p q = n) : (pk g n x y s).length = 1 := by
  unfold pk; rw [if_neg h, hp, hq, if_pos h1]; simp
theorem pk_no (g : Qf) (n : Int) (x y s : Nat) (p q : Int) (h : ¬((x = 0 ∧ s % 2 = 1) ∨ (y = 0 ∧ 1 < s))) (hp : (if s % 2 = 1 then -(x : Int) else x) = p) (hq : (if 1 < s then -(y : Int) else y) = q) (h1 : ¬ g.at p q = n) : (pk g n x y s).length = 0 := by
  unfold pk; rw [if_neg h, hp, hq, if_neg h1]; simp
theorem quad4_len (g : Qf) (n : Int) (x y : Nat) : ∀ k, (quad4 g n x y k).length ≤ k
  | 0 => by simp [quad4]
  | k + 1 => by rw [quad4_succ, List.length_append]; have := quad4_len g n x y k; have := pk_len g n x y k; omega
theorem rowP_len (g : Qf) (n : Int) (y : Nat) : ∀ k, (rowP g n y k).length ≤ 4 * k
  | 0 => by simp [rowP]
  | k + 1 => by rw [rowP_succ, List.length_append]; have := rowP_len g n y k; have := quad4_len g n k y 4; omega
theorem allP_len (g : Qf) (n : Int) : ∀ k, (allP g n (fun _ => 2400) k).length ≤ 9600 * k
  | 0 => by simp [allP]
  | k + 1 => by rw [allP_succ, List.length_append]; have := allP_len g n k; have := rowP_len g n k 2400; omega
theorem red_disc {g : Qf} (hr : g.redB = true) : 3 * (g.a * g.a) ≤ -g.disc := by
  obtain ⟨h1, h2, h3⟩ := redB_parts hr
  have ha : 0 ≤ g.a := by omega
  have x1 := (sq_bd h1 h2 h1 h2).2
  have x2 := Int.mul_le_mul_of_nonneg_left h3 ha
  have x3 : 4 * g.a * g.c = 4 * (g.a * g.c) := Int.mul_assoc ..
  unfold Qf.disc
  omega
/-- How far y goes. -/
theorem y_top {g : Qf} {n : Int} {y : Nat} (hr : g.redB = true) (ha : 1 ≤ g.a) (hn : 0 ≤ n ∧ n ≤ 1000000) (h : -g.disc * y * y ≤ 4 * g.a * n) : y ≤ 1154 := by
  rcases Nat.lt_or_ge 1154 y with hy | hy
  · exfalso
    have h1 := red_disc hr
    have h2 : (1155 : Int) * 1155 ≤ (y : Int) * y := Int.mul_le_mul (by omega) (by omega) (by omega) (by omega)
    have h3 : 3 * (g.a * g.a) * ((y : Int) * y) ≤ -g.disc * ((y : Int) * y) := Int.mul_le_mul_of_nonneg_right h1 (sq_nn _)
    have h4 : 3 * (g.a * g.a) * (1155 * 1155) ≤ 3 * (g.a * g.a) * ((y : Int) * y) := Int.mul_le_mul_of_nonneg_left h2 (by have := sq_nn g.a; omega)
    have e1 : -g.disc * y * y = -g.disc * ((y : Int) * y) := Int.mul_assoc ..
    have h5 : 4 * g.a * n ≤ 4 * g.a * 1000000 := Int.mul_le_mul_of_nonneg_left hn.2 (by omega)
    have h6 : g.a * 1 ≤ g.a * g.a := Int.mul_le_mul_of_nonneg_left ha (by omega)
    omega
  · exact hy
/-- At 2400 the break comes. -/
theorem x_top {g : Qf} {n : Int} {y : Nat} (hr : g.redB = true) (ha : 1 ≤ g.a) (hn : n ≤ 1000000) (hy : y ≤ 1155) : n < g.a * ((2400 : Int) * 2400) - (g.b.natAbs : Int) * ((2400 : Int) * y) + g.c * ((y : Int) * y) ∧ (g.b.natAbs : Int) * y < 2 * g.a * 2400 := by
  obtain ⟨h1, h2, h3⟩ := redB_parts hr
  have hb : (g.b.natAbs : Int) ≤ g.a := by omega
  have e1 : (g.b.natAbs : Int) * y ≤ g.a * y := Int.mul_le_mul_of_nonneg_right hb (by omega)
  have e2 : g.a * (y : Int) ≤ g.a * 1155 := Int.mul_le_mul_of_nonneg_left (by omega) (by omega)
  have e3 : (g.b.natAbs : Int) * ((2400 : Int) * y) = 2400 * ((g.b.natAbs : Int) * y) := by grind
  have e4 : 0 ≤ g.c * ((y : Int) * y) := Int.mul_nonneg (by omega) (sq_nn _)
  constructor
  · rw [e3]; omega
  · omega

end Go.Proofs.Ytijkanilpblogae
