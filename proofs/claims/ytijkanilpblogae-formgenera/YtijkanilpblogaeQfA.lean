/- The reference's Disc, Reduced and FormFault. -/
import Derived.Test.YtijkanilpblogaeWholeD
import Derived.Test.YtijkanilpblogaeSv
import Derived.Test.YtijkanilpblogaeRsK
set_option linter.unusedSimpArgs false
set_option linter.unusedVariables false
set_option maxRecDepth 100000
namespace Go.Proofs.Ytijkanilpblogae
open Go.RowKit

/-- A quadratic form. -/
structure Qf where
  a : Int
  b : Int
  c : Int
def Qf.v (f : Qf) : Value := .agg #[.int .i64 f.a, .int .i64 f.b, .int .i64 f.c]
def Qf.disc (f : Qf) : Int := f.b * f.b - 4 * f.a * f.c
/-- All three in size up to N. -/
def Qf.upto (N : Int) (f : Qf) : Prop := -N ≤ f.a ∧ f.a ≤ N ∧ -N ≤ f.b ∧ f.b ≤ N ∧ -N ≤ f.c ∧ f.c ≤ N
def Qf.redB (f : Qf) : Bool := decide ((f.b.natAbs : Int) ≤ f.a) && (decide (f.a ≤ f.c) && (decide (0 ≤ f.b) || (-f.b != f.a && f.a != f.c)))

theorem sq_bd {x y N : Int} (h1 : -N ≤ x) (h2 : x ≤ N) (h3 : -N ≤ y) (h4 : y ≤ N) : -(N * N) ≤ x * y ∧ x * y ≤ N * N := by
  have hN : 0 ≤ N := by omega
  have e : (x * y).natAbs ≤ N.natAbs * N.natAbs := by
    rw [Int.natAbs_mul]
    exact Nat.mul_le_mul (by omega) (by omega)
  have e2 : ((N.natAbs * N.natAbs : Nat) : Int) = N * N := by
    rw [Int.natCast_mul, Int.natAbs_of_nonneg hN]
  omega

set_option maxHeartbeats 1000000 in
theorem refDisc_any (f : Qf) (w : World) (h : f.upto 1000000) : Calls Try.prog 15 #[f.v] w fun e w' => e = .returned (.int .i64 f.disc) ∧ Below w.heap.size w w' := by
  obtain ⟨a, b, c⟩ := f
  obtain ⟨h1, h2, h3, h4, h5, h6⟩ := h
  simp only [] at h1 h2 h3 h4 h5 h6
  have e1 := sq_bd h3 h4 h3 h4
  have e2 := sq_bd h1 h2 h5 h6
  have e3 : 4 * a * c = 4 * (a * c) := Int.mul_assoc ..
  obtain ⟨p, hp⟩ : ∃ p, b * b = p := ⟨_, rfl⟩
  obtain ⟨q, hq⟩ : ∃ q, 4 * a * c = q := ⟨_, rfl⟩
  have HD : Hid (Qf.disc ⟨a, b, c⟩ = p - q) := by show _ = _; unfold Qf.disc; rw [hp, hq]
  rw [HD.out]
  rw [hp] at e1
  have e4 : -4000000000000 ≤ q ∧ q ≤ 4000000000000 := by rw [← hq, e3]; omega
  clear e2 e3 HD
  unfold Qf.v
  go_enter Try.func15, Try.ntmps15
  go_wp2
  go_ret
  exact ⟨rfl, Below.alloc (Below.refl _ _) (Nat.le_refl _) _⟩

set_option maxHeartbeats 1000000 in
/-- .. of a form whose A C is known to be small. -/
theorem refDisc_mid (f : Qf) (w : World) (ha : -2000000 ≤ f.a ∧ f.a ≤ 2000000) (hb : -2000000 ≤ f.b ∧ f.b ≤ 2000000) (hac : -1000000000000000 ≤ f.a * f.c ∧ f.a * f.c ≤ 1000000000000000) : Calls Try.prog 15 #[f.v] w fun e w' => e = .returned (.int .i64 f.disc) ∧ Below w.heap.size w w' := by
  obtain ⟨a, b, c⟩ := f
  simp only [] at ha hb hac
  have e1 := sq_bd hb.1 hb.2 hb.1 hb.2
  have e3 : 4 * a * c = 4 * (a * c) := Int.mul_assoc ..
  obtain ⟨p, hp⟩ : ∃ p, b * b = p := ⟨_, rfl⟩
  obtain ⟨q, hq⟩ : ∃ q, 4 * a * c = q := ⟨_, rfl⟩
  have HD : Hid (Qf.disc ⟨a, b, c⟩ = p - q) := by show _ = _; unfold Qf.disc; rw [hp, hq]
  rw [HD.out]
  rw [hp] at e1
  have e4 : -4000000000000000 ≤ q ∧ q ≤ 4000000000000000 := by rw [← hq, e3]; omega
  clear hac e3 HD
  unfold Qf.v
  go_enter Try.func15, Try.ntmps15
  go_wp2
  go_ret
  exact ⟨rfl, Below.alloc (Below.refl _ _) (Nat.le_refl _) _⟩

set_option maxHeartbeats 1000000 in
theorem refReduced_any (f : Qf) (w : World) (h : f.upto 4000000000000) : Calls Try.prog 16 #[f.v] w fun e w' => e = .returned (.bool f.redB) ∧ Below w.heap.size w w' := by
  obtain ⟨a, b, c⟩ := f
  obtain ⟨h1, h2, h3, h4, h5, h6⟩ := h
  simp only [] at h1 h2 h3 h4 h5 h6
  unfold Qf.v Qf.redB
  simp only []
  rcases Bool.eq_false_or_eq_true (decide ((b.natAbs : Int) ≤ a)) with e1 | e1 <;> rcases Bool.eq_false_or_eq_true (decide (a ≤ c)) with e2 | e2 <;> rcases Bool.eq_false_or_eq_true (decide (0 ≤ b)) with e3 | e3 <;> rcases Bool.eq_false_or_eq_true (-b != a) with e4 | e4 <;> rcases Bool.eq_false_or_eq_true (a != c) with e5 | e5
  all_goals
    rw [e1, e2, e3, e4, e5]
    go_enter Try.func16, Try.ntmps16
    go_wp2_with fail
    go_quiet ((go_at_call 36; exact Calls.quiet_of_same (refSize_any b _ (by omega) (by omega))))
    go_wp2
    go_ret
    exact ⟨rfl, below_drewN' (Below.alloc (Below.refl _ _) (Nat.le_refl _) _)⟩

end Go.Proofs.Ytijkanilpblogae
