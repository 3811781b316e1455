import Derived.Test.YtidndbdjhapfaaaGreatDoorJoinB
import Derived.Test.YtidndbdjhapfaaaGreatDoorBigG
import Derived.Laws.StructEq
import Derived.Test.YtidndbdjhapfaaaGreatDoorBigP
section
/- The document's examples of layer 1 (wholeBegun). -/
set_option linter.unusedSimpArgs false
set_option linter.unusedVariables false
set_option maxRecDepth 100000
namespace Go.Proofs.YtidndbdjhapfaaaGreatDoor
open Go.RowKit

theorem begun_bez {u v : Int} (h : Bez 12 (-18) u v) : u = 2 ∧ v = 1 := by
  have h1 := h.lin
  have h2 := h.low (by omega)
  have h3 := h.high (by omega)
  have e : Int.gcd 12 (-18) = 6 := by decide
  rw [e] at h1 h3
  have e2 : (Int.natAbs (-18) / 6 : Nat) = 3 := by decide
  rw [e2] at h3
  omega

theorem three_cells (a b c : Int) (W : World) (B : Nat) (hB : B < W.heap.size) (h0 : W.cell? ⟨B, 0, none⟩ = some (.int .i64 a)) (h1 : W.cell? ⟨B, 1, none⟩ = some (.int .i64 b)) (h2 : W.cell? ⟨B, 2, none⟩ = some (.int .i64 c)) :
    IS W (.slice (some ⟨B, 0, none⟩) 3 3) [a, b, c] := by
  refine ⟨⟨_, B, 0, 3, rfl, fun _ => rfl, fun i hi => ?_, fun _ => hB⟩⟩
  match i, hi with
  | 0, _ => exact h0
  | 1, _ => exact h1
  | 2, _ => exact h2

theorem begun_join {R M c at' : Int} (h : JOut [2, 3, 2] [3, 5, 7] R M c at') : R = 23 ∧ M = 105 ∧ c = 0 ∧ at' = 0 := by
  have l0 : MathC.jl [3, 5, 7] 0 = 1 := rfl
  have l1 : MathC.jl [3, 5, 7] 1 = 3 := by decide
  have l2 : MathC.jl [3, 5, 7] 2 = 15 := by decide
  have l3 : MathC.jl [3, 5, 7] 3 = 105 := by decide
  rcases h.cases with h1 | h1 | ⟨_, _, k, r, m, R', M', hk, hj, rfl, rfl, rfl, hc, ho⟩ | ⟨_, _, r, m, hj, rfl, rfl, rfl, rfl⟩
  · simp at h1
  · simp at h1
  · exfalso
    have hm := hj.lcm
    have hk3 : k = 0 ∨ k = 1 ∨ k = 2 := by simp at hk; omega
    rcases hk3 with rfl | rfl | rfl
    all_goals
      first | rw [l0] at hm | rw [l1] at hm | rw [l2] at hm
      subst hm
      rcases ho.cases with ⟨_, _, _, h2⟩ | ⟨_, n, hn, n1, n2, ⟨_, _, _, h2⟩ | ⟨_, _, _, h2, h3⟩ | ⟨h2, _⟩⟩
      · simp [numB] at h2
      · have : n = 3 ∨ n = 5 ∨ n = 7 := by simp at hn; omega
        rcases this with rfl | rfl | rfl <;> first | (simp at hn; done) | exact h2 ⟨_, (Int.one_mul _).symm⟩
      · have : n = 3 ∨ n = 5 ∨ n = 7 := by simp at hn; omega
        rcases this with rfl | rfl | rfl <;> simp at h3
      · exact hc h2
  · have hm := hj.lcm
    simp only [List.length_cons, List.length_nil] at hm
    rw [l3] at hm
    subst hm
    have h1 := hj.hi
    have c0 := hj.cong 0 (by simp)
    have c1 := hj.cong 1 (by simp)
    have c2 := hj.cong 2 (by simp)
    simp at c0 c1 c2
    refine ⟨?_, by simp, rfl, rfl⟩
    omega

end Go.Proofs.YtidndbdjhapfaaaGreatDoor
end

section
/- The contract of Combined; the law WholeDivides walked. -/
set_option linter.unusedSimpArgs false
set_option linter.unusedVariables false
set_option maxRecDepth 100000
namespace Go.Proofs.YtidndbdjhapfaaaGreatDoor
open Go.RowKit

theorem lt_pw2 {x : Int} (h1 : -9223372036854775808 ≤ x) (h2 : x ≤ 9223372036854775807) : x.natAbs < pw 2 := by rw [pw_two]; omega
theorem mul_lt_pw {x y : Int} {m n : Nat} (hx : x.natAbs < pw m) (hy : y.natAbs < pw n) : (x * y).natAbs < pw (m + n) := by
  rw [Int.natAbs_mul, pw_add]; exact Nat.mul_lt_mul'' hx hy
theorem add_lt_pw {x y : Int} {m : Nat} (hx : x.natAbs < pw m) (hy : y.natAbs < pw m) : (x + y).natAbs < pw (m + 1) := by
  have : pw (m + 1) = 4294967296 * pw m := rfl
  omega

theorem Below.alloc_self (w : World) (o : Obj) : Below w.heap.size w (w.alloc o) := Below.alloc (Below.refl _ _) (Nat.le_refl _) _

theorem newB {W w' : World} {C : Array Value} {t : TypeId} (k : Below (W.alloc (.cells C t)).heap.size (W.alloc (.cells C t)) w') {i : Nat} {v : Value} (h : C[i]? = some v) : w'.cell? ⟨W.heap.size, i, none⟩ = some v :=
  cell_later k (by rw [World.cell?_alloc_at _ _ _ _ rfl]; exact h)
theorem keepB {W w' : World} {o : Obj} {a : Addr} {v : Value} (k : Below (W.alloc o).heap.size (W.alloc o) w') (h : W.cell? a = some v) : w'.cell? a = some v :=
  cell_later k (by rw [World.cell?_alloc_lt _ _ _ (World.block_lt_of_cell? _ _ h)]; exact h)

end Go.Proofs.YtidndbdjhapfaaaGreatDoor
end

section
/- Contracts of the reference: Product, Power, Above. -/
set_option linter.unusedSimpArgs false
set_option linter.unusedVariables false
set_option maxRecDepth 100000
namespace Go.Proofs.YtidndbdjhapfaaaGreatDoor
open Go.RowKit
theorem pow_cast (a : Int) (n m : Nat) (h0 : 0 < m) : (a % (m : Int)) ^ n % (m : Int) = (((a % (m : Int)).toNat ^ n % m : Nat) : Int) := by
  have h1 := Int.emod_nonneg a (show (m : Int) ≠ 0 by omega)
  obtain ⟨A, hA⟩ := Int.eq_ofNat_of_zero_le h1
  rw [hA]
  simp

end Go.Proofs.YtidndbdjhapfaaaGreatDoor
end
