import Derived.Test.YtidndbdjhapfaaaDoorJoinB
import Derived.Test.YtidndbdjhapfaaaDoorBigG
import Derived.Laws.StructEq
import Derived.Test.YtidndbdjhapfaaaDoorBigP
import Derived.Test.YtidndbdjhapfaaaDoorJoinA
section
/- The document's examples of layer 1 (wholeBegun). -/
set_option linter.unusedSimpArgs false
set_option linter.unusedVariables false
set_option maxRecDepth 100000
namespace Go.Proofs.YtidndbdjhapfaaaDoor
open Go.RowKit

theorem begun_bez {u v : Int} (h : Bez 12 (-18) u v) : u = 2 ∧ v = 1 := by
  have h1 := h.lin
  have h2 := h.low (by omega)
  have h3 := h.high (by omega)
  have e : Int.gcd 12 (-18) = 6 := by decide
  rw [e] at h1 h3
  have e2 : (Int.natAbs (-18) / 6 : Nat) = 3 := by decide
  rw [e2] at h3
  omega

theorem three_cells (a b c : Int) (W : World) (B : Nat) (hB : B < W.heap.size) (h0 : W.cell? ⟨B, 0, none⟩ = some (.int .i64 a)) (h1 : W.cell? ⟨B, 1, none⟩ = some (.int .i64 b)) (h2 : W.cell? ⟨B, 2, none⟩ = some (.int .i64 c)) :
    IS W (.slice (some ⟨B, 0, none⟩) 3 3) [a, b, c] := by
  refine ⟨⟨_, B, 0, 3, rfl, fun _ => rfl, fun i hi => ?_, fun _ => hB⟩⟩
  match i, hi with
  | 0, _ => exact h0
  | 1, _ => exact h1
  | 2, _ => exact h2

theorem begun_join {R M c at' : Int} (h : JOut [2, 3, 2] [3, 5, 7] R M c at') : R = 23 ∧ M = 105 ∧ c = 0 ∧ at' = 0 := by
  have l0 : MathC.jl [3, 5, 7] 0 = 1 := rfl
  have l1 : MathC.jl [3, 5, 7] 1 = 3 := by decide
  have l2 : MathC.jl [3, 5, 7] 2 = 15 := by decide
  have l3 : MathC.jl [3, 5, 7] 3 = 105 := by decide
  rcases h.cases with h1 | h1 | ⟨_, _, k, r, m, R', M', hk, hj, rfl, rfl, rfl, hc, ho⟩ | ⟨_, _, r, m, hj, rfl, rfl, rfl, rfl⟩
  · simp at h1
  · simp at h1
  · exfalso
    have hm := hj.lcm
    have hk3 : k = 0 ∨ k = 1 ∨ k = 2 := by simp at hk; omega
    rcases hk3 with rfl | rfl | rfl
    all_goals
      first | rw [l0] at hm | rw [l1] at hm | rw [l2] at hm
      subst hm
      rcases ho.cases with ⟨_, _, _, h2⟩ | ⟨_, n, hn, n1, n2, ⟨_, _, _, h2⟩ | ⟨_, _, _, h2, h3⟩ | ⟨h2, _⟩⟩
      · simp [numB] at h2
      · have : n = 3 ∨ n = 5 ∨ n = 7 := by simp at hn; omega
        rcases this with rfl | rfl | rfl <;> first | (simp at hn; done) | exact h2 ⟨_, (Int.one_mul _).symm⟩
      · have : n = 3 ∨ n = 5 ∨ n = 7 := by simp at hn; omega
        rcases this with rfl | rfl | rfl <;> simp at h3
      · exact hc h2
  · have hm := hj.lcm
    simp only [List.length_cons, List.length_nil] at hm
    rw [l3] at hm
    subst hm
    have h1 := hj.hi
    have c0 := hj.cong 0 (by simp)
    have c1 := hj.cong 1 (by simp)
    have c2 := hj.cong 2 (by simp)
    simp at c0 c1 c2
    refine ⟨?_, by simp, rfl, rfl⟩
    omega

end Go.Proofs.YtidndbdjhapfaaaDoor
end

section
/- The contract of Combined; the law WholeDivides walked. -/
set_option linter.unusedSimpArgs false
set_option linter.unusedVariables false
set_option maxRecDepth 100000
namespace Go.Proofs.YtidndbdjhapfaaaDoor
open Go.RowKit

theorem lt_pw2 {x : Int} (h1 : -9223372036854775808 ≤ x) (h2 : x ≤ 9223372036854775807) : x.natAbs < pw 2 := by rw [pw_two]; omega
theorem mul_lt_pw {x y : Int} {m n : Nat} (hx : x.natAbs < pw m) (hy : y.natAbs < pw n) : (x * y).natAbs < pw (m + n) := by
  rw [Int.natAbs_mul, pw_add]; exact Nat.mul_lt_mul'' hx hy
theorem add_lt_pw {x y : Int} {m : Nat} (hx : x.natAbs < pw m) (hy : y.natAbs < pw m) : (x + y).natAbs < pw (m + 1) := by
  have : pw (m + 1) = 4294967296 * pw m := rfl
  omega

theorem Below.alloc_self (w : World) (o : Obj) : Below w.heap.size w (w.alloc o) := Below.alloc (Below.refl _ _) (Nat.le_refl _) _

theorem newB {W w' : World} {C : Array Value} {t : TypeId} (k : Below (W.alloc (.cells C t)).heap.size (W.alloc (.cells C t)) w') {i : Nat} {v : Value} (h : C[i]? = some v) : w'.cell? ⟨W.heap.size, i, none⟩ = some v :=
  cell_later k (by rw [World.cell?_alloc_at _ _ _ _ rfl]; exact h)
theorem keepB {W w' : World} {o : Obj} {a : Addr} {v : Value} (k : Below (W.alloc o).heap.size (W.alloc o) w') (h : W.cell? a = some v) : w'.cell? a = some v :=
  cell_later k (by rw [World.cell?_alloc_lt _ _ _ (World.block_lt_of_cell? _ _ h)]; exact h)

end Go.Proofs.YtidndbdjhapfaaaDoor
end

section
/- Contracts of the reference: Product, Power, Above. -/
set_option linter.unusedSimpArgs false
set_option linter.unusedVariables false
set_option maxRecDepth 100000
namespace Go.Proofs.YtidndbdjhapfaaaDoor
open Go.RowKit

set_option maxHeartbeats 1000000 in
theorem refProduct_any (a b : Int) (m : Nat) (w : World) (ha : -9223372036854775808 ≤ a ∧ a ≤ 9223372036854775807) (hb : -9223372036854775808 ≤ b ∧ b ≤ 9223372036854775807) (h0 : 0 < m) (hm : m ≤ 9223372036854775807) :
    Calls Tryd.prog 11 #[.int .i64 a, .int .i64 b, .int .i64 m] w fun e w' => e = .returned (.int .i64 (a * b % (m : Int))) ∧ Below w.heap.size w w' := by
  go_enter Tryd.func11, Tryd.ntmps11
  go_wp2_with fail
  refine (B_any a _ ha.1 ha.2).mono ?_
  rintro e w1 ⟨b1, rfl, p1, i1, k1⟩
  have S1 : Hid (Slot w1 w.heap.size) := (slot_new w _ _).below k1 (Nat.le_refl _)
  have I1 : Hid (BigAt w1 b1 a) := i1
  have z1 := k1.size
  simp at z1
  have K1 : Hid (Below w.heap.size w w1) := (Below.alloc_self w _).trans (k1.mono (by simp))
  clear i1 k1 p1
  go_wp2_with fail
  refine (B_any b _ hb.1 hb.2).mono ?_
  rintro e w2 ⟨b2, rfl, p2, i2, k2⟩
  have z2 := k2.size
  have S2 : Hid (Slot w2 w.heap.size) := S1.out.below k2 (Nat.le_refl _)
  have I1' : Hid (BigAt w2 b1 a) := I1.out.below k2 (Nat.le_refl _)
  have I2 : Hid (BigAt w2 b2 b) := i2
  have K2 : Hid (Below w.heap.size w w2) := K1.out.trans (k2.mono (by omega))
  clear i2 k2 p2 S1 I1 K1
  go_wp2_with fail
  refine (Mul_any w.heap.size b1 b2 a b 2 2 w2 S2.out I1'.out I2.out (lt_pw2 ha.1 ha.2) (lt_pw2 hb.1 hb.2) (by omega) (by omega)).mono ?_
  rintro e w3 ⟨rfl, i3, u3⟩
  have z3 := u3.size
  have I3 : Hid (BigAt w3 w.heap.size (a * b)) := i3
  have K3 : Hid (Below w.heap.size w w3) := K2.out.trans (u3.below (by omega) (Nat.le_refl _))
  clear i3 u3 S2 I1' I2 K2
  go_wp2_with fail
  refine (B_any (m : Int) _ (by omega) (by omega)).mono ?_
  rintro e w4 ⟨b4, rfl, p4, i4, k4⟩
  have z4 := k4.size
  have I4 : Hid (BigAt w4 b4 (m : Int)) := i4
  have I3' : Hid (BigAt w4 w.heap.size (a * b)) := I3.out.below k4 (Nat.le_refl _)
  have K4 : Hid (Below w.heap.size w w4) := K3.out.trans (k4.mono (by omega))
  clear i4 k4 p4 I3 K3
  go_wp2_with fail
  refine (Mod_any w.heap.size w.heap.size b4 (a * b) (m : Int) 4 2 w4 I3'.out.slot I3'.out I4.out (by omega) (mul_lt_pw (lt_pw2 ha.1 ha.2) (lt_pw2 hb.1 hb.2)) (lt_pw2 (by omega) (by omega)) (by omega) (by omega)).mono ?_
  have r0 := Int.emod_nonneg (a * b) (show (m : Int) ≠ 0 by omega)
  have r1 := Int.emod_lt_of_pos (a * b) (show 0 < (m : Int) by omega)
  obtain ⟨R, gR⟩ : ∃ R, R = a * b % (m : Int) := ⟨_, rfl⟩
  rw [← gR] at r0 r1 ⊢
  have HR : Hid (a * b % (m : Int) = R) := gR.symm
  rintro e w5 ⟨rfl, i5, u5⟩
  have z5 := u5.size
  have I5 : Hid (BigAt w5 w.heap.size R) := i5
  have K5 : Hid (Below w.heap.size w w5) := K4.out.trans (u5.below (by omega) (Nat.le_refl _))
  clear i5 u5 I3' I4 K4 gR
  go_wp2_with fail
  refine (Int64_any w.heap.size R w5 I5.out (by omega)).mono ?_
  rintro e w6 ⟨rfl, q, rfl⟩
  go_wp2
  go_ret
  exact ⟨ret_int HR.out.symm, below_drewN' K5.out⟩

theorem pow_cast (a : Int) (n m : Nat) (h0 : 0 < m) : (a % (m : Int)) ^ n % (m : Int) = (((a % (m : Int)).toNat ^ n % m : Nat) : Int) := by
  have h1 := Int.emod_nonneg a (show (m : Int) ≠ 0 by omega)
  obtain ⟨A, hA⟩ := Int.eq_ofNat_of_zero_le h1
  rw [hA]
  simp

set_option maxHeartbeats 1000000 in
theorem refPower_any (a : Int) (n m : Nat) (w : World) (ha : -9223372036854775808 ≤ a ∧ a ≤ 9223372036854775807) (h0 : 0 < m) (hm : m ≤ 9223372036854775807) (hn : n ≤ 9223372036854775807) :
    Calls Tryd.prog 13 #[.int .i64 a, .int .i64 n, .int .i64 m] w fun e w' => e = .returned (.int .i64 (((a % (m : Int)).toNat ^ n % m : Nat) : Int)) ∧ Below w.heap.size w w' := by
  go_enter Tryd.func13, Tryd.ntmps13
  go_wp2_with fail
  refine (B_any a _ ha.1 ha.2).mono ?_
  rintro e w1 ⟨b1, rfl, p1, i1, k1⟩
  have s1 : Slot (w.alloc (.cells #[.bool false, .slice none 0 0] 46)) w.heap.size := slot_new w _ _
  have s2 : Slot ((w.alloc (.cells #[.bool false, .slice none 0 0] 46)).alloc (.cells #[.bool false, .slice none 0 0] 46)) (w.heap.size + 1) := by
    have h := slot_new (w.alloc (.cells #[.bool false, .slice none 0 0] 46)) (.bool false) (.slice none 0 0)
    simpa using h
  have S1 : Hid (Slot w1 w.heap.size) := (s1.below (Below.alloc_self _ _) (Nat.le_refl _)).below k1 (Nat.le_refl _)
  have S2 : Hid (Slot w1 (w.heap.size + 1)) := s2.below k1 (Nat.le_refl _)
  have I1 : Hid (BigAt w1 b1 a) := i1
  have z1 := k1.size
  simp at z1
  have K1 : Hid (Below w.heap.size w w1) := ((Below.alloc_self w _).trans ((Below.alloc_self _ _).mono (by simp))).trans (k1.mono (by simp; omega))
  clear i1 k1 p1 s1 s2
  go_wp2_with fail
  refine (B_any (m : Int) _ (by omega) (by omega)).mono ?_
  rintro e w2 ⟨b2, rfl, p2, i2, k2⟩
  have z2 := k2.size
  have S1' : Hid (Slot w2 w.heap.size) := S1.out.below k2 (Nat.le_refl _)
  have S2' : Hid (Slot w2 (w.heap.size + 1)) := S2.out.below k2 (Nat.le_refl _)
  have I1' : Hid (BigAt w2 b1 a) := I1.out.below k2 (Nat.le_refl _)
  have I2 : Hid (BigAt w2 b2 (m : Int)) := i2
  have K2 : Hid (Below w.heap.size w w2) := K1.out.trans (k2.mono (by omega))
  clear i2 k2 p2 S1 S2 I1 K1
  go_wp2_with fail
  refine (Mod_any (w.heap.size + 1) b1 b2 a (m : Int) 2 2 w2 S2'.out I1'.out I2.out (by omega) (lt_pw2 ha.1 ha.2) (lt_pw2 (by omega) (by omega)) (by omega) (by omega)).mono ?_
  have hpc := pow_cast a n m h0
  have hrl : (a % (m : Int)).toNat ^ n % m < m := Nat.mod_lt _ h0
  have r0 := Int.emod_nonneg a (show (m : Int) ≠ 0 by omega)
  have r1 := Int.emod_lt_of_pos a (show 0 < (m : Int) by omega)
  obtain ⟨R, gR⟩ : ∃ R, R = (a % (m : Int)).toNat ^ n % m := ⟨_, rfl⟩
  rw [← gR] at hpc hrl
  obtain ⟨A, gA⟩ : ∃ A, A = a % (m : Int) := ⟨_, rfl⟩
  rw [← gA] at hpc r0 r1 ⊢
  have HR : Hid (A ^ n % (m : Int) = (R : Int)) := hpc
  have HRR : Hid ((a % (m : Int)).toNat ^ n % m = R) := gR.symm
  rintro e w3 ⟨rfl, i3, u3⟩
  have z3 := u3.size
  have I3 : Hid (BigAt w3 (w.heap.size + 1) A) := i3
  have S3 : Hid (Slot w3 w.heap.size) := S1'.out.upd u3 (by omega)
  have K3 : Hid (Below w.heap.size w w3) := K2.out.trans (u3.below (by omega) (by omega))
  clear i3 u3 S1' S2' I1' I2 K2 hpc gR gA
  go_wp2_with fail
  refine (B_any (n : Int) _ (by omega) (by omega)).mono ?_
  rintro e w4 ⟨b4, rfl, p4, i4, k4⟩
  have z4 := k4.size
  have I4 : Hid (BigAt w4 b4 (n : Int)) := i4
  have I3' : Hid (BigAt w4 (w.heap.size + 1) A) := I3.out.below k4 (Nat.le_refl _)
  have S4 : Hid (Slot w4 w.heap.size) := S3.out.below k4 (Nat.le_refl _)
  have K4 : Hid (Below w.heap.size w w4) := K3.out.trans (k4.mono (by omega))
  clear i4 k4 p4 I3 K3 S3
  go_wp2_with fail
  refine (B_any (m : Int) _ (by omega) (by omega)).mono ?_
  rintro e w5 ⟨b5, rfl, p5, i5, k5⟩
  have z5 := k5.size
  have I5 : Hid (BigAt w5 b5 (m : Int)) := i5
  have I4' : Hid (BigAt w5 b4 (n : Int)) := I4.out.below k5 (Nat.le_refl _)
  have I3 : Hid (BigAt w5 (w.heap.size + 1) A) := I3'.out.below k5 (Nat.le_refl _)
  have S5 : Hid (Slot w5 w.heap.size) := S4.out.below k5 (Nat.le_refl _)
  have K5 : Hid (Below w.heap.size w w5) := K4.out.trans (k5.mono (by omega))
  clear i5 k5 p5 I3' I4 K4 S4
  go_wp2_with fail
  refine (Exp_mod w.heap.size (w.heap.size + 1) b4 b5 A n m 2 2 2 w5 S5.out I3.out I4'.out I5.out h0 (lt_pw2 (by omega) (by omega)) (by rw [pw_two]; omega) (by rw [pw_two]; omega) (by omega) (by omega) (by omega)).mono ?_
  rw [HR.out]
  rintro e w6 ⟨rfl, i6, u6⟩
  have z6 := u6.size
  have I6 : Hid (BigAt w6 w.heap.size (R : Int)) := i6
  have K6 : Hid (Below w.heap.size w w6) := K5.out.trans (u6.below (by omega) (Nat.le_refl _))
  clear i6 u6 I3 I4' I5 S5 K5
  go_wp2_with fail
  refine (Int64_any w.heap.size (R : Int) w6 I6.out (by omega)).mono ?_
  rintro e w7 ⟨rfl, q, rfl⟩
  have er : (R : Int) % (m : Int) = (R : Int) := Int.emod_eq_of_lt (by omega) (by omega)
  have er2 : (R : Int).tmod (m : Int) = (R : Int) := (Int.tmod_eq_emod_of_nonneg (by omega)).trans er
  have tt : ((m : Int) == 0) = false := beq_eq_false_iff_ne.2 (by omega)
  go_wp2
  go_ret
  rw [HRR.out]
  exact ⟨rfl, below_drewN' K6.out⟩

end Go.Proofs.YtidndbdjhapfaaaDoor
end

section
/- The reference's Left. -/
set_option linter.unusedSimpArgs false
set_option linter.unusedVariables false
set_option maxRecDepth 100000
namespace Go.Proofs.YtidndbdjhapfaaaDoor
open Go.RowKit

theorem refLeft_any (a : Int) (m : Nat) (w : World) (ha : a.natAbs ≤ 4000000000000000000) (h0 : 0 < m) (hm : (m : Int) ≤ 1000000000000000000) :
    Calls Tryd.prog 12 #[.int .i64 a, .int .i64 m] w fun e w' => e = .returned (.int .i64 (a % (m : Int))) ∧ w' = w := by
  have hb : (a.tmod (m : Int)).natAbs < m := by rw [Int.natAbs_tmod]; exact Nat.mod_lt _ h0
  have t1 : ((m : Int) == 0) = false := beq_eq_false_iff_ne.2 (by omega)
  by_cases h : 0 ≤ a
  · have e : a.tmod (m : Int) = a % (m : Int) := Int.tmod_eq_emod_of_nonneg h
    have h1 : 0 ≤ a % (m : Int) := Int.emod_nonneg _ (by omega)
    have h2 : a % (m : Int) < (m : Int) := Int.emod_lt_of_pos _ (by omega)
    clear hb e
    go_enter Tryd.func12, Tryd.ntmps12
    go_wp2
    go_ret
    exact ⟨rfl, rfl⟩
  · by_cases hz : a.tmod (m : Int) < 0
    · have HE : Hid (a.tmod (m : Int) + (m : Int) = a % (m : Int)) := by
        show _ = _
        have e1 := Int.tmod_eq_emod (a := a) (b := (m : Int))
        rw [e1] at hz ⊢
        split at hz
        · have := Int.emod_nonneg a (show (m : Int) ≠ 0 by omega); omega
        · rename_i hc; rw [if_neg hc]; simp
      go_enter Tryd.func12, Tryd.ntmps12
      go_wp2
      go_ret
      exact ⟨ret_int HE.out, rfl⟩
    · have HE : Hid (a.tmod (m : Int) = a % (m : Int)) := by
        show _ = _
        have e1 := Int.tmod_eq_emod (a := a) (b := (m : Int))
        rw [e1] at hz ⊢
        split at hz
        · rename_i hc; rw [if_pos hc]; omega
        · have := Int.emod_lt_of_pos a (show 0 < (m : Int) by omega); simp at hz; omega
      go_enter Tryd.func12, Tryd.ntmps12
      go_wp2
      go_ret
      exact ⟨ret_int HE.out, rfl⟩

end Go.Proofs.YtidndbdjhapfaaaDoor
end
