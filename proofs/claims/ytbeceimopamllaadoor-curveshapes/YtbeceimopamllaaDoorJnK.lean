import Derived.Test.YtbeceimopamllaaDoorJnF
import Derived.Test.YtbeceimopamllaaDoorJnJ
import Derived.Test.YtbeceimopamllaaDoorBigG
import Derived.Test.YtbeceimopamllaaDoorJnC
import Derived.Laws.StructEq
section
/- The reference's IsPrime of numbers up to 1000000. -/
set_option linter.unusedSimpArgs false
set_option linter.unusedVariables false
set_option maxRecDepth 100000
namespace Go.Proofs.YtbeceimopamllaaDoor
open Go.RowKit

theorem pr_trial {n d : Nat} (hn : 2 ≤ n) (h : ∀ e, 2 ≤ e → e < d → n % e ≠ 0) (hd : n < d * d) : Pr n := by
  refine ⟨hn, fun c hc => ?_⟩
  obtain ⟨m, rfl⟩ := hc
  by_cases h1 : c = 1
  · exact .inl h1
  · right
    have c0 : c ≠ 0 := by rintro rfl; simp at hn
    have m0 : m ≠ 0 := by rintro rfl; simp at hn
    by_cases hm : m = 1
    · rw [hm, Nat.mul_one]
    · exfalso
      rcases Nat.lt_or_ge c d with h2 | h2
      · exact h c (by omega) h2 (Nat.mul_mod_right ..)
      · rcases Nat.lt_or_ge m d with h3 | h3
        · exact h m (by omega) h3 (Nat.mul_mod_left ..)
        · have := Nat.mul_le_mul h2 h3; omega

set_option maxHeartbeats 400000 in
theorem refIsPrime_small (n : Nat) (b : Bool) (w : World) (hn : 2 ≤ n) (hn2 : n ≤ 1000000) (hb : b = true ↔ Pr n) :
    Calls Tryd.prog 27 #[.int .i64 n] w fun e w' => e = .returned (.bool b) ∧ w' = w := by
  have HB : Hid (b = true ↔ Pr n) := hb
  have h1 : decide ((n : Int) < 2) = false := decide_eq_false (by omega)
  have h2 : decide (100000000 < (n : Int)) = false := decide_eq_false (by omega)
  clear hb
  go_enter Tryd.func27, Tryd.ntmps27
  go_wp2
  go_loop [3] (fun dv => ∃ d : Nat, 2 ≤ d ∧ d ≤ 1001 ∧ dv = .int .i64 d ∧ Hid (∀ e, 2 ≤ e → e < d → n % e ≠ 0)) (fun dv => 2000 - (intOf dv).toNat)
  case atStart => exact ⟨2, by omega, by omega, rfl, fun e h1 h2 => by omega⟩
  case round =>
    obtain ⟨d, hd1, hd2, rfl, HR⟩ := hrel
    obtain ⟨q, gq⟩ : ∃ q, q = d * d := ⟨_, rfl⟩
    have hqi : (d : Int) * (d : Int) = (q : Int) := by rw [gq]; simp
    have hql : q ≤ 1002001 := by
      rw [gq]; have := Nat.mul_le_mul hd2 hd2; omega
    by_cases hq : q ≤ n
    · have hqb : decide ((q : Int) ≤ (n : Int)) = true := decide_eq_true (by omega)
      have hd0 : ((d : Int) == 0) = false := beq_eq_false_iff_ne.2 (by omega)
      have hd1000 : d ≤ 1000 := by
        rcases Nat.lt_or_ge 1000 d with h | h
        · have := Nat.mul_le_mul (show 1001 ≤ d by omega) (show 1001 ≤ d by omega); omega
        · exact h
      obtain ⟨r, gr⟩ : ∃ r, r = n % d := ⟨_, rfl⟩
      have hri : (n : Int) % (d : Int) = (r : Int) := by rw [gr]; simp
      by_cases hr : r = 0
      · have hrb : ((r : Int) == 0) = true := by rw [hr]; rfl
        have hbf : b = false := by
          cases b
          · rfl
          · exfalso
            have hp := HB.out.1 rfl
            rcases hp.2 d (Nat.dvd_of_mod_eq_zero (by omega)) with h | h
            · omega
            · have : d * 2 ≤ d * d := Nat.mul_le_mul_left d hd1
              omega
        have HBF : Hid (b = false) := hbf
        clear hr gq gr hbf
        go_wp2
        go_ret
        rw [HBF.out]
        exact ⟨rfl, rfl⟩
      · have hrb : ((r : Int) == 0) = false := beq_eq_false_iff_ne.2 (by omega)
        have HN : Hid (∀ e, 2 ≤ e → e < d + 1 → n % e ≠ 0) := by
          intro e he1 he2
          by_cases h : e = d
          · subst h; omega
          · exact HR.out e he1 (by omega)
        clear hr gq gr
        go_wp2
        go_round
        case rel => exact ⟨d + 1, by omega, by omega, by go_num, HN.out⟩
        case measure => simp [intOf]; omega
    · have hqb : decide ((q : Int) ≤ (n : Int)) = false := decide_eq_false (by omega)
      have HBT : Hid (b = true) := HB.out.2 (pr_trial hn HR.out (by omega))
      clear gq
      go_wp2
      go_ret
      rw [HBT.out]
      exact ⟨rfl, rfl⟩

end Go.Proofs.YtbeceimopamllaaDoor
end

section
/- The reference's Left. -/
set_option linter.unusedSimpArgs false
set_option linter.unusedVariables false
set_option maxRecDepth 100000
namespace Go.Proofs.YtbeceimopamllaaDoor
open Go.RowKit

theorem refLeft_any (a : Int) (m : Nat) (w : World) (ha : a.natAbs ≤ 4000000000000000000) (h0 : 0 < m) (hm : (m : Int) ≤ 1000000000000000000) :
    Calls Tryd.prog 22 #[.int .i64 a, .int .i64 m] w fun e w' => e = .returned (.int .i64 (a % (m : Int))) ∧ w' = w := by
  have hb : (a.tmod (m : Int)).natAbs < m := by rw [Int.natAbs_tmod]; exact Nat.mod_lt _ h0
  have t1 : ((m : Int) == 0) = false := beq_eq_false_iff_ne.2 (by omega)
  by_cases h : 0 ≤ a
  · have e : a.tmod (m : Int) = a % (m : Int) := Int.tmod_eq_emod_of_nonneg h
    have h1 : 0 ≤ a % (m : Int) := Int.emod_nonneg _ (by omega)
    have h2 : a % (m : Int) < (m : Int) := Int.emod_lt_of_pos _ (by omega)
    clear hb e
    go_enter Tryd.func22, Tryd.ntmps22
    go_wp2
    go_ret
    exact ⟨rfl, rfl⟩
  · by_cases hz : a.tmod (m : Int) < 0
    · have HE : Hid (a.tmod (m : Int) + (m : Int) = a % (m : Int)) := by
        show _ = _
        have e1 := Int.tmod_eq_emod (a := a) (b := (m : Int))
        rw [e1] at hz ⊢
        split at hz
        · have := Int.emod_nonneg a (show (m : Int) ≠ 0 by omega); omega
        · rename_i hc; rw [if_neg hc]; simp
      go_enter Tryd.func22, Tryd.ntmps22
      go_wp2
      go_ret
      exact ⟨ret_int HE.out, rfl⟩
    · have HE : Hid (a.tmod (m : Int) = a % (m : Int)) := by
        show _ = _
        have e1 := Int.tmod_eq_emod (a := a) (b := (m : Int))
        rw [e1] at hz ⊢
        split at hz
        · rename_i hc; rw [if_pos hc]; omega
        · have := Int.emod_lt_of_pos a (show 0 < (m : Int) by omega); simp at hz; omega
      go_enter Tryd.func22, Tryd.ntmps22
      go_wp2
      go_ret
      exact ⟨ret_int HE.out, rfl⟩

end Go.Proofs.YtbeceimopamllaaDoor
end

section
/- The contract of Join, and the document's examples. -/
set_option linter.unusedSimpArgs false
set_option linter.unusedVariables false
set_option maxRecDepth 100000
namespace Go.Proofs.YtbeceimopamllaaDoor
open Go.RowKit

/-- What one place comes to, as three numbers. -/
structure JOne (r m : Nat) (a b : Int) (R M c : Int) : Prop where
  cases : (c = 3 ∧ R = 0 ∧ M = 0 ∧ (numB a = false ∨ b < 1 ∨ 1000000000000000000 < b)) ∨
    (numB a = true ∧ ∃ n : Nat, b = (n : Int) ∧ 1 ≤ n ∧ (n : Int) ≤ 1000000000000000000 ∧
      ((c = 5 ∧ R = 0 ∧ M = 0 ∧ ¬ (Nat.gcd m n : Int) ∣ a - (r : Int)) ∨
       (c = 9 ∧ R = 0 ∧ M = 0 ∧ (Nat.gcd m n : Int) ∣ a - (r : Int) ∧ 1000000000000000000 < m * (n / Nat.gcd m n)) ∨
       (c = 0 ∧ ∃ R' : Nat, R = R' ∧ M = ((m * (n / Nat.gcd m n) : Nat) : Int) ∧ m * (n / Nat.gcd m n) ≤ 1000000000000000000 ∧ R' < m * (n / Nat.gcd m n) ∧ (m : Int) ∣ (R' : Int) - (r : Int) ∧ (n : Int) ∣ (R' : Int) - a ∧ (Nat.gcd m n : Int) ∣ a - (r : Int))))

theorem crt_unique {m n R R' : Nat} {r a : Int} (h1 : R < Nat.lcm m n) (h2 : R' < Nat.lcm m n) (d1 : (m : Int) ∣ (R : Int) - r) (d2 : (n : Int) ∣ (R : Int) - a) (e1 : (m : Int) ∣ (R' : Int) - r) (e2 : (n : Int) ∣ (R' : Int) - a) : R = R' := by
  have f1 : (m : Int) ∣ (R : Int) - (R' : Int) := by
    have : (R : Int) - (R' : Int) = ((R : Int) - r) - ((R' : Int) - r) := by omega
    rw [this]; exact Int.dvd_sub d1 e1
  have f2 : (n : Int) ∣ (R : Int) - (R' : Int) := by
    have : (R : Int) - (R' : Int) = ((R : Int) - a) - ((R' : Int) - a) := by omega
    rw [this]; exact Int.dvd_sub d2 e2
  rw [Int.ofNat_dvd_left] at f1 f2
  have f3 := Nat.lcm_dvd f1 f2
  have f4 := Nat.eq_zero_of_dvd_of_lt f3 (by omega)
  omega

/-- The slice s holds the numbers xs. -/
structure IS (w : World) (s : Value) (xs : List Int) : Prop where
  shape : ∃ (aa : Option Addr) (g o cap : Nat), s = .slice aa xs.length cap ∧ (0 < xs.length → aa = some ⟨g, o, none⟩) ∧ (∀ i, i < xs.length → w.cell? ⟨g, o + i, none⟩ = some (.int .i64 (xs.getD i 0))) ∧ (0 < xs.length → g < w.heap.size)

/-- What Join comes to. -/
structure JOut (rs ms : List Int) (R M c at' : Int) : Prop where
  cases : ((1000 < rs.length ∨ 1000 < ms.length) ∧ R = 0 ∧ M = 0 ∧ c = 2 ∧ at' = 0) ∨
    (rs.length ≤ 1000 ∧ ms.length ≤ 1000 ∧ rs.length ≠ ms.length ∧ R = 0 ∧ M = 0 ∧ c = 8 ∧ at' = 0) ∨
    (rs.length ≤ 1000 ∧ rs.length = ms.length ∧ ∃ (k r m : Nat) (R' M' : Int), k < rs.length ∧ MathC.JSt rs ms k r m ∧ at' = k ∧ R = 0 ∧ M = 0 ∧ c ≠ 0 ∧ JOne r m (rs.getD k 0) (ms.getD k 0) R' M' c) ∨
    (rs.length ≤ 1000 ∧ rs.length = ms.length ∧ ∃ r m : Nat, MathC.JSt rs ms rs.length r m ∧ R = r ∧ M = m ∧ c = 0 ∧ at' = 0)

theorem jst_of_one {rs ms : List Int} {k r m : Nat} {R M c : Int} (h : MathC.JSt rs ms k r m) (h1 : JOne r m (rs.getD k 0) (ms.getD k 0) R M c) (hc : c = 0) :
    ∃ r' m' : Nat, R = r' ∧ M = m' ∧ MathC.JSt rs ms (k + 1) r' m' := by
  subst hc
  rcases h1.cases with h2 | ⟨ha, n, hn, n1, n2, h2 | h2 | ⟨_, R', rfl, rfl, p1, p2, p3, p4, p5⟩⟩
  · omega
  · omega
  · omega
  · obtain ⟨a1, a2⟩ := numB_true ha
    exact ⟨R', m * (n / Nat.gcd m n), rfl, rfl, MathC.jst_next h n hn n1 n2 a1 a2 (by omega) p2 p3 p4⟩

end Go.Proofs.YtbeceimopamllaaDoor
end

section
/- The document's examples of layer 1 (wholeBegun). -/
set_option linter.unusedSimpArgs false
set_option linter.unusedVariables false
set_option maxRecDepth 100000
namespace Go.Proofs.YtbeceimopamllaaDoor
open Go.RowKit

theorem begun_bez {u v : Int} (h : Bez 12 (-18) u v) : u = 2 ∧ v = 1 := by
  have h1 := h.lin
  have h2 := h.low (by omega)
  have h3 := h.high (by omega)
  have e : Int.gcd 12 (-18) = 6 := by decide
  rw [e] at h1 h3
  have e2 : (Int.natAbs (-18) / 6 : Nat) = 3 := by decide
  rw [e2] at h3
  omega

theorem three_cells (a b c : Int) (W : World) (B : Nat) (hB : B < W.heap.size) (h0 : W.cell? ⟨B, 0, none⟩ = some (.int .i64 a)) (h1 : W.cell? ⟨B, 1, none⟩ = some (.int .i64 b)) (h2 : W.cell? ⟨B, 2, none⟩ = some (.int .i64 c)) :
    IS W (.slice (some ⟨B, 0, none⟩) 3 3) [a, b, c] := by
  refine ⟨⟨_, B, 0, 3, rfl, fun _ => rfl, fun i hi => ?_, fun _ => hB⟩⟩
  match i, hi with
  | 0, _ => exact h0
  | 1, _ => exact h1
  | 2, _ => exact h2

theorem begun_join {R M c at' : Int} (h : JOut [2, 3, 2] [3, 5, 7] R M c at') : R = 23 ∧ M = 105 ∧ c = 0 ∧ at' = 0 := by
  have l0 : MathC.jl [3, 5, 7] 0 = 1 := rfl
  have l1 : MathC.jl [3, 5, 7] 1 = 3 := by decide
  have l2 : MathC.jl [3, 5, 7] 2 = 15 := by decide
  have l3 : MathC.jl [3, 5, 7] 3 = 105 := by decide
  rcases h.cases with h1 | h1 | ⟨_, _, k, r, m, R', M', hk, hj, rfl, rfl, rfl, hc, ho⟩ | ⟨_, _, r, m, hj, rfl, rfl, rfl, rfl⟩
  · simp at h1
  · simp at h1
  · exfalso
    have hm := hj.lcm
    have hk3 : k = 0 ∨ k = 1 ∨ k = 2 := by simp at hk; omega
    rcases hk3 with rfl | rfl | rfl
    all_goals
      first | rw [l0] at hm | rw [l1] at hm | rw [l2] at hm
      subst hm
      rcases ho.cases with ⟨_, _, _, h2⟩ | ⟨_, n, hn, n1, n2, ⟨_, _, _, h2⟩ | ⟨_, _, _, h2, h3⟩ | ⟨h2, _⟩⟩
      · simp [numB] at h2
      · have : n = 3 ∨ n = 5 ∨ n = 7 := by simp at hn; omega
        rcases this with rfl | rfl | rfl <;> first | (simp at hn; done) | exact h2 ⟨_, (Int.one_mul _).symm⟩
      · have : n = 3 ∨ n = 5 ∨ n = 7 := by simp at hn; omega
        rcases this with rfl | rfl | rfl <;> simp at h3
      · exact hc h2
  · have hm := hj.lcm
    simp only [List.length_cons, List.length_nil] at hm
    rw [l3] at hm
    subst hm
    have h1 := hj.hi
    have c0 := hj.cong 0 (by simp)
    have c1 := hj.cong 1 (by simp)
    have c2 := hj.cong 2 (by simp)
    simp at c0 c1 c2
    refine ⟨?_, by simp, rfl, rfl⟩
    omega

end Go.Proofs.YtbeceimopamllaaDoor
end

section
/- The contract of Combined; the law WholeDivides walked. -/
set_option linter.unusedSimpArgs false
set_option linter.unusedVariables false
set_option maxRecDepth 100000
namespace Go.Proofs.YtbeceimopamllaaDoor
open Go.RowKit

theorem lt_pw2 {x : Int} (h1 : -9223372036854775808 ≤ x) (h2 : x ≤ 9223372036854775807) : x.natAbs < pw 2 := by rw [pw_two]; omega
theorem mul_lt_pw {x y : Int} {m n : Nat} (hx : x.natAbs < pw m) (hy : y.natAbs < pw n) : (x * y).natAbs < pw (m + n) := by
  rw [Int.natAbs_mul, pw_add]; exact Nat.mul_lt_mul'' hx hy
theorem add_lt_pw {x y : Int} {m : Nat} (hx : x.natAbs < pw m) (hy : y.natAbs < pw m) : (x + y).natAbs < pw (m + 1) := by
  have : pw (m + 1) = 4294967296 * pw m := rfl
  omega

theorem Below.alloc_self (w : World) (o : Obj) : Below w.heap.size w (w.alloc o) := Below.alloc (Below.refl _ _) (Nat.le_refl _) _

theorem newB {W w' : World} {C : Array Value} {t : TypeId} (k : Below (W.alloc (.cells C t)).heap.size (W.alloc (.cells C t)) w') {i : Nat} {v : Value} (h : C[i]? = some v) : w'.cell? ⟨W.heap.size, i, none⟩ = some v :=
  cell_later k (by rw [World.cell?_alloc_at _ _ _ _ rfl]; exact h)
theorem keepB {W w' : World} {o : Obj} {a : Addr} {v : Value} (k : Below (W.alloc o).heap.size (W.alloc o) w') (h : W.cell? a = some v) : w'.cell? a = some v :=
  cell_later k (by rw [World.cell?_alloc_lt _ _ _ (World.block_lt_of_cell? _ _ h)]; exact h)

end Go.Proofs.YtbeceimopamllaaDoor
end

section
/- Contracts of the reference: Product, Power, Above. -/
set_option linter.unusedSimpArgs false
set_option linter.unusedVariables false
set_option maxRecDepth 100000
namespace Go.Proofs.YtbeceimopamllaaDoor
open Go.RowKit
theorem pow_cast (a : Int) (n m : Nat) (h0 : 0 < m) : (a % (m : Int)) ^ n % (m : Int) = (((a % (m : Int)).toNat ^ n % m : Nat) : Int) := by
  have h1 := Int.emod_nonneg a (show (m : Int) ≠ 0 by omega)
  obtain ⟨A, hA⟩ := Int.eq_ofNat_of_zero_le h1
  rw [hA]
  simp

set_option maxHeartbeats 1000000 in
theorem refPower_any (a : Int) (n m : Nat) (w : World) (ha : -9223372036854775808 ≤ a ∧ a ≤ 9223372036854775807) (h0 : 0 < m) (hm : m ≤ 9223372036854775807) (hn : n ≤ 9223372036854775807) :
    Calls Tryd.prog 28 #[.int .i64 a, .int .i64 n, .int .i64 m] w fun e w' => e = .returned (.int .i64 (((a % (m : Int)).toNat ^ n % m : Nat) : Int)) ∧ Below w.heap.size w w' := by
  go_enter Tryd.func28, Tryd.ntmps28
  go_wp2_with fail
  refine (B_any a _ ha.1 ha.2).mono ?_
  rintro e w1 ⟨b1, rfl, p1, i1, k1⟩
  have s1 : Slot (w.alloc (.cells #[.bool false, .slice none 0 0] 70)) w.heap.size := slot_new w _ _
  have s2 : Slot ((w.alloc (.cells #[.bool false, .slice none 0 0] 70)).alloc (.cells #[.bool false, .slice none 0 0] 70)) (w.heap.size + 1) := by
    have h := slot_new (w.alloc (.cells #[.bool false, .slice none 0 0] 70)) (.bool false) (.slice none 0 0)
    simpa using h
  have S1 : Hid (Slot w1 w.heap.size) := (s1.below (Below.alloc_self _ _) (Nat.le_refl _)).below k1 (Nat.le_refl _)
  have S2 : Hid (Slot w1 (w.heap.size + 1)) := s2.below k1 (Nat.le_refl _)
  have I1 : Hid (BigAt w1 b1 a) := i1
  have z1 := k1.size
  simp at z1
  have K1 : Hid (Below w.heap.size w w1) := ((Below.alloc_self w _).trans ((Below.alloc_self _ _).mono (by simp))).trans (k1.mono (by simp; omega))
  clear i1 k1 p1 s1 s2
  go_wp2_with fail
  refine (B_any (m : Int) _ (by omega) (by omega)).mono ?_
  rintro e w2 ⟨b2, rfl, p2, i2, k2⟩
  have z2 := k2.size
  have S1' : Hid (Slot w2 w.heap.size) := S1.out.below k2 (Nat.le_refl _)
  have S2' : Hid (Slot w2 (w.heap.size + 1)) := S2.out.below k2 (Nat.le_refl _)
  have I1' : Hid (BigAt w2 b1 a) := I1.out.below k2 (Nat.le_refl _)
  have I2 : Hid (BigAt w2 b2 (m : Int)) := i2
  have K2 : Hid (Below w.heap.size w w2) := K1.out.trans (k2.mono (by omega))
  clear i2 k2 p2 S1 S2 I1 K1
  go_wp2_with fail
  refine (Mod_any (w.heap.size + 1) b1 b2 a (m : Int) 2 2 w2 S2'.out I1'.out I2.out (by omega) (lt_pw2 ha.1 ha.2) (lt_pw2 (by omega) (by omega)) (by omega) (by omega)).mono ?_
  have hpc := pow_cast a n m h0
  have hrl : (a % (m : Int)).toNat ^ n % m < m := Nat.mod_lt _ h0
  have r0 := Int.emod_nonneg a (show (m : Int) ≠ 0 by omega)
  have r1 := Int.emod_lt_of_pos a (show 0 < (m : Int) by omega)
  obtain ⟨R, gR⟩ : ∃ R, R = (a % (m : Int)).toNat ^ n % m := ⟨_, rfl⟩
  rw [← gR] at hpc hrl
  obtain ⟨A, gA⟩ : ∃ A, A = a % (m : Int) := ⟨_, rfl⟩
  rw [← gA] at hpc r0 r1 ⊢
  have HR : Hid (A ^ n % (m : Int) = (R : Int)) := hpc
  have HRR : Hid ((a % (m : Int)).toNat ^ n % m = R) := gR.symm
  rintro e w3 ⟨rfl, i3, u3⟩
  have z3 := u3.size
  have I3 : Hid (BigAt w3 (w.heap.size + 1) A) := i3
  have S3 : Hid (Slot w3 w.heap.size) := S1'.out.upd u3 (by omega)
  have K3 : Hid (Below w.heap.size w w3) := K2.out.trans (u3.below (by omega) (by omega))
  clear i3 u3 S1' S2' I1' I2 K2 hpc gR gA
  go_wp2_with fail
  refine (B_any (n : Int) _ (by omega) (by omega)).mono ?_
  rintro e w4 ⟨b4, rfl, p4, i4, k4⟩
  have z4 := k4.size
  have I4 : Hid (BigAt w4 b4 (n : Int)) := i4
  have I3' : Hid (BigAt w4 (w.heap.size + 1) A) := I3.out.below k4 (Nat.le_refl _)
  have S4 : Hid (Slot w4 w.heap.size) := S3.out.below k4 (Nat.le_refl _)
  have K4 : Hid (Below w.heap.size w w4) := K3.out.trans (k4.mono (by omega))
  clear i4 k4 p4 I3 K3 S3
  go_wp2_with fail
  refine (B_any (m : Int) _ (by omega) (by omega)).mono ?_
  rintro e w5 ⟨b5, rfl, p5, i5, k5⟩
  have z5 := k5.size
  have I5 : Hid (BigAt w5 b5 (m : Int)) := i5
  have I4' : Hid (BigAt w5 b4 (n : Int)) := I4.out.below k5 (Nat.le_refl _)
  have I3 : Hid (BigAt w5 (w.heap.size + 1) A) := I3'.out.below k5 (Nat.le_refl _)
  have S5 : Hid (Slot w5 w.heap.size) := S4.out.below k5 (Nat.le_refl _)
  have K5 : Hid (Below w.heap.size w w5) := K4.out.trans (k5.mono (by omega))
  clear i5 k5 p5 I3' I4 K4 S4
  go_wp2_with fail
  refine (Exp_mod w.heap.size (w.heap.size + 1) b4 b5 A n m 2 2 2 w5 S5.out I3.out I4'.out I5.out h0 (lt_pw2 (by omega) (by omega)) (by rw [pw_two]; omega) (by rw [pw_two]; omega) (by omega) (by omega) (by omega)).mono ?_
  rw [HR.out]
  rintro e w6 ⟨rfl, i6, u6⟩
  have z6 := u6.size
  have I6 : Hid (BigAt w6 w.heap.size (R : Int)) := i6
  have K6 : Hid (Below w.heap.size w w6) := K5.out.trans (u6.below (by omega) (Nat.le_refl _))
  clear i6 u6 I3 I4' I5 S5 K5
  go_wp2_with fail
  refine (Int64_any w.heap.size (R : Int) w6 I6.out (by omega)).mono ?_
  rintro e w7 ⟨rfl, q, rfl⟩
  have er : (R : Int) % (m : Int) = (R : Int) := Int.emod_eq_of_lt (by omega) (by omega)
  have er2 : (R : Int).tmod (m : Int) = (R : Int) := (Int.tmod_eq_emod_of_nonneg (by omega)).trans er
  have tt : ((m : Int) == 0) = false := beq_eq_false_iff_ne.2 (by omega)
  go_wp2
  go_ret
  rw [HRR.out]
  exact ⟨rfl, below_drewN' K6.out⟩

end Go.Proofs.YtbeceimopamllaaDoor
end
