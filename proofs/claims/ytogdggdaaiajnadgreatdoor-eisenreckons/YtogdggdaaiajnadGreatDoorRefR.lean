/- The reference's rings of pairs: Norm, Times, Less, over, half, Quotient. -/
import Derived.Test.YtogdggdaaiajnadGreatDoorSv
import Derived.Test.YtogdggdaaiajnadGreatDoorMathR
set_option linter.unusedSimpArgs false
set_option linter.unusedVariables false
set_option maxRecDepth 100000
namespace Go.Proofs.YtogdggdaaiajnadGreatDoor
open Go.RowKit

/-- A pair, and a ring, as values. -/
abbrev pv (x : Pp) : Value := .agg #[.int .i64 x.a, .int .i64 x.b]
abbrev rv (T U : Int) (u : Pp) : Value := .agg #[.int .i64 T, .int .i64 U, .int .i64 u.a, .int .i64 u.b]

theorem below2 (w : World) (a b : Obj) : Below w.heap.size w ((w.alloc a).alloc b) := ((Below.refl _ _).alloc (Nat.le_refl _) _).alloc (by simp) _
theorem below3 (w : World) (a b c : Obj) : Below w.heap.size w (((w.alloc a).alloc b).alloc c) := (below2 w a b).alloc (by simp; omega) _
theorem below4 (w : World) (a b c d : Obj) : Below w.heap.size w ((((w.alloc a).alloc b).alloc c).alloc d) := (below3 w a b c).alloc (by simp; omega) _

theorem sv_new (x : World) (t : TypeId) (z : Nat) (hz : x.heap.size = z) (c d : Int) : Sv z c d (x.alloc (.cells #[.int .i64 c, .int .i64 d] t)) :=
  ⟨by rw [cell_new_at _ _ _ _ _ hz]; rfl, by rw [cell_new_at _ _ _ _ _ hz]; rfl, frozen_new_at _ _ _ _ _ hz, frozen_new_at _ _ _ _ _ hz, by simp; omega⟩

/-- Parts not above M. -/
structure Bd (M : Int) (x : Pp) : Prop where
  a1 : -M ≤ x.a
  a2 : x.a ≤ M
  b1 : -M ≤ x.b
  b2 : x.b ≤ M

theorem mul_bd {M N a b : Int} (h1 : -M ≤ a) (h2 : a ≤ M) (h3 : -N ≤ b) (h4 : b ≤ N) : -(M * N) ≤ a * b ∧ a * b ≤ M * N := by
  have e1 := Int.mul_nonneg (show 0 ≤ M - a by omega) (show 0 ≤ N - b by omega)
  have e2 := Int.mul_nonneg (show 0 ≤ M + a by omega) (show 0 ≤ N + b by omega)
  have e3 := Int.mul_nonneg (show 0 ≤ M - a by omega) (show 0 ≤ N + b by omega)
  have e4 := Int.mul_nonneg (show 0 ≤ M + a by omega) (show 0 ≤ N - b by omega)
  have f1 : (M - a) * (N - b) = M * N - M * b - a * N + a * b := by grind
  have f2 : (M + a) * (N + b) = M * N + M * b + a * N + a * b := by grind
  have f3 : (M - a) * (N + b) = M * N + M * b - a * N - a * b := by grind
  have f4 : (M + a) * (N - b) = M * N - M * b + a * N - a * b := by grind
  omega

theorem T_bd {T : Int} (hT : TT T) (a : Int) {M : Int} (h1 : -M ≤ a) (h2 : a ≤ M) : -M ≤ T * a ∧ T * a ≤ M := by
  rcases hT with rfl | rfl
  · have : (0 : Int) * a = 0 := by grind
    omega
  · have : (-1 : Int) * a = -a := by grind
    omega

/-- Parts are bounded by the norm. -/
theorem part_bd {T : Int} (hT : TT T) {x : Pp} {K : Int} (hK : 0 ≤ K) (h : 4 * x.norm T ≤ 3 * (K * K)) : Bd K x := by
  have key : ∀ c : Int, 3 * (c * c) ≤ 3 * (K * K) → -K ≤ c ∧ c ≤ K := by
    intro c hc
    constructor
    · rcases Int.lt_or_le c (-K) with h1 | h1
      · exfalso
        have h2 := Int.mul_le_mul (show K + 1 ≤ -c by omega) (show K + 1 ≤ -c by omega) (by omega) (by omega)
        have h3 : -c * -c = c * c := by grind
        have h4 : (K + 1) * (K + 1) = K * K + 2 * K + 1 := by grind
        omega
      · exact h1
    · rcases Int.lt_or_le K c with h1 | h1
      · exfalso
        have h2 := Int.mul_le_mul (show K + 1 ≤ c by omega) (show K + 1 ≤ c by omega) (by omega) (by omega)
        have h4 : (K + 1) * (K + 1) = K * K + 2 * K + 1 := by grind
        omega
      · exact h1
  have hb : 3 * (x.b * x.b) ≤ 4 * x.norm T := by
    have h1 := norm_four T hT x
    have h2 := sq_nonneg (2 * x.a + T * x.b)
    have h3 := sq_nonneg x.b
    rcases hT with rfl | rfl
    · have : (4 + (0 : Int)) * (x.b * x.b) = 4 * (x.b * x.b) := by grind
      omega
    · have : (4 + (-1 : Int)) * (x.b * x.b) = 3 * (x.b * x.b) := by grind
      omega
  have ha : 3 * (x.a * x.a) ≤ 4 * x.norm T := by
    have h1 := norm_four T hT ⟨x.b, x.a⟩
    have e : Pp.norm T ⟨x.b, x.a⟩ = x.norm T := by simp only [Pp.norm]; grind
    have h2 := sq_nonneg (2 * x.b + T * x.a)
    have h3 := sq_nonneg x.a
    simp only [e] at h1
    rcases hT with rfl | rfl
    · have : (4 + (0 : Int)) * (x.a * x.a) = 4 * (x.a * x.a) := by grind
      omega
    · have : (4 + (-1 : Int)) * (x.a * x.a) = 3 * (x.a * x.a) := by grind
      omega
  have h5 := key x.a (by omega)
  have h6 := key x.b (by omega)
  exact ⟨h5.1, h5.2, h6.1, h6.2⟩

theorem part_le_norm {T : Int} (hT : TT T) {x : Pp} (h : x ≠ Pp.zero) : Bd (x.norm T) x := by
  have hn := norm_pos T hT x h
  by_cases h2 : x.norm T = 1
  · rw [h2]
    have := unit_norm T hT x h2
    rcases this with ⟨_, h⟩ | ⟨_, h⟩
    · rcases h with rfl | rfl | rfl | rfl <;> constructor <;> decide
    · rcases h with rfl | rfl | rfl | rfl | rfl | rfl <;> constructor <;> decide
  · refine part_bd hT (by omega) ?_
    have := Int.mul_le_mul (show 2 ≤ x.norm T by omega) (Int.le_refl (x.norm T)) (by omega) (by omega)
    omega

theorem bd_mono {M N : Int} {x : Pp} (h : Bd M x) (hMN : M ≤ N) : Bd N x := ⟨by have := h.a1; omega, by have := h.a2; omega, by have := h.b1; omega, by have := h.b2; omega⟩

set_option maxHeartbeats 400000 in
theorem Norm_any (T U : Int) (u x : Pp) (w : World) (hT : TT T) (hx : Bd 1000000000 x) :
    Calls Tryz.prog 14 #[rv T U u, pv x] w fun e w' => e = .returned (.int .i64 (x.norm T)) ∧ Below w.heap.size w w' := by
  have h1 := mul_bd hx.a1 hx.a2 hx.a1 hx.a2
  have h2 := T_bd hT x.a hx.a1 hx.a2
  have h3 := mul_bd h2.1 h2.2 hx.b1 hx.b2
  have h4 := mul_bd hx.b1 hx.b2 hx.b1 hx.b2
  clear hx hT
  go_enter Tryz.func14, Tryz.ntmps14
  go_wp2
  go_ret
  exact ⟨rfl, below2 _ _ _⟩

set_option maxHeartbeats 400000 in
theorem Times_any (T U : Int) (u x y : Pp) (w : World) (h1 : -2000000000000000000 ≤ x.a * y.a ∧ x.a * y.a ≤ 2000000000000000000) (h2 : -2000000000000000000 ≤ x.b * y.b ∧ x.b * y.b ≤ 2000000000000000000) (h3 : -2000000000000000000 ≤ x.a * y.b ∧ x.a * y.b ≤ 2000000000000000000) (h4 : -2000000000000000000 ≤ x.b * y.a ∧ x.b * y.a ≤ 2000000000000000000) (h5 : -2000000000000000000 ≤ T * x.b ∧ T * x.b ≤ 2000000000000000000) (h6 : -2000000000000000000 ≤ T * x.b * y.b ∧ T * x.b * y.b ≤ 2000000000000000000) :
    Calls Tryz.prog 21 #[rv T U u, pv x, pv y] w fun e w' => e = .returned (pv (x.mul T y)) ∧ Below w.heap.size w w' := by
  go_enter Tryz.func21, Tryz.ntmps21
  go_wp2
  refine bodyPost_ret (v := pv (x.mul T y)) (by simp [results, Tryz.results21, go_sem, Pp.mul]) rfl ⟨rfl, ?_⟩
  exact below4 _ _ _ _ _

theorem Less_ring (T U : Int) (u x y : Pp) (w : World) (h1 : Bd 4000000000000000000 x) (h2 : Bd 4000000000000000000 y) :
    Calls Tryz.prog 11 #[rv T U u, pv x, pv y] w fun e w' => e = .returned (pv (x.sub y)) ∧ Below w.heap.size w w' := by
  obtain ⟨a1, a2, a3, a4⟩ := h1
  obtain ⟨b1, b2, b3, b4⟩ := h2
  go_enter Tryz.func11, Tryz.ntmps11
  go_wp2
  refine bodyPost_ret (v := pv (x.sub y)) (by simp [results, Tryz.results11, go_sem, Pp.sub]) rfl ⟨rfl, ?_⟩
  exact below4 _ _ _ _ _

theorem over_any (T U : Int) (u x y : Pp) (w : World) (hT : TT T) (hx : Bd 1000000000 x) (hy : Bd 1000000000 y) :
    Calls Tryz.prog 32 #[rv T U u, pv x, pv y] w fun e w' => e = .returned (pv (x.mul T (y.conj T))) ∧ Below w.heap.size w w' := by
  have e1 := T_bd hT y.b hy.b1 hy.b2
  have e2 := hy.a1
  have e3 := hy.a2
  have e4 := hy.b1
  have e5 := hy.b2
  have HX : Hid (Bd 1000000000 x) := hx
  have HT : Hid (TT T) := hT
  clear hx hy hT
  go_enter Tryz.func32, Tryz.ntmps32
  go_wp2_with fail
  have hc : Bd 2000000000 (y.conj T) := ⟨by show -2000000000 ≤ y.a + T * y.b; omega, by show y.a + T * y.b ≤ 2000000000; omega, by show -2000000000 ≤ -y.b; omega, by show -y.b ≤ 2000000000; omega⟩
  have hX := HX.out
  have t1 := T_bd HT.out x.b hX.b1 hX.b2
  have m1 := mul_bd hX.a1 hX.a2 hc.a1 hc.a2
  have m2 := mul_bd hX.b1 hX.b2 hc.b1 hc.b2
  have m3 := mul_bd hX.a1 hX.a2 hc.b1 hc.b2
  have m4 := mul_bd hX.b1 hX.b2 hc.a1 hc.a2
  have m6 := mul_bd t1.1 t1.2 hc.b1 hc.b2
  refine (Times_any T U u x (y.conj T) _ (by omega) (by omega) (by omega) (by omega) (by omega) (by omega)).mono ?_
  rintro e w1 ⟨rfl, k1⟩
  have S1 := (sv_new _ _ (w.heap.size + 3) (by simp) 0 0).below k1
  have q0 := S1.c0
  have q1 := S1.c1
  have q2 := S1.f0
  have q3 := S1.f1
  have q4 := S1.lt
  have K1 : Hid (Below w.heap.size w w1) := (below4 _ _ _ _ _).trans (k1.mono (by simp; omega))
  clear S1 k1 m1 m2 m3 m4 m6 t1 hX hc
  go_wp2
  refine bodyPost_ret (v := pv (x.mul T (y.conj T))) (by simp [results, Tryz.results32, go_sem, q0, q1, q4]) rfl ⟨rfl, ?_⟩
  exact (K1.out.setCell (by simp <;> omega) _).setCell (by simp <;> omega) _

/-- The nearest: a half is rounded up. -/
def hlf (a n : Int) : Int := (2 * a + n) / (2 * n)
theorem hlf_spec (a n : Int) (hn : 1 ≤ n) : -n ≤ 2 * (a - hlf a n * n) ∧ 2 * (a - hlf a n * n) < n := by
  have h1 := Int.emod_nonneg (2 * a + n) (show 2 * n ≠ 0 by omega)
  have h2 := Int.emod_lt_of_pos (2 * a + n) (show 0 < 2 * n by omega)
  have h3 := Int.mul_ediv_add_emod (2 * a + n) (2 * n)
  have h4 : 2 * n * ((2 * a + n) / (2 * n)) = 2 * (hlf a n * n) := by unfold hlf; grind
  omega
theorem hlf_unique {a n q : Int} (hn : 1 ≤ n) (h1 : -n ≤ 2 * (a - q * n)) (h2 : 2 * (a - q * n) < n) : q = hlf a n := by
  obtain ⟨h3, h4⟩ := hlf_spec a n hn
  rcases Int.lt_trichotomy q (hlf a n) with h | h | h
  · exfalso
    have := Int.mul_le_mul_of_nonneg_right (show q + 1 ≤ hlf a n by omega) (show 0 ≤ n by omega)
    have : (q + 1) * n = q * n + n := by grind
    omega
  · exact h
  · exfalso
    have := Int.mul_le_mul_of_nonneg_right (show hlf a n + 1 ≤ q by omega) (show 0 ≤ n by omega)
    have : (hlf a n + 1) * n = hlf a n * n + n := by grind
    omega

theorem tdiv_near (A D : Int) (hD : 0 < D) : A.tdiv D = A / D ∨ A.tdiv D = A / D + 1 := by
  rcases Int.le_total 0 A with h | h
  · exact .inl (Int.tdiv_eq_ediv_of_nonneg h)
  · have e : A.tdiv D = -((-A) / D) := by
      rw [← Int.tdiv_eq_ediv_of_nonneg (show 0 ≤ -A by omega), Int.neg_tdiv]; omega
    have h1 := Int.emod_nonneg (-A) (show D ≠ 0 by omega)
    have h2 := Int.emod_lt_of_pos (-A) hD
    have h3 := Int.mul_ediv_add_emod (-A) D
    have h4 := Int.emod_nonneg A (show D ≠ 0 by omega)
    have h5 := Int.emod_lt_of_pos A hD
    have h6 := Int.mul_ediv_add_emod A D
    rw [e]
    obtain ⟨k, hk⟩ : ∃ k, k = (-A) / D := ⟨_, rfl⟩
    obtain ⟨l, hl⟩ : ∃ l, l = A / D := ⟨_, rfl⟩
    rw [← hk] at h3 ⊢
    rw [← hl] at h6 ⊢
    have h7 : D * (k + l) = D * k + D * l := by grind
    rcases Int.lt_trichotomy (k + l) 0 with h8 | h8 | h8
    · rcases Int.lt_or_le (k + l) (-1) with h9 | h9
      · exfalso
        have := Int.mul_le_mul_of_nonneg_left (show k + l ≤ -2 by omega) (show 0 ≤ D by omega)
        omega
      · right; omega
    · left; omega
    · exfalso
      have := Int.mul_le_mul_of_nonneg_left (show 1 ≤ k + l by omega) (show 0 ≤ D by omega)
      omega

set_option maxHeartbeats 400000 in
theorem half_any (a n : Int) (w : World) (ha : -1500000000000000000 ≤ a ∧ a ≤ 1500000000000000000) (hn : 1 ≤ n ∧ n ≤ 1000000000000000000) :
    Calls Tryz.prog 42 #[.int .i64 a, .int .i64 n] w fun e w' => e = .returned (.int .i64 (hlf a n)) ∧ w' = w := by
  obtain ⟨f, hf⟩ : ∃ f, f = hlf a n := ⟨_, rfl⟩
  have hs := hlf_spec a n hn.1
  rw [← hf] at hs ⊢
  obtain ⟨g, hg⟩ : ∃ g, g = f * n := ⟨_, rfl⟩
  rw [← hg] at hs
  have hfb : -2000000000000000000 ≤ f ∧ f ≤ 2000000000000000000 := by
    constructor
    · rcases Int.lt_or_le f (-2000000000000000000) with h | h
      · exfalso
        have := Int.mul_le_mul_of_nonneg_right (show f ≤ -2000000000000000001 by omega) (show 0 ≤ n by omega)
        have h2 := Int.mul_le_mul_of_nonneg_left hn.1 (show (0 : Int) ≤ 2000000000000000001 by omega)
        rw [← hg] at this
        omega
      · exact h
    · rcases Int.lt_or_le 2000000000000000000 f with h | h
      · exfalso
        have := Int.mul_le_mul_of_nonneg_right (show 2000000000000000001 ≤ f by omega) (show 0 ≤ n by omega)
        have h2 := Int.mul_le_mul_of_nonneg_left hn.1 (show (0 : Int) ≤ 2000000000000000001 by omega)
        rw [← hg] at this
        omega
      · exact h
  have hq : (2 * a + n).tdiv (2 * n) = f ∨ (2 * a + n).tdiv (2 * n) = f + 1 := by rw [hf]; exact tdiv_near _ _ (by omega)
  obtain ⟨q, hqq⟩ : ∃ q, (2 * a + n).tdiv (2 * n) = q := ⟨_, rfl⟩
  have hq2 : q = f ∨ q = f + 1 := by
    rw [← hqq]
    exact hq
  have hn0 : (2 * n == 0) = false := beq_eq_false_iff_ne.2 (by omega)
  have HQ : Hid (q = f ∨ q = f + 1) := hq2
  have HG : Hid (g = f * n) := hg
  have hn1 := hn.1
  have hn2 := hn.2
  have ha1 := ha.1
  have ha2 := ha.2
  clear hf hq hq2 ha hn hg
  go_enter Tryz.func42, Tryz.ntmps42
  go_wp2
  go_loopw [5] (fun qv wx => ∃ q : Int, qv = .int .i64 q ∧ Hid ((q = f ∨ q = f + 1) ∧ wx = w)) (fun qv _ => (intOf qv - f).toNat)
  case atStart => exact ⟨q, by have h := HQ.out; rw [show wrap64 q = q by unfold wrap64; omega], HQ.out, rfl⟩
  case round =>
    obtain ⟨r, rfl, HR⟩ := hrel
    have hr := HR.out.1
    have hw := HR.out.2
    subst hw
    clear HR
    have hg := HG.out
    rcases hr with rfl | rfl
    · have e : r * 2 * n = 2 * g := by rw [hg]; grind
      have hb : -7000000000000000000 ≤ r * 2 * n ∧ r * 2 * n ≤ 7000000000000000000 := by omega
      have hd : decide (2 * a + n < r * 2 * n) = false := decide_eq_false (by omega)
      clear e hg
      go_wp2
      go_ret
      exact ⟨rfl, rfl⟩
    · have e : (f + 1) * 2 * n = 2 * g + 2 * n := by rw [hg]; grind
      have hb : -7000000000000000000 ≤ (f + 1) * 2 * n ∧ (f + 1) * 2 * n ≤ 7000000000000000000 := by omega
      have hd : decide (2 * a + n < (f + 1) * 2 * n) = true := decide_eq_true (by omega)
      clear e hg
      go_wp2
      go_roundw
      case rel => exact ⟨f, by go_num, .inl rfl, by first | rfl | trivial⟩
      case measure => simp [intOf] <;> omega

end Go.Proofs.YtogdggdaaiajnadGreatDoor
