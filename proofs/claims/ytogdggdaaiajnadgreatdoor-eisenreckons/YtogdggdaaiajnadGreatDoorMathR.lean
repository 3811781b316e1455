/- Plain facts: the rings of pairs A + B t with t t = -1 + T t (T 0: Gauss's numbers; T -1: Eisenstein's): norms, the quotient that is rounded, greatest divisors, chiefs. -/
set_option linter.unusedVariables false
set_option maxRecDepth 100000
namespace Go.Proofs.YtogdggdaaiajnadGreatDoor

/-- A pair. -/
structure Pp where
  a : Int
  b : Int
deriving DecidableEq

def Pp.mul (T : Int) (x y : Pp) : Pp := ⟨x.a * y.a - x.b * y.b, x.a * y.b + x.b * y.a + T * x.b * y.b⟩
def Pp.sub (x y : Pp) : Pp := ⟨x.a - y.a, x.b - y.b⟩
def Pp.add (x y : Pp) : Pp := ⟨x.a + y.a, x.b + y.b⟩
def Pp.norm (T : Int) (x : Pp) : Int := x.a * x.a + T * x.a * x.b + x.b * x.b
def Pp.conj (T : Int) (x : Pp) : Pp := ⟨x.a + T * x.b, -x.b⟩
def Pp.zero : Pp := ⟨0, 0⟩
def Pp.one : Pp := ⟨1, 0⟩

theorem Pp.ext' {x y : Pp} (h1 : x.a = y.a) (h2 : x.b = y.b) : x = y := by cases x; cases y; simp_all

theorem mul_comm' (T : Int) (x y : Pp) : x.mul T y = y.mul T x := by apply Pp.ext' <;> simp only [Pp.mul] <;> grind
theorem mul_assoc' (T : Int) (x y z : Pp) : (x.mul T y).mul T z = x.mul T (y.mul T z) := by apply Pp.ext' <;> simp only [Pp.mul] <;> grind
theorem mul_sub' (T : Int) (x y z : Pp) : x.mul T (y.sub z) = (x.mul T y).sub (x.mul T z) := by apply Pp.ext' <;> simp only [Pp.mul, Pp.sub] <;> grind
theorem mul_add' (T : Int) (x y z : Pp) : x.mul T (y.add z) = (x.mul T y).add (x.mul T z) := by apply Pp.ext' <;> simp only [Pp.mul, Pp.add] <;> grind
theorem mul_one' (T : Int) (x : Pp) : x.mul T Pp.one = x := by apply Pp.ext' <;> simp only [Pp.mul, Pp.one] <;> grind
theorem mul_zero' (T : Int) (x : Pp) : x.mul T Pp.zero = Pp.zero := by apply Pp.ext' <;> simp only [Pp.mul, Pp.zero] <;> grind
theorem norm_mul (T : Int) (x y : Pp) : (x.mul T y).norm T = x.norm T * y.norm T := by simp only [Pp.mul, Pp.norm]; grind
theorem norm_conj (T : Int) (x : Pp) : (x.conj T).norm T = x.norm T := by simp only [Pp.conj, Pp.norm]; grind
theorem mul_conj (T : Int) (x : Pp) : x.mul T (x.conj T) = ⟨x.norm T, 0⟩ := by apply Pp.ext' <;> simp only [Pp.mul, Pp.norm, Pp.conj] <;> grind

theorem sq_nonneg (a : Int) : 0 ≤ a * a := by
  rcases Int.le_total 0 a with h | h
  · exact Int.mul_nonneg h h
  · exact Int.mul_nonneg_of_nonpos_of_nonpos h h
theorem sq_zero {a : Int} (h : a * a = 0) : a = 0 := by rcases Int.mul_eq_zero.1 h with h | h <;> exact h

/-- T is 0 or -1. -/
def TT (T : Int) : Prop := T = 0 ∨ T = -1

theorem norm_four (T : Int) (hT : TT T) (x : Pp) : 4 * x.norm T = (2 * x.a + T * x.b) * (2 * x.a + T * x.b) + (4 + T) * (x.b * x.b) := by
  rcases hT with rfl | rfl <;> simp only [Pp.norm] <;> grind
theorem norm_nonneg (T : Int) (hT : TT T) (x : Pp) : 0 ≤ x.norm T := by
  have h1 := norm_four T hT x
  have h2 := sq_nonneg (2 * x.a + T * x.b)
  have h3 := sq_nonneg x.b
  have h4 : 0 ≤ (4 + T) * (x.b * x.b) := Int.mul_nonneg (by rcases hT with h | h <;> omega) h3
  omega
theorem norm_zero (T : Int) (hT : TT T) (x : Pp) (h : x.norm T = 0) : x = Pp.zero := by
  have h1 := norm_four T hT x
  have h2 := sq_nonneg (2 * x.a + T * x.b)
  have h3 := sq_nonneg x.b
  have h5 : x.b * x.b = 0 := by
    rcases hT with rfl | rfl
    · have : (4 + (0 : Int)) * (x.b * x.b) = 4 * (x.b * x.b) := by grind
      omega
    · have : (4 + (-1 : Int)) * (x.b * x.b) = 3 * (x.b * x.b) := by grind
      omega
  have hb := sq_zero h5
  have h6 : x.norm T = x.a * x.a := by simp only [Pp.norm, hb]; grind
  have ha := sq_zero (h6 ▸ h)
  exact Pp.ext' ha hb
theorem norm_pos (T : Int) (hT : TT T) (x : Pp) (h : x ≠ Pp.zero) : 1 ≤ x.norm T := by
  have h1 := norm_nonneg T hT x
  rcases Int.lt_or_le (x.norm T) 1 with h2 | h2
  · exact absurd (norm_zero T hT x (by omega)) h
  · exact h2

/-- A quotient whose parts are as near as may be. -/
def Near (T : Int) (x y q : Pp) : Prop :=
  let z := x.mul T (y.conj T)
  let n := y.norm T
  (-n ≤ 2 * (z.a - q.a * n) ∧ 2 * (z.a - q.a * n) ≤ n) ∧ (-n ≤ 2 * (z.b - q.b * n) ∧ 2 * (z.b - q.b * n) ≤ n)

theorem mul_bound {r s n : Int} (h1 : -n ≤ 2 * r) (h2 : 2 * r ≤ n) (h3 : -n ≤ 2 * s) (h4 : 2 * s ≤ n) : -(n * n) ≤ 4 * (r * s) ∧ 4 * (r * s) ≤ n * n := by
  have hn : 0 ≤ n := by omega
  have e1 := Int.mul_nonneg (show 0 ≤ n - 2 * r by omega) (show 0 ≤ n - 2 * s by omega)
  have e2 := Int.mul_nonneg (show 0 ≤ n + 2 * r by omega) (show 0 ≤ n + 2 * s by omega)
  have e3 := Int.mul_nonneg (show 0 ≤ n - 2 * r by omega) (show 0 ≤ n + 2 * s by omega)
  have e4 := Int.mul_nonneg (show 0 ≤ n + 2 * r by omega) (show 0 ≤ n - 2 * s by omega)
  have f1 : (n - 2 * r) * (n - 2 * s) = n * n - 2 * (n * s) - 2 * (n * r) + 4 * (r * s) := by grind
  have f2 : (n + 2 * r) * (n + 2 * s) = n * n + 2 * (n * s) + 2 * (n * r) + 4 * (r * s) := by grind
  have f3 : (n - 2 * r) * (n + 2 * s) = n * n + 2 * (n * s) - 2 * (n * r) - 4 * (r * s) := by grind
  have f4 : (n + 2 * r) * (n - 2 * s) = n * n - 2 * (n * s) + 2 * (n * r) - 4 * (r * s) := by grind
  omega

/-- What is left is smaller. -/
theorem near_less (T : Int) (hT : TT T) (x y q : Pp) (hy : y ≠ Pp.zero) (h : Near T x y q) : 4 * (x.sub (q.mul T y)).norm T ≤ 3 * y.norm T := by
  obtain ⟨⟨a1, a2⟩, b1, b2⟩ := h
  have hn := norm_pos T hT y hy
  obtain ⟨n, hnn⟩ : ∃ n, n = y.norm T := ⟨_, rfl⟩
  obtain ⟨r, hr⟩ : ∃ r, r = (x.mul T (y.conj T)).a - q.a * n := ⟨_, rfl⟩
  obtain ⟨s, hs⟩ : ∃ s, s = (x.mul T (y.conj T)).b - q.b * n := ⟨_, rfl⟩
  rw [← hnn] at a1 a2 b1 b2 hn
  rw [← hr] at a1 a2
  rw [← hs] at b1 b2
  have hz : (x.sub (q.mul T y)).mul T (y.conj T) = ⟨r, s⟩ := by
    have e : (q.mul T y).mul T (y.conj T) = ⟨q.a * n, q.b * n⟩ := by
      rw [mul_assoc', mul_conj, ← hnn]
      apply Pp.ext' <;> simp only [Pp.mul] <;> grind
    have e2 : (x.sub (q.mul T y)).mul T (y.conj T) = (x.mul T (y.conj T)).sub ((q.mul T y).mul T (y.conj T)) := by
      rw [mul_comm', mul_sub', mul_comm' T (y.conj T) x, mul_comm' T (y.conj T) (q.mul T y)]
    rw [e2, e, hr, hs]; rfl
  have h1 := norm_mul T (x.sub (q.mul T y)) (y.conj T)
  rw [hz, norm_conj, ← hnn] at h1
  have hrr := mul_bound a1 a2 a1 a2
  have hss := mul_bound b1 b2 b1 b2
  have hrs := mul_bound a1 a2 b1 b2
  have h2 : 4 * (Pp.norm T ⟨r, s⟩) ≤ 3 * (n * n) := by
    have e : Pp.norm T ⟨r, s⟩ = r * r + T * (r * s) + s * s := by simp only [Pp.norm]; grind
    rw [e]
    rcases hT with rfl | rfl
    · have : (0 : Int) * (r * s) = 0 := by grind
      have := sq_nonneg n
      omega
    · have : (-1 : Int) * (r * s) = -(r * s) := by grind
      omega
  obtain ⟨m, hm⟩ : ∃ m, m = (x.sub (q.mul T y)).norm T := ⟨_, rfl⟩
  rw [h1, ← hm] at h2
  rw [← hm, ← hnn]
  rcases Int.lt_or_le (3 * n) (4 * m) with h3 | h3
  · exfalso
    have h4 : (3 * n + 1) * n ≤ (4 * m) * n := Int.mul_le_mul_of_nonneg_right (by omega) (by omega)
    have h5 : (3 * n + 1) * n = 3 * (n * n) + n := by grind
    have h6 : (4 * m) * n = 4 * (m * n) := by grind
    omega
  · exact h3

/-! ### Divisors -/

def Dv (T : Int) (d x : Pp) : Prop := ∃ e, x = d.mul T e
theorem Dv.refl (T : Int) (x : Pp) : Dv T x x := ⟨Pp.one, (mul_one' T x).symm⟩
theorem Dv.zero (T : Int) (x : Pp) : Dv T x Pp.zero := ⟨Pp.zero, (mul_zero' T x).symm⟩
theorem Dv.mul {T : Int} {d x : Pp} (h : Dv T d x) (y : Pp) : Dv T d (y.mul T x) := by
  obtain ⟨e, rfl⟩ := h
  exact ⟨y.mul T e, by rw [← mul_assoc', mul_comm' T y d, mul_assoc']⟩
theorem Dv.sub {T : Int} {d x y : Pp} (h : Dv T d x) (k : Dv T d y) : Dv T d (x.sub y) := by
  obtain ⟨e, rfl⟩ := h
  obtain ⟨f, rfl⟩ := k
  exact ⟨e.sub f, (mul_sub' T d e f).symm⟩
theorem Dv.add {T : Int} {d x y : Pp} (h : Dv T d x) (k : Dv T d y) : Dv T d (x.add y) := by
  obtain ⟨e, rfl⟩ := h
  obtain ⟨f, rfl⟩ := k
  exact ⟨e.add f, (mul_add' T d e f).symm⟩
theorem Dv.trans {T : Int} {x y z : Pp} (h : Dv T x y) (k : Dv T y z) : Dv T x z := by
  obtain ⟨e, rfl⟩ := h
  obtain ⟨f, rfl⟩ := k
  exact ⟨e.mul T f, mul_assoc' T x e f⟩

/-- g is a greatest one that divides both. -/
def Gd (T : Int) (x y g : Pp) : Prop := ∀ d, (Dv T d x ∧ Dv T d y) ↔ Dv T d g
theorem Gd.zero (T : Int) (x : Pp) : Gd T x Pp.zero x := fun d => ⟨fun h => h.1, fun h => ⟨h, Dv.zero T d⟩⟩
theorem Gd.symm {T : Int} {x y g : Pp} (h : Gd T x y g) : Gd T y x g := fun d => ⟨fun k => (h d).1 ⟨k.2, k.1⟩, fun k => ⟨((h d).2 k).2, ((h d).2 k).1⟩⟩
theorem Gd.step {T : Int} {x y q g : Pp} (h : Gd T (x.sub (q.mul T y)) y g) : Gd T x y g := fun d => by
  constructor
  · rintro ⟨h1, h2⟩
    exact (h d).1 ⟨h1.sub (h2.mul q), h2⟩
  · intro h1
    obtain ⟨h2, h3⟩ := (h d).2 h1
    refine ⟨?_, h3⟩
    have e : x = (x.sub (q.mul T y)).add (q.mul T y) := by apply Pp.ext' <;> simp only [Pp.sub, Pp.add] <;> omega
    rw [e]; exact h2.add (h3.mul q)
theorem Gd.assoc {T : Int} {x y g k : Pp} (h : Gd T x y g) (hk : Gd T x y k) : Dv T g k ∧ Dv T k g :=
  ⟨(hk g).1 ((h g).2 (Dv.refl T g)), (h k).1 ((hk k).2 (Dv.refl T k))⟩

/-! ### Units and chiefs -/

def IsCh (T : Int) (x : Pp) : Prop := if T = 0 then 0 < x.a ∧ 0 ≤ x.b else x.b < x.a ∧ 0 ≤ x.b
instance (T : Int) (x : Pp) : Decidable (IsCh T x) := by unfold IsCh; infer_instance

/-- The powers of the unit that turns least. -/
def unitOf (T : Int) : Pp := if T = 0 then ⟨0, 1⟩ else ⟨1, 1⟩

theorem unit_norm (T : Int) (hT : TT T) (e : Pp) (h : e.norm T = 1) : (T = 0 ∧ (e = ⟨1, 0⟩ ∨ e = ⟨0, 1⟩ ∨ e = ⟨-1, 0⟩ ∨ e = ⟨0, -1⟩)) ∨ (T = -1 ∧ (e = ⟨1, 0⟩ ∨ e = ⟨1, 1⟩ ∨ e = ⟨0, 1⟩ ∨ e = ⟨-1, 0⟩ ∨ e = ⟨-1, -1⟩ ∨ e = ⟨0, -1⟩)) := by
  have h4 := norm_four T hT e
  have hb : -1 ≤ e.b ∧ e.b ≤ 1 := by
    have h2 := sq_nonneg (2 * e.a + T * e.b)
    rcases Int.lt_or_le 1 e.b with hh | hh
    · exfalso
      have := Int.mul_le_mul (show 2 ≤ e.b by omega) (show 2 ≤ e.b by omega) (by omega) (by omega)
      rcases hT with rfl | rfl
      · have : (4 + (0 : Int)) * (e.b * e.b) = 4 * (e.b * e.b) := by grind
        omega
      · have : (4 + (-1 : Int)) * (e.b * e.b) = 3 * (e.b * e.b) := by grind
        omega
    · rcases Int.lt_or_le e.b (-1) with hh2 | hh2
      · exfalso
        have h5 := Int.mul_le_mul (show 2 ≤ -e.b by omega) (show 2 ≤ -e.b by omega) (by omega) (by omega)
        have h6 : -e.b * -e.b = e.b * e.b := by grind
        rcases hT with rfl | rfl
        · have : (4 + (0 : Int)) * (e.b * e.b) = 4 * (e.b * e.b) := by grind
          omega
        · have : (4 + (-1 : Int)) * (e.b * e.b) = 3 * (e.b * e.b) := by grind
          omega
      · exact ⟨hh2, hh⟩
  have ha : -1 ≤ e.a ∧ e.a ≤ 1 := by
    have h5 : e.a * e.a + T * e.a * e.b + e.b * e.b = 1 := h
    rcases (show e.b = -1 ∨ e.b = 0 ∨ e.b = 1 by omega) with hb | hb | hb <;> rw [hb] at h5 <;> rcases hT with rfl | rfl
    all_goals
      constructor
      · rcases Int.lt_or_le e.a (-1) with hh | hh
        · exfalso
          have h6 := Int.mul_le_mul (show 2 ≤ -e.a by omega) (show -e.a ≤ -e.a by omega) (by omega) (by omega)
          have h7 : -e.a * -e.a = e.a * e.a := by grind
          grind
        · exact hh
      · rcases Int.lt_or_le 1 e.a with hh | hh
        · exfalso
          have h6 := Int.mul_le_mul (show 2 ≤ e.a by omega) (show e.a ≤ e.a by omega) (by omega) (by omega)
          grind
        · exact hh
  obtain ⟨a, b⟩ := e
  simp only at ha hb
  simp only [Pp.norm] at h
  rcases hT with rfl | rfl
  · refine .inl ⟨rfl, ?_⟩
    rcases (show a = -1 ∨ a = 0 ∨ a = 1 by omega) with rfl | rfl | rfl <;> rcases (show b = -1 ∨ b = 0 ∨ b = 1 by omega) with rfl | rfl | rfl <;> revert h <;> decide
  · refine .inr ⟨rfl, ?_⟩
    rcases (show a = -1 ∨ a = 0 ∨ a = 1 by omega) with rfl | rfl | rfl <;> rcases (show b = -1 ∨ b = 0 ∨ b = 1 by omega) with rfl | rfl | rfl <;> revert h <;> decide

/-- Two chiefs that divide each other are the same. -/
theorem chief_one (T : Int) (hT : TT T) (g k : Pp) (h1 : Dv T g k) (h2 : Dv T k g) (c1 : IsCh T g) (c2 : IsCh T k) : g = k := by
  obtain ⟨e, he⟩ := h1
  obtain ⟨f, hf⟩ := h2
  have hg : g ≠ Pp.zero := by
    rintro rfl
    revert c1
    rcases hT with rfl | rfl <;> decide
  have n1 := norm_mul T g e
  rw [← he] at n1
  have n2 := norm_mul T k f
  rw [← hf] at n2
  have p1 := norm_pos T hT g hg
  have en := norm_nonneg T hT e
  have fn := norm_nonneg T hT f
  have hen : e.norm T = 1 := by
    have h3 : g.norm T * 1 = g.norm T * (e.norm T * f.norm T) := by rw [Int.mul_one, ← Int.mul_assoc, ← n1]; exact n2
    have h4 : (1 : Int) = e.norm T * f.norm T := Int.eq_of_mul_eq_mul_left (by omega) h3
    rcases Int.lt_or_le (e.norm T) 2 with h5 | h5
    · rcases (show e.norm T = 0 ∨ e.norm T = 1 by omega) with h6 | h6
      · rw [h6, Int.zero_mul] at h4; omega
      · exact h6
    · exfalso
      rcases Int.lt_or_le (f.norm T) 1 with h6 | h6
      · rw [show f.norm T = 0 by omega, Int.mul_zero] at h4; omega
      · have := Int.mul_le_mul h5 h6 (by omega) (by omega)
        omega
  obtain ⟨a, b⟩ := g
  rcases unit_norm T hT e hen with ⟨rfl, h⟩ | ⟨rfl, h⟩
  · rcases h with rfl | rfl | rfl | rfl <;> subst he <;> simp only [IsCh, Pp.mul] at c1 c2 ⊢ <;> simp at c1 c2 ⊢ <;> omega
  · rcases h with rfl | rfl | rfl | rfl | rfl | rfl <;> subst he <;> simp only [IsCh, Pp.mul] at c1 c2 ⊢ <;> simp at c1 c2 ⊢ <;> omega

end Go.Proofs.YtogdggdaaiajnadGreatDoor
