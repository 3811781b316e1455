/- Gauss's composition: lattices of an order, and forms of one discriminant. Plain facts. -/
import Derived.Test.YtijkanilpblogaeQfH
set_option linter.unusedSimpArgs false
set_option linter.unusedVariables false
set_option maxRecDepth 100000
namespace Go.Proofs.Ytijkanilpblogae.MQ

/-- Whole numbers of an order: x + y ω, where ω ω = s ω + n. -/
structure Zw (s n : Int) where
  x : Int
  y : Int

namespace Zw
variable {s n : Int}
theorem eq {u v : Zw s n} (hx : u.x = v.x) (hy : u.y = v.y) : u = v := by
  cases u; cases v; simp only at hx hy; rw [hx, hy]
def zm (u v : Zw s n) : Zw s n := ⟨u.x * v.x + n * (u.y * v.y), u.x * v.y + u.y * v.x + s * (u.y * v.y)⟩
def za (u v : Zw s n) : Zw s n := ⟨u.x + v.x, u.y + v.y⟩
def zg (u : Zw s n) : Zw s n := ⟨-u.x, -u.y⟩
/-- A whole number. -/
def ic (k : Int) : Zw s n := ⟨k, 0⟩
def conj (u : Zw s n) : Zw s n := ⟨u.x + s * u.y, -u.y⟩
def norm (u : Zw s n) : Int := u.x * u.x + s * (u.x * u.y) - n * (u.y * u.y)
def zero : Zw s n := ⟨0, 0⟩

theorem mul_comm (u v : Zw s n) : zm u v = zm v u := by
  refine eq ?_ ?_ <;> simp only [zm] <;> grind
theorem mul_assoc (u v w : Zw s n) : zm (zm u v) w = zm u (zm v w) := by
  refine eq ?_ ?_ <;> simp only [zm] <;> grind
theorem mul_four (a b c d : Zw s n) : zm (zm a b) (zm c d) = zm (zm a c) (zm b d) := by
  refine eq ?_ ?_ <;> simp only [zm] <;> grind
theorem mul_add (u v w : Zw s n) : zm u (za v w) = za (zm u v) (zm u w) := by
  refine eq ?_ ?_ <;> simp only [zm, za] <;> grind
theorem add_mul (u v w : Zw s n) : zm (za v w) u = za (zm v u) (zm w u) := by
  refine eq ?_ ?_ <;> simp only [zm, za] <;> grind
theorem mul_neg (u v : Zw s n) : zm u (zg v) = zg (zm u v) := by
  refine eq ?_ ?_ <;> simp only [zm, zg] <;> grind
theorem neg_mul (u v : Zw s n) : zm (zg v) u = zg (zm v u) := by
  refine eq ?_ ?_ <;> simp only [zm, zg] <;> grind
theorem mul_zero (u : Zw s n) : zm u zero = zero := by
  refine eq ?_ ?_ <;> simp only [zm, zero] <;> grind
theorem zero_mul (u : Zw s n) : zm zero u = zero := by
  refine eq ?_ ?_ <;> simp only [zm, zero] <;> grind
theorem conj_mul (u : Zw s n) : zm u.conj u = ic u.norm := by
  refine eq ?_ ?_ <;> simp only [zm, conj, ic, norm] <;> grind
theorem ic_mul (k : Int) (u : Zw s n) : zm (ic k) u = ⟨k * u.x, k * u.y⟩ := by
  refine eq ?_ ?_ <;> simp only [zm, ic] <;> grind
theorem norm_mul (u v : Zw s n) : (zm u v).norm = u.norm * v.norm := by
  simp only [norm, zm]; grind

theorem norm_pos (hD : s * s + 4 * n < 0) {u : Zw s n} (h : u ≠ zero) : 0 < u.norm := by
  have e : 4 * u.norm = (2 * u.x + s * u.y) * (2 * u.x + s * u.y) + (-(s * s + 4 * n)) * (u.y * u.y) := by
    simp only [norm]; grind
  have h1 : 0 ≤ (2 * u.x + s * u.y) * (2 * u.x + s * u.y) := by
    rcases Int.le_total 0 (2 * u.x + s * u.y) with h | h
    · exact Int.mul_nonneg h h
    · exact Int.mul_nonneg_of_nonpos_of_nonpos h h
  by_cases hy : u.y = 0
  · have hx : u.x ≠ 0 := fun hx => h (eq hx hy)
    simp only [norm, hy]
    have : 0 < u.x * u.x := by
      rcases Int.lt_or_gt_of_ne hx with h | h
      · exact Int.mul_pos_of_neg_of_neg h h
      · exact Int.mul_pos h h
    simpa using this
  · have h2 : 0 < u.y * u.y := by
      rcases Int.lt_or_gt_of_ne hy with h | h
      · exact Int.mul_pos_of_neg_of_neg h h
      · exact Int.mul_pos h h
    have h3 : 0 < (-(s * s + 4 * n)) * (u.y * u.y) := Int.mul_pos (by omega) h2
    omega

theorem cancel (hD : s * s + 4 * n < 0) {u v w : Zw s n} (h : u ≠ zero) (e : zm u v = zm u w) : v = w := by
  have hp := norm_pos hD h
  have e2 : zm (ic u.norm) v = zm (ic u.norm) w := by
    rw [← conj_mul, mul_assoc, mul_assoc, e]
  rw [ic_mul, ic_mul] at e2
  simp only [Zw.mk.injEq] at e2
  exact eq (Int.eq_of_mul_eq_mul_left (by omega) e2.1) (Int.eq_of_mul_eq_mul_left (by omega) e2.2)
theorem mul_ne (hD : s * s + 4 * n < 0) {u v : Zw s n} (h : u ≠ zero) (k : v ≠ zero) : zm u v ≠ zero := fun e =>
  k (cancel hD h (e.trans (mul_zero u).symm))

end Zw
open Zw
variable {s n : Int}

/-- What holds of 0, of sums and of opposites. -/
structure Cls (R : Zw s n → Prop) : Prop where
  zero : R zero
  add : ∀ u v, R u → R v → R (za u v)
  neg : ∀ u, R u → R (zg u)
/-- What sets make together: all sums of products. -/
def Mu (P Q : Zw s n → Prop) (u : Zw s n) : Prop := ∀ R : Zw s n → Prop, Cls R → (∀ u v, P u → Q v → R (zm u v)) → R u
theorem Mu.mk {P Q : Zw s n → Prop} {u v : Zw s n} (h : P u) (k : Q v) : Mu P Q (zm u v) := fun R _ hm => hm u v h k
theorem Mu.cls (P Q : Zw s n → Prop) : Cls (Mu P Q) :=
  ⟨fun R c _ => c.zero, fun u v h k R c hm => c.add _ _ (h R c hm) (k R c hm), fun u h R c hm => c.neg _ (h R c hm)⟩
theorem Mu.add {P Q : Zw s n → Prop} {u v : Zw s n} (h : Mu P Q u) (k : Mu P Q v) : Mu P Q (za u v) := (Mu.cls P Q).add _ _ h k
theorem Mu.neg {P Q : Zw s n → Prop} {u : Zw s n} (h : Mu P Q u) : Mu P Q (zg u) := (Mu.cls P Q).neg _ h

/-- Each of the one, times α, is one of the other, times β. -/
def To (α β : Zw s n) (P Q : Zw s n → Prop) : Prop := ∀ u, P u → ∃ v, Q v ∧ zm α u = zm β v
/-- Alike: but for factors, the same. -/
def Sim (P Q : Zw s n → Prop) : Prop := ∃ α β, α ≠ zero ∧ β ≠ zero ∧ To α β P Q ∧ To β α Q P

theorem ic_ne {k : Int} (h : k ≠ 0) : (ic k : Zw s n) ≠ zero := fun e => by
  simp only [ic, Zw.zero, Zw.mk.injEq] at e; exact h e.1
theorem Sim.refl (P : Zw s n → Prop) : Sim P P := ⟨ic 1, ic 1, ic_ne (by decide), ic_ne (by decide), fun u h => ⟨u, h, rfl⟩, fun u h => ⟨u, h, rfl⟩⟩
theorem Sim.symm {P Q : Zw s n → Prop} (h : Sim P Q) : Sim Q P := by
  obtain ⟨α, β, h1, h2, h3, h4⟩ := h
  exact ⟨β, α, h2, h1, h4, h3⟩
theorem To.trans {α β γ δ : Zw s n} {P Q R : Zw s n → Prop} (h : To α β P Q) (k : To γ δ Q R) : To (zm γ α) (zm β δ) P R := by
  intro u hu
  obtain ⟨v, hv, e⟩ := h u hu
  obtain ⟨w, hw, e2⟩ := k v hv
  refine ⟨w, hw, ?_⟩
  rw [mul_assoc, e, mul_assoc, ← e2, ← mul_assoc, ← mul_assoc, Zw.mul_comm γ β]
theorem Sim.trans (hD : s * s + 4 * n < 0) {P Q R : Zw s n → Prop} (h : Sim P Q) (k : Sim Q R) : Sim P R := by
  obtain ⟨α, β, h1, h2, h3, h4⟩ := h
  obtain ⟨γ, δ, k1, k2, k3, k4⟩ := k
  exact ⟨zm γ α, zm β δ, mul_ne hD k1 h1, mul_ne hD h2 k2, h3.trans k3, k4.trans h4⟩

theorem To.cls {α β : Zw s n} {Q : Zw s n → Prop} (c : Cls Q) : Cls (fun u => ∃ v, Q v ∧ zm α u = zm β v) := by
  refine ⟨⟨Zw.zero, c.zero, by rw [mul_zero, mul_zero]⟩, ?_, ?_⟩
  · rintro u v ⟨u', hu, e⟩ ⟨v', hv, e2⟩
    exact ⟨za u' v', c.add _ _ hu hv, by rw [mul_add, mul_add, e, e2]⟩
  · rintro u ⟨u', hu, e⟩
    exact ⟨zg u', c.neg _ hu, by rw [mul_neg, mul_neg, e]⟩
theorem To.mul {α β γ δ : Zw s n} {P P' Q Q' : Zw s n → Prop} (h : To α β P P') (k : To γ δ Q Q') : To (zm α γ) (zm β δ) (Mu P Q) (Mu P' Q') := by
  intro u hu
  refine hu _ (To.cls (Mu.cls P' Q')) ?_
  intro u v h1 h2
  obtain ⟨u', hu', e⟩ := h u h1
  obtain ⟨v', hv', e2⟩ := k v h2
  exact ⟨zm u' v', .mk hu' hv', by rw [mul_four, e, e2, mul_four]⟩
theorem Sim.mul (hD : s * s + 4 * n < 0) {P P' Q Q' : Zw s n → Prop} (h : Sim P P') (k : Sim Q Q') : Sim (Mu P Q) (Mu P' Q') := by
  obtain ⟨α, β, h1, h2, h3, h4⟩ := h
  obtain ⟨γ, δ, k1, k2, k3, k4⟩ := k
  exact ⟨zm α γ, zm β δ, mul_ne hD h1 k1, mul_ne hD h2 k2, h3.mul k3, h4.mul k4⟩

/-- The same set. -/
theorem Sim.same {P Q : Zw s n → Prop} (h : ∀ u, P u ↔ Q u) : Sim P Q := by
  obtain rfl : P = Q := funext fun u => propext (h u)
  exact .refl _
theorem Mu.flip {P Q : Zw s n → Prop} {u : Zw s n} (h : Mu P Q u) : Mu Q P u :=
  h _ (Mu.cls Q P) fun u v h1 h2 => by rw [Zw.mul_comm]; exact .mk h2 h1
theorem Mu.comm (P Q : Zw s n → Prop) : Sim (Mu P Q) (Mu Q P) := .same fun _ => ⟨Mu.flip, Mu.flip⟩
theorem Mu.right {P Q R : Zw s n → Prop} {u : Zw s n} (h : Mu (Mu P Q) R u) : Mu P (Mu Q R) u := by
  refine h _ (Mu.cls _ _) fun u v h1 h2 => ?_
  refine h1 (fun u => Mu P (Mu Q R) (zm u v)) ⟨?_, ?_, ?_⟩ ?_
  · show Mu P (Mu Q R) (zm Zw.zero v)
    rw [zero_mul]; exact (Mu.cls _ _).zero
  · intro x y h3 h4
    show Mu P (Mu Q R) (zm (za x y) v)
    rw [add_mul]; exact h3.add h4
  · intro x h3
    show Mu P (Mu Q R) (zm (zg x) v)
    rw [neg_mul]; exact h3.neg
  · intro x y h3 h4
    show Mu P (Mu Q R) (zm (zm x y) v)
    rw [mul_assoc]; exact .mk h3 (.mk h4 h2)
theorem Mu.mono {P P' Q Q' : Zw s n → Prop} (h : ∀ u, P u → P' u) (k : ∀ u, Q u → Q' u) {u : Zw s n} (hu : Mu P Q u) : Mu P' Q' u :=
  hu _ (Mu.cls _ _) fun u v h1 h2 => .mk (h u h1) (k v h2)
theorem Mu.assoc (P Q R : Zw s n → Prop) : Sim (Mu (Mu P Q) R) (Mu P (Mu Q R)) := .same fun u => ⟨Mu.right, fun h => by
  have h1 : Mu (Mu R Q) P u := Mu.mono (fun _ => Mu.flip) (fun _ => id) h.flip
  exact (Mu.mono (fun _ => id) (fun _ => Mu.flip) h1.right).flip⟩

/-- A form of the discriminant s s + 4 n, with its root k + ω. -/
structure Fk (s n : Int) (f : Qf) (k : Int) : Prop where
  a : 0 < f.a
  b : f.b = 2 * k + s
  ac : f.a * f.c = k * k + s * k - n
/-- Its lattice: whole sums of a and of k + ω. -/
def La (s n : Int) (f : Qf) (k : Int) : Zw s n → Prop := fun u => ∃ x y : Int, u = ⟨f.a * x + k * y, y⟩

theorem Fk.disc {f : Qf} {k : Int} (h : Fk s n f k) : f.disc = s * s + 4 * n := by
  obtain ⟨_, h1, h2⟩ := h
  simp only [Qf.disc]; grind

/-- g is f, turned by m. -/
structure Lk (f g : Qf) (m : Mt) : Prop where
  det : m.p * m.s - m.q * m.r = 1
  like : ∀ x y, f.at (m.p * x + m.q * y) (m.r * x + m.s * y) = g.at x y

theorem Lk.coef {f g : Qf} {m : Mt} (h : Lk f g m) : g.a = f.at m.p m.r ∧ g.c = f.at m.q m.s ∧ g.b = 2 * (m.p * m.q) * f.a + (m.p * m.s + m.q * m.r) * f.b + 2 * (m.r * m.s) * f.c := by
  have h1 := h.like 1 0
  have h2 := h.like 0 1
  have h3 := h.like 1 1
  simp only [Qf.at] at *
  refine ⟨by grind, by grind, by grind⟩

/-- Forms that are alike have lattices that are. -/
theorem Lk.sim (hD : s * s + 4 * n < 0) {f g : Qf} {m : Mt} {k l : Int} (h : Lk f g m) (hf : Fk s n f k) (hg : Fk s n g l) : Sim (La s n f k) (La s n g l) := by
  obtain ⟨e1, e2, e3⟩ := h.coef
  have hdet := h.det
  obtain ⟨f0, f1, f2⟩ := hf
  obtain ⟨g0, g1, g2⟩ := hg
  have el : l = k + (m.p * m.q * f.a + m.q * m.r * f.b + m.r * m.s * f.c) := by
    have : f.b * (m.p * m.s + m.q * m.r) = f.b * (1 + 2 * (m.q * m.r)) := by rw [show m.p * m.s + m.q * m.r = 1 + 2 * (m.q * m.r) by omega]
    grind
  -- α = conj (p a + r τ)
  refine ⟨(⟨f.a * m.p + k * m.r, m.r⟩ : Zw s n).conj, ic f.a, ?_, ?_, ?_, ?_⟩
  · intro e
    simp only [conj, Zw.zero, Zw.mk.injEq] at e
    have hr : m.r = 0 := by omega
    rw [hr] at e hdet
    have hp : f.a * m.p = 0 := by simpa using e.1
    rcases Int.mul_eq_zero.1 hp with h | h
    · omega
    · rw [h] at hdet; simp at hdet
  · intro e
    simp only [ic, Zw.zero, Zw.mk.injEq] at e
    omega
  · rintro u ⟨x, y, rfl⟩
    refine ⟨_, ⟨m.s * x - m.q * y, m.p * y - m.r * x, rfl⟩, ?_⟩
    refine Zw.eq ?_ ?_
    · simp only [zm, conj, ic, Qf.at] at *
      grind
    · simp only [zm, conj, ic, Qf.at] at *
      grind
  · rintro u ⟨x, y, rfl⟩
    refine ⟨_, ⟨m.p * x + m.q * y, m.r * x + m.s * y, rfl⟩, ?_⟩
    refine Zw.eq ?_ ?_
    · simp only [zm, conj, ic, Qf.at] at *
      grind
    · simp only [zm, conj, ic, Qf.at] at *
      grind


theorem norm_at {f : Qf} {k : Int} (hf : Fk s n f k) (x y : Int) : (⟨f.a * x + k * y, y⟩ : Zw s n).norm = f.a * f.at x y := by
  obtain ⟨f0, f1, f2⟩ := hf
  simp only [norm, Qf.at]
  grind

/-- One half of what follows of lattices that are alike: m, but for its determinant. -/
theorem To.half {f g : Qf} {k l : Int} (hf : Fk s n f k) (hg : Fk s n g l) {α β : Zw s n} (h : To β α (La s n g l) (La s n f k)) :
    ∃ m : Mt, (∀ x y : Int, zm β ⟨g.a * x + l * y, y⟩ = zm α ⟨f.a * (m.p * x + m.q * y) + k * (m.r * x + m.s * y), m.r * x + m.s * y⟩) ∧ α.norm * f.a * (m.p * m.s - m.q * m.r) = β.norm * g.a := by
  obtain ⟨u, ⟨p, r, rfl⟩, e1⟩ := h ⟨g.a * 1 + l * 0, 0⟩ ⟨1, 0, rfl⟩
  obtain ⟨v, ⟨q, t, rfl⟩, e2⟩ := h ⟨g.a * 0 + l * 1, 1⟩ ⟨0, 1, rfl⟩
  refine ⟨⟨p, q, r, t⟩, ?_, ?_⟩
  · intro x y
    have e3 := congrArg (fun z => zm (ic x) z) e1
    have e4 := congrArg (fun z => zm (ic y) z) e2
    simp only [Zw.mk.injEq, zm, ic] at *
    constructor <;> grind
  · -- the part at ω of conj (β g.a) * (β τ_g) = conj (α u) (α v)
    have e5 : (zm (zm β ⟨g.a * 1 + l * 0, 0⟩).conj (zm β ⟨g.a * 0 + l * 1, 1⟩)).y = (zm (zm α ⟨f.a * p + k * r, r⟩).conj (zm α ⟨f.a * q + k * t, t⟩)).y := by rw [e1, e2]
    have e6 : (zm (zm β ⟨g.a * 1 + l * 0, 0⟩).conj (zm β ⟨g.a * 0 + l * 1, 1⟩)).y = β.norm * g.a := by
      simp only [zm, conj, norm]; grind
    have e7 : (zm (zm α ⟨f.a * p + k * r, r⟩).conj (zm α ⟨f.a * q + k * t, t⟩)).y = α.norm * f.a * (p * t - q * r) := by
      simp only [zm, conj, norm]; grind
    rw [e6, e7] at e5
    exact e5.symm

theorem one_of_mul {A B d e : Int} (hA : 0 < A) (hB : 0 < B) (h1 : B * d = A) (h2 : A * e = B) : d = 1 := by
  have hd : 0 < d := by
    rcases Int.lt_trichotomy d 0 with h | h | h
    · have := Int.mul_neg_of_pos_of_neg hB h; omega
    · subst h; simp at h1; omega
    · exact h
  have he : 0 < e := by
    rcases Int.lt_trichotomy e 0 with h | h | h
    · have := Int.mul_neg_of_pos_of_neg hA h; omega
    · subst h; simp at h2; omega
    · exact h
  have h3 : B * (d * e) = B * 1 := by rw [← Int.mul_assoc, h1, h2, Int.mul_one]
  have h4 := Int.eq_of_mul_eq_mul_left (by omega) h3
  exact Int.eq_one_of_mul_eq_one_right (by omega) h4

/-- Forms whose lattices are alike are alike. -/
theorem Sim.lk (hD : s * s + 4 * n < 0) {f g : Qf} {k l : Int} (hf : Fk s n f k) (hg : Fk s n g l) (h : Sim (La s n f k) (La s n g l)) : ∃ m, Lk f g m := by
  obtain ⟨α, β, h1, h2, h3, h4⟩ := h
  obtain ⟨m, em, dm⟩ := h4.half hf hg
  obtain ⟨m', em', dm'⟩ := h3.half hg hf
  have p1 := norm_pos hD h1
  have p2 := norm_pos hD h2
  have q1 : 0 < α.norm * f.a := Int.mul_pos p1 hf.a
  have q2 : 0 < β.norm * g.a := Int.mul_pos p2 hg.a
  have hd := one_of_mul q2 q1 dm dm'
  refine ⟨m, hd, fun x y => ?_⟩
  have e := congrArg Zw.norm (em x y)
  rw [norm_mul, norm_mul, norm_at hg, norm_at hf] at e
  rw [hd, Int.mul_one] at dm
  have e2 : (β.norm * g.a) * g.at x y = (β.norm * g.a) * f.at (m.p * x + m.q * y) (m.r * x + m.s * y) := by
    rw [← dm, Int.mul_assoc, Int.mul_assoc, ← e]
    grind
  exact (Int.eq_of_mul_eq_mul_left (by omega) e2).symm


theorem La.zero (f : Qf) (k : Int) : La s n f k zero := ⟨0, 0, by simp [Zw.zero]⟩
theorem La.add {f : Qf} {k : Int} {u v : Zw s n} (h : La s n f k u) (h' : La s n f k v) : La s n f k (za u v) := by
  obtain ⟨x, y, rfl⟩ := h
  obtain ⟨x', y', rfl⟩ := h'
  exact ⟨x + x', y + y', by refine Zw.eq ?_ ?_ <;> simp only [za] <;> grind⟩
theorem La.neg {f : Qf} {k : Int} {u : Zw s n} (h : La s n f k u) : La s n f k (zg u) := by
  obtain ⟨x, y, rfl⟩ := h
  exact ⟨-x, -y, by refine Zw.eq ?_ ?_ <;> simp only [zg] <;> grind⟩
theorem La.one (s n : Int) (f : Qf) (k : Int) : La s n f k ⟨f.a, 0⟩ := ⟨1, 0, by simp⟩
theorem La.root (s n : Int) (f : Qf) (k : Int) : La s n f k ⟨k, 1⟩ := ⟨0, 1, by simp⟩

theorem Mu.nat {P Q : Zw s n → Prop} {u : Zw s n} (h : Mu P Q u) : ∀ k : Nat, Mu P Q (zm (ic (k : Int)) u)
  | 0 => by rw [ic_mul]; simp; exact (Mu.cls P Q).zero
  | k + 1 => by
    have := Mu.add (Mu.nat h k) h
    rw [show zm (ic ((k + 1 : Nat) : Int)) u = za (zm (ic (k : Int)) u) u by
      rw [Int.natCast_add, Int.natCast_one]
      refine Zw.eq ?_ ?_ <;> simp only [zm, za, ic] <;> grind]
    exact this
theorem Mu.int {P Q : Zw s n → Prop} {u : Zw s n} (h : Mu P Q u) (k : Int) : Mu P Q (zm (ic k) u) := by
  rcases Int.le_total 0 k with hk | hk
  · have := h.nat k.toNat
    rwa [Int.toNat_of_nonneg hk] at this
  · have := (h.nat (-k).toNat).neg
    rw [Int.toNat_of_nonneg (by omega)] at this
    rw [show zm (ic k) u = zg (zm (ic (-k)) u) by refine Zw.eq ?_ ?_ <;> simp only [zm, zg, ic] <;> grind]
    exact this

/-- A product of lattices, from its four products. -/
theorem mu_gens {f g : Qf} {k l : Int} {u : Zw s n} {Q : Zw s n → Prop} (c : Cls Q) (qi : ∀ (i : Int) u, Q u → Q (zm (ic i) u))
    (q1 : Q (zm ⟨f.a, 0⟩ ⟨g.a, 0⟩)) (q2 : Q (zm ⟨f.a, 0⟩ ⟨l, 1⟩)) (q3 : Q (zm ⟨k, 1⟩ ⟨g.a, 0⟩)) (q4 : Q (zm ⟨k, 1⟩ ⟨l, 1⟩)) (h : Mu (La s n f k) (La s n g l) u) : Q u := by
  refine h Q c ?_
  rintro u v ⟨x, y, rfl⟩ ⟨x', y', rfl⟩
  have := c.add _ _ (c.add _ _ (qi (x * x') _ q1) (qi (x * y') _ q2)) (c.add _ _ (qi (y * x') _ q3) (qi (y * y') _ q4))
  rw [show zm (⟨f.a * x + k * y, y⟩ : Zw s n) ⟨g.a * x' + l * y', y'⟩ = za (za (zm (ic (x * x')) (zm ⟨f.a, 0⟩ ⟨g.a, 0⟩)) (zm (ic (x * y')) (zm ⟨f.a, 0⟩ ⟨l, 1⟩))) (za (zm (ic (y * x')) (zm ⟨k, 1⟩ ⟨g.a, 0⟩)) (zm (ic (y * y')) (zm ⟨k, 1⟩ ⟨l, 1⟩))) by
    refine Zw.eq ?_ ?_ <;> simp only [zm, za, ic] <;> grind]
  exact this

theorem co_a {e A B S k l n s fa fc ga gc ha w1 w2 w3 w4 : Int} (hA : fa = e * A) (hB : ga = e * B) (hC : ha = A * B) (hS : k + l + s = e * S) (f2 : fa * fc = k * k + s * k - n) (g2 : ga * gc = l * l + s * l - n) (hw : w1 * e + w2 * (l - k) + w3 * fc + w4 * gc = 1) :
    e * ha = w1 * (fa * ga) + w2 * (B * (fa * l) - A * (k * ga)) + w3 * (S * (k * ga) - B * (k * l + n)) + w4 * (S * (fa * l) - A * (k * l + n)) := by
  have q1 : e * S * k - (k * l + n) = e * A * fc := by rw [← hS, ← hA, f2]; grind
  have q2 : e * S * l - (k * l + n) = e * B * gc := by rw [← hS, ← hB, g2]; grind
  subst hA hB hC
  have q3 : S * (k * (e * B)) - B * (k * l + n) = B * (e * A * fc) := by rw [← q1]; clear q1 q2 hw f2 g2 hS; grind
  have q4 : S * (e * A * l) - A * (k * l + n) = A * (e * B * gc) := by rw [← q2]; clear q1 q2 q3 hw f2 g2 hS; grind
  rw [q3, q4]
  have : e * (A * B) * (w1 * e + w2 * (l - k) + w3 * fc + w4 * gc) = e * (A * B) * 1 := by rw [hw]
  clear q1 q2 q3 q4 hw f2 g2 hS
  grind

theorem co_m {e A B S k l m n fa ga ha x y z t1 t2 t3 : Int} (hA : fa = e * A) (hB : ga = e * B) (hC : ha = A * B) (hx : x * A + y * B + z * S = 1) (h2 : l - m = B * t2) (h1 : k - m = A * t1) (h3 : k * l + n - e * S * m = e * A * B * t3) :
    e * m = x * (fa * l) + y * (k * ga) + z * (k * l + n) - (x * t2 + y * t1 + z * t3) * (e * ha) := by
  subst hA hB hC
  have el : l = m + B * t2 := by omega
  have ek : k = m + A * t1 := by omega
  have e3 : k * l + n = e * S * m + e * A * B * t3 := by omega
  rw [e3]
  have : e * m * (x * A + y * B + z * S) = e * m * 1 := by rw [hx]
  clear e3 h1 h2 h3 hx
  subst el ek
  grind

/-- e times one of a lattice. -/
def Ti (e : Int) (P : Zw s n → Prop) : Zw s n → Prop := fun u => ∃ v, P v ∧ u = zm (ic e) v

/-- What is asked of a form that is composed of f and g. -/
structure Co (s n : Int) (f g h : Qf) (k l m : Int) : Prop where
  gen : ∃ e A B S t1 t2 t3 x y z w1 w2 w3 w4 : Int, e ≠ 0 ∧ f.a = e * A ∧ g.a = e * B ∧ h.a = A * B ∧ k + l + s = e * S ∧ x * A + y * B + z * S = 1 ∧ l - m = B * t2 ∧ k - m = A * t1 ∧ k * l + n - e * S * m = e * A * B * t3 ∧ w1 * e + w2 * (l - k) + w3 * f.c + w4 * g.c = 1

theorem Co.mu {f g h : Qf} {k l m : Int} (hf : Fk s n f k) (hg : Fk s n g l) (hh : Fk s n h m) (c : Co s n f g h k l m) : ∃ e : Int, e ≠ 0 ∧ ∀ u, Mu (La s n f k) (La s n g l) u ↔ Ti e (La s n h m) u := by
  obtain ⟨e, A, B, S, t1, t2, t3, x, y, z, w1, w2, w3, w4, he, hA, hB, hC, hS, hx, h2, h1, h3, hw⟩ := c.gen
  obtain ⟨f0, f1, f2⟩ := hf
  obtain ⟨g0, g1, g2⟩ := hg
  refine ⟨e, he, fun u => ⟨fun hu => ?_, ?_⟩⟩
  · refine mu_gens (Q := Ti e (La s n h m)) ⟨⟨_, La.zero h m, by rw [mul_zero]⟩, ?_, ?_⟩ ?_ ?_ ?_ ?_ ?_ hu
    · rintro u v ⟨u', hu', rfl⟩ ⟨v', hv', rfl⟩
      exact ⟨za u' v', hu'.add hv', by rw [mul_add]⟩
    · rintro u ⟨u', hu', rfl⟩
      exact ⟨zg u', hu'.neg, by rw [mul_neg]⟩
    · rintro i u ⟨u', ⟨x, y, rfl⟩, rfl⟩
      exact ⟨_, ⟨i * x, i * y, rfl⟩, by refine Zw.eq ?_ ?_ <;> simp only [zm, ic] <;> grind⟩
    · refine ⟨_, ⟨e, 0, rfl⟩, ?_⟩
      rw [hA, hB, hC]
      refine Zw.eq ?_ ?_ <;> simp only [zm, ic] <;> clear hw h1 h2 h3 hx hS f1 f2 g1 g2 hA hB hC <;> grind
    · refine ⟨_, ⟨t2, A, rfl⟩, ?_⟩
      rw [hA, hC, show l = m + B * t2 by omega]
      refine Zw.eq ?_ ?_ <;> simp only [zm, ic] <;> clear hw h1 h2 h3 hx hS f1 f2 g1 g2 hA hB hC <;> grind
    · refine ⟨_, ⟨t1, B, rfl⟩, ?_⟩
      rw [hB, hC, show k = m + A * t1 by omega]
      refine Zw.eq ?_ ?_ <;> simp only [zm, ic] <;> clear hw h1 h2 h3 hx hS f1 f2 g1 g2 hA hB hC <;> grind
    · refine ⟨_, ⟨t3, S, rfl⟩, ?_⟩
      rw [hC]
      refine Zw.eq ?_ ?_
      · simp only [zm, ic]
        have : k * l + n = e * S * m + e * A * B * t3 := by omega
        clear hw h1 h2 h3 hx hS f1 f2 g1 g2 hA hB hC
        grind
      · simp only [zm, ic]
        clear hw h1 h2 h3 hx f1 f2 g1 g2 hA hB hC
        grind
  · rintro ⟨v, ⟨X, Y, rfl⟩, rfl⟩
    have m1 : Mu (La s n f k) (La s n g l) (zm ⟨f.a, 0⟩ ⟨g.a, 0⟩) := .mk (La.one ..) (La.one ..)
    have m2 : Mu (La s n f k) (La s n g l) (zm ⟨f.a, 0⟩ ⟨l, 1⟩) := .mk (La.one ..) (La.root ..)
    have m3 : Mu (La s n f k) (La s n g l) (zm ⟨k, 1⟩ ⟨g.a, 0⟩) := .mk (La.root ..) (La.one ..)
    have m4 : Mu (La s n f k) (La s n g l) (zm ⟨k, 1⟩ ⟨l, 1⟩) := .mk (La.root ..) (La.root ..)
    -- e h.a is there
    have a1 : Mu (La s n f k) (La s n g l) ⟨e * h.a, 0⟩ := by
      have i1 := m1.int w1
      have i2 := ((m2.int B).add ((m3.int (-A)))).int w2
      have i3 := ((m3.int S).add (m4.int (-B))).int w3
      have i4 := ((m2.int S).add (m4.int (-A))).int w4
      have := (i1.add i2).add (i3.add i4)
      rw [show (⟨e * h.a, 0⟩ : Zw s n) = za (za (zm (ic w1) (zm ⟨f.a, 0⟩ ⟨g.a, 0⟩)) (zm (ic w2) (za (zm (ic B) (zm ⟨f.a, 0⟩ ⟨l, 1⟩)) (zm (ic (-A)) (zm ⟨k, 1⟩ ⟨g.a, 0⟩))))) (za (zm (ic w3) (za (zm (ic S) (zm ⟨k, 1⟩ ⟨g.a, 0⟩)) (zm (ic (-B)) (zm ⟨k, 1⟩ ⟨l, 1⟩)))) (zm (ic w4) (za (zm (ic S) (zm ⟨f.a, 0⟩ ⟨l, 1⟩)) (zm (ic (-A)) (zm ⟨k, 1⟩ ⟨l, 1⟩))))) by
        refine Zw.eq ?_ ?_
        · simp only [zm, za, ic]
          rw [co_a hA hB hC hS f2 g2 hw]
          clear hw h1 h2 h3 hx hS f1 f2 g1 g2 hA hB hC
          grind
        · simp only [zm, za, ic]
          rw [hA, hB]
          clear hw h1 h2 h3 hx f1 f2 g1 g2 hA hB hC
          grind]
      exact this
    have a2 : Mu (La s n f k) (La s n g l) ⟨e * m, e⟩ := by
      have i := ((m2.int x).add (m3.int y)).add ((m4.int z).add (a1.int (-(x * t2 + y * t1 + z * t3))))
      rw [show (⟨e * m, e⟩ : Zw s n) = za (za (zm (ic x) (zm ⟨f.a, 0⟩ ⟨l, 1⟩)) (zm (ic y) (zm ⟨k, 1⟩ ⟨g.a, 0⟩))) (za (zm (ic z) (zm ⟨k, 1⟩ ⟨l, 1⟩)) (zm (ic (-(x * t2 + y * t1 + z * t3))) ⟨e * h.a, 0⟩)) by
        refine Zw.eq ?_ ?_
        · simp only [zm, za, ic]
          rw [co_m hA hB hC hx h2 h1 h3]
          clear hw h1 h2 h3 hx hS f1 f2 g1 g2 hA hB hC
          grind
        · simp only [zm, za, ic]
          rw [hA, hB]
          have : e * (x * A + y * B + z * S) = e * 1 := by rw [hx]
          clear hw h1 h2 h3 hx f1 f2 g1 g2 hA hB hC
          grind]
      exact i
    have := (a1.int X).add (a2.int Y)
    rw [show zm (ic e) (⟨h.a * X + m * Y, Y⟩ : Zw s n) = za (zm (ic X) ⟨e * h.a, 0⟩) (zm (ic Y) ⟨e * m, e⟩) by refine Zw.eq ?_ ?_ <;> simp only [zm, za, ic] <;> grind]
    exact this


theorem Co.sim {f g h : Qf} {k l m : Int} (hf : Fk s n f k) (hg : Fk s n g l) (hh : Fk s n h m) (c : Co s n f g h k l m) : Sim (Mu (La s n f k) (La s n g l)) (La s n h m) := by
  obtain ⟨e, he, h1⟩ := c.mu hf hg hh
  refine ⟨ic 1, ic e, ic_ne (by decide), ic_ne he, fun u hu => ?_, fun u hu => ?_⟩
  · obtain ⟨v, hv, e1⟩ := (h1 u).1 hu
    exact ⟨v, hv, by rw [← e1]; refine Zw.eq ?_ ?_ <;> simp only [zm, ic] <;> grind⟩
  · exact ⟨zm (ic e) u, (h1 _).2 ⟨u, hu, rfl⟩, by refine Zw.eq ?_ ?_ <;> simp only [zm, ic] <;> grind⟩

/-- Without a common divisor. -/
def Cp (a b : Int) : Prop := ∃ x y : Int, x * a + y * b = 1
theorem Cp.symm {a b : Int} (h : Cp a b) : Cp b a := by obtain ⟨x, y, e⟩ := h; exact ⟨y, x, by omega⟩
theorem Cp.mul {a b c : Int} (h : Cp a b) (k : Cp a c) : Cp a (b * c) := by
  obtain ⟨x, y, e⟩ := h
  obtain ⟨z, w, e2⟩ := k
  exact ⟨x * z * a + x * w * c + y * b * z, y * w, by
    have : (x * a + y * b) * (z * a + w * c) = 1 := by rw [e, e2]; rfl
    grind⟩
theorem Cp.of_mul {a b c : Int} (h : Cp a (b * c)) : Cp a b := by obtain ⟨x, y, e⟩ := h; exact ⟨x, y * c, by grind⟩
theorem Cp.of_dvd {a b c : Int} (h : Cp a b) (d : c ∣ b) : Cp a c := by obtain ⟨q, rfl⟩ := d; exact h.of_mul
theorem Cp.one (a : Int) : Cp a 1 := ⟨0, 1, by simp⟩
theorem Cp.dvd {a b c : Int} (h : Cp a b) (d : a ∣ b * c) : a ∣ c := by
  obtain ⟨x, y, e⟩ := h
  obtain ⟨q, hq⟩ := d
  exact ⟨x * c + y * q, by have : (x * a + y * b) * c = c := by rw [e]; simp
                           grind⟩
theorem Cp.add {a b : Int} (c : Int) (h : Cp a b) : Cp a (b + a * c) := by
  obtain ⟨x, y, e⟩ := h; exact ⟨x - y * c, y, by grind⟩

theorem bez_nat : ∀ m n : Nat, ∃ x y : Int, x * m + y * n = (Nat.gcd m n : Nat) := by
  intro m
  induction m using Nat.strongRecOn with
  | ind m ih =>
    intro n
    by_cases hm : m = 0
    · subst hm; exact ⟨0, 1, by simp⟩
    · obtain ⟨x, y, e⟩ := ih (n % m) (Nat.mod_lt _ (by omega)) m
      refine ⟨y - x * (n / m : Nat), x, ?_⟩
      rw [Nat.gcd_rec, ← e]
      have h1 : (n : Int) = (m : Int) * (n / m : Nat) + (n % m : Nat) := by
        rw [← Int.natCast_mul, ← Int.natCast_add, Nat.div_add_mod]
      generalize ((n / m : Nat) : Int) = q at *
      generalize ((n % m : Nat) : Int) = r at *
      grind
theorem bez (a b : Int) : ∃ x y : Int, x * a + y * b = (Int.gcd a b : Nat) := by
  obtain ⟨x, y, e⟩ := bez_nat a.natAbs b.natAbs
  have sg : ∀ a : Int, ∃ t : Int, (a.natAbs : Int) = t * a := fun a => by
    rcases Int.natAbs_eq a with h | h
    · exact ⟨1, by omega⟩
    · exact ⟨-1, by omega⟩
  obtain ⟨t, ht⟩ := sg a
  obtain ⟨r, hr⟩ := sg b
  refine ⟨x * t, y * r, ?_⟩
  rw [ht, hr] at e
  rw [Int.mul_assoc, Int.mul_assoc]
  exact e
theorem Cp.of_gcd {a b : Int} (h : Int.gcd a b = 1) : Cp a b := by
  obtain ⟨x, y, e⟩ := bez a b
  exact ⟨x, y, by rw [e, h]; rfl⟩
theorem Cp.gcd {a b : Int} (h : Cp a b) : Int.gcd a b = 1 := by
  obtain ⟨x, y, e⟩ := h
  have h1 : ((Int.gcd a b : Nat) : Int) ∣ 1 := by
    rw [← e]
    exact Int.dvd_add (Int.dvd_trans (Int.gcd_dvd_left ..) (Int.dvd_mul_left ..)) (Int.dvd_trans (Int.gcd_dvd_right ..) (Int.dvd_mul_left ..))
  have := Int.natCast_dvd_natCast.1 (show ((Int.gcd a b : Nat) : Int) ∣ ((1 : Nat) : Int) from h1)
  exact Nat.dvd_one.1 this

/-- No number above 1 divides all three. -/
def Pm (f : Qf) : Prop := ∃ x y z : Int, x * f.a + y * f.b + z * f.c = 1
theorem Pm.of_gcd {f : Qf} (h : Int.gcd (Int.gcd f.a f.b) f.c = 1) : Pm f := by
  obtain ⟨x, y, e⟩ := bez f.a f.b
  obtain ⟨z, w, e2⟩ := Cp.of_gcd h
  exact ⟨z * x, z * y, w, by rw [← e] at e2; grind⟩

/-- How the four of a composition come of a form without a divisor. -/
theorem four_of {f : Qf} {k l e A S c2 : Int} (hb : f.b = 2 * k + s) (hA : f.a = e * A) (hS : k + l + s = e * S) (h : Pm f) : ∃ w1 w2 w3 w4 : Int, w1 * e + w2 * (l - k) + w3 * f.c + w4 * c2 = 1 := by
  obtain ⟨x, y, z, e1⟩ := h
  refine ⟨x * A + y * S, -y, z, 0, ?_⟩
  rw [hA, hb] at e1
  have : 2 * k + s = e * S - (l - k) := by omega
  rw [this] at e1
  grind

/-- One b for both, and As without a common divisor. -/
theorem Co.both {f g h : Qf} {k l m t1 t2 : Int} (hf : Fk s n f k) (hg : Fk s n g l) (hh : Fk s n h m) (pf : Pm f) (cp : Cp f.a g.a) (ha : h.a = f.a * g.a) (h1 : k - m = f.a * t1) (h2 : l - m = g.a * t2) : Co s n f g h k l m := by
  obtain ⟨x, y, e⟩ := cp
  obtain ⟨w1, w2, w3, w4, hw⟩ := four_of (s := s) (k := k) (l := l) (e := 1) (A := f.a) (S := k + l + s) (c2 := g.c) hf.b (by omega) (by omega) pf
  refine ⟨1, f.a, g.a, k + l + s, t1, t2, t1 * t2 - h.c, x, y, 0, w1, w2, w3, w4, by decide, by omega, by omega, ha, by omega, by simpa using e, h2, h1, ?_, hw⟩
  have e3 := hh.ac
  rw [ha] at e3
  have ek : k = m + f.a * t1 := by omega
  have el : l = m + g.a * t2 := by omega
  rw [ek, el]
  grind

/-- The first form does nothing. -/
theorem Co.first {f g : Qf} {k : Int} (hf : Fk s n f k) (hg : Fk s n g 0) (ga : g.a = 1) : Co s n f g f k 0 k := by
  refine ⟨1, f.a, 1, k + s, 0, -k, -f.c, 0, 1, 0, 1, 0, 0, 0, by decide, by omega, by omega, by omega, by omega, by omega, by omega, by omega, ?_, by omega⟩
  have := hf.ac
  grind
/-- Its opposite undoes a form. -/
theorem Co.back {f g h : Qf} {k : Int} (hf : Fk s n f k) (pf : Pm f) (ga : g.a = f.a) (gc : g.c = f.c) (ha : h.a = 1) : Co s n f g h k (-k - s) 0 := by
  obtain ⟨x, y, z, e⟩ := pf
  refine ⟨f.a, 1, 1, 0, k, -k - s, -f.c, 1, 0, 0, x, -y, z, 0, by have := hf.a; omega, by omega, by omega, by omega, by omega, by omega, by omega, by omega, ?_, ?_⟩
  · have := hf.ac
    grind
  · have := hf.b
    grind

/-- A form's root. -/
theorem Fk.of {f : Qf} (ha : 0 < f.a) (hs : s = 0 ∨ s = 1) (h : f.disc = s * s + 4 * n) : Fk s n f ((f.b - s) / 2) := by
  have e : f.b % 2 = s := by
    simp only [Qf.disc] at h
    have h4 : (f.b * f.b - s * s) % 4 = 0 := by
      rw [show f.b * f.b - s * s = 4 * (f.a * f.c + n) by grind]; omega
    have hb : f.b = 2 * (f.b / 2) + f.b % 2 := by omega
    have hr : f.b % 2 = 0 ∨ f.b % 2 = 1 := by omega
    generalize f.b / 2 = q at *
    generalize f.b % 2 = r at *
    rw [hb] at h4
    rw [show (2 * q + r) * (2 * q + r) - s * s = 4 * (q * q + q * r) + (r * r - s * s) by grind] at h4
    rcases hr with rfl | rfl <;> rcases hs with rfl | rfl <;> simp at h4 ⊢ <;> omega
  have hb : f.b = 2 * ((f.b - s) / 2) + s := by omega
  refine ⟨ha, hb, ?_⟩
  generalize (f.b - s) / 2 = k at hb
  simp only [Qf.disc, hb] at h
  grind


theorem Lk.of {f g : Qf} {m : Mt} (h : Rd f g m) : Lk f g m := ⟨h.det, h.like⟩
theorem Lk.refl (f : Qf) : Lk f f ⟨1, 0, 0, 1⟩ := ⟨by decide, fun x y => by simp⟩
/-- Two reduced forms whose lattices are alike are the same. -/
theorem Sim.one (hD : s * s + 4 * n < 0) {f g : Qf} {k l : Int} (hf : Fk s n f k) (hg : Fk s n g l) (rf : f.redB = true) (rg : g.redB = true) (h : Sim (La s n f k) (La s n g l)) : f = g := by
  obtain ⟨m, hm⟩ := h.lk hD hf hg
  exact red_one (m := ⟨1, 0, 0, 1⟩) (m' := m) ⟨rf, by decide, fun x y => by simp⟩ ⟨rg, hm.det, hm.like⟩ (by rw [hf.disc]; exact hD)

end Go.Proofs.Ytijkanilpblogae.MQ
