
section
/- Plain facts on whole numbers: Euclid's way with its cofactors, signs and bounds. Nothing of the program. -/
set_option linter.unusedSimpArgs false
set_option maxRecDepth 100000
namespace Go.Proofs.YtcnfhndejkngkaaGreatDoor.MathA

theorem gcd_step (a b : Int) : Int.gcd b (a.tmod b) = Int.gcd a b := by
  unfold Int.gcd
  rw [Int.natAbs_tmod, Nat.gcd_comm b.natAbs, ← Nat.gcd_rec, Nat.gcd_comm]

theorem natAbs_tmod_lt (a b : Int) (hb : b ≠ 0) : (a.tmod b).natAbs < b.natAbs := by
  rw [Int.natAbs_tmod]; exact Nat.mod_lt _ (by omega)

/-- The state of the loop: what it started from, and the signs. -/
structure Eu (A B a b u v nu nv : Int) : Prop where
  lin : a = u * A + v * B
  lin2 : b = nu * A + nv * B
  st : ∃ (p r t s : Int) (α β U N V M : Nat), (p = 1 ∨ p = -1) ∧ (r = 1 ∨ r = -1) ∧ (t = 1 ∨ t = -1) ∧ (s = 1 ∨ s = -1) ∧
    a = p * α ∧ b = r * β ∧ u = -(p * r * t) * U ∧ nu = t * N ∧ v = -(p * r * s) * V ∧ nv = s * M ∧
    α * N + β * U = B.natAbs ∧ α * M + β * V = A.natAbs ∧ Nat.gcd α β = Int.gcd A B ∧
    U ≤ 1000000000000000000 ∧ N ≤ 1000000000000000000 ∧ V ≤ 1000000000000000000 ∧ M ≤ 1000000000000000000 ∧
    α ≤ 1000000000000000000 ∧ β ≤ 1000000000000000000 ∧ ((N = 0 ∧ U = 1 ∧ 0 < β) ∨ (β < α ∧ 1 ≤ N ∧ (β = 0 → U < N)))

theorem sgn_form (x : Int) : ∃ p : Int, (p = 1 ∨ p = -1) ∧ x = p * (x.natAbs : Nat) := by
  by_cases h : 0 ≤ x
  · exact ⟨1, Or.inl rfl, by omega⟩
  · exact ⟨-1, Or.inr rfl, by omega⟩

theorem eu_start (A B : Int) (hA : A.natAbs ≤ 1000000000000000000) (hB : B.natAbs ≤ 1000000000000000000) (hb : B ≠ 0) : Eu A B A B 1 0 0 1 := by
  refine ⟨by omega, by omega, ?_⟩
  obtain ⟨p, hp, ep⟩ := sgn_form A
  obtain ⟨r, hr, er⟩ := sgn_form B
  refine ⟨p, r, -(p * r), 1, A.natAbs, B.natAbs, 1, 0, 0, 1, hp, hr, ?_, Or.inl rfl, ep, er, ?_, by simp, by simp, by simp, by omega, by omega, rfl, by omega, by omega, by omega, by omega, hA, hB, Or.inl ⟨rfl, rfl, by omega⟩⟩
  · rcases hp with rfl | rfl <;> rcases hr with rfl | rfl <;> decide
  · rcases hp with rfl | rfl <;> rcases hr with rfl | rfl <;> decide

theorem tdiv_sgn (p r : Int) (α β : Nat) (hp : p = 1 ∨ p = -1) (hr : r = 1 ∨ r = -1) : (p * α).tdiv (r * β) = p * r * ((α / β : Nat) : Int) := by
  have e : (α : Int).tdiv (β : Int) = ((α / β : Nat) : Int) := (Int.ofNat_tdiv α β).symm
  rcases hp with rfl | rfl <;> rcases hr with rfl | rfl <;> simp [Int.neg_tdiv, Int.tdiv_neg, -Int.natCast_ediv, e]

theorem div_bound (α β K : Nat) (h : α ≤ K) : α / β * β ≤ K := Nat.le_trans (Nat.div_mul_le_self α β) h

/-- One round. -/
theorem eu_step {A B a b u v nu nv : Int} (hA : A.natAbs ≤ 1000000000000000000) (hB : B.natAbs ≤ 1000000000000000000) (h : Eu A B a b u v nu nv) (hb : b ≠ 0) :
    Eu A B b (a - a.tdiv b * b) nu nv (u - a.tdiv b * nu) (v - a.tdiv b * nv) ∧
    (a - a.tdiv b * b).natAbs < b.natAbs ∧
    (a.tdiv b).natAbs ≤ 1000000000000000000 ∧ (a.tdiv b * b).natAbs ≤ 1000000000000000000 ∧ (a.tdiv b * nu).natAbs ≤ 1000000000000000000 ∧ (a.tdiv b * nv).natAbs ≤ 1000000000000000000 := by
  obtain ⟨l1, l2, p, r, t, s, α, β, U, N, V, M, hp, hr, ht, hs, ea, eb, eu, enu, ev, env, i1, i2, ig, bU, bN, bV, bM, bα, bβ, hd⟩ := h
  have hβ : 0 < β := by
    rcases Nat.eq_zero_or_pos β with h0 | h0
    · subst h0; simp at eb; exact absurd eb hb
    · exact h0
  have q1 : a.tdiv b = p * r * ((α / β : Nat) : Int) := by rw [ea, eb]; exact tdiv_sgn p r α β hp hr
  have hmod : α % β < β := Nat.mod_lt _ hβ
  have hdm : β * (α / β) + α % β = α := Nat.div_add_mod α β
  generalize hq : α / β = q at *
  generalize hρ : α % β = ρ at *
  -- the new cofactors
  have j1 : β * (U + q * N) + ρ * N = B.natAbs := by
    rw [← i1, ← hdm]; simp only [Nat.mul_add, Nat.add_mul, Nat.mul_assoc, Nat.mul_comm, Nat.mul_left_comm]; omega
  have j2 : β * (V + q * M) + ρ * M = A.natAbs := by
    rw [← i2, ← hdm]; simp only [Nat.mul_add, Nat.add_mul, Nat.mul_assoc, Nat.mul_comm, Nat.mul_left_comm]; omega
  have k1 : U + q * N ≤ B.natAbs := by
    have : 1 * (U + q * N) ≤ β * (U + q * N) := Nat.mul_le_mul_right _ hβ
    omega
  have k2 : V + q * M ≤ A.natAbs := by
    have : 1 * (V + q * M) ≤ β * (V + q * M) := Nat.mul_le_mul_right _ hβ
    omega
  have kq : q ≤ α := by
    have : 1 * q ≤ β * q := Nat.mul_le_mul_right _ hβ
    omega
  have e1 : a.tdiv b * b = p * ((q * β : Nat) : Int) := by
    rw [q1, eb]; rcases hp with rfl | rfl <;> rcases hr with rfl | rfl <;> simp [Int.neg_mul, Int.mul_neg]
  have e2 : a.tdiv b * nu = p * r * t * ((q * N : Nat) : Int) := by
    rw [q1, enu]; rcases hp with rfl | rfl <;> rcases hr with rfl | rfl <;> rcases ht with rfl | rfl <;> simp [Int.neg_mul, Int.mul_neg]
  have e3 : a.tdiv b * nv = p * r * s * ((q * M : Nat) : Int) := by
    rw [q1, env]; rcases hp with rfl | rfl <;> rcases hr with rfl | rfl <;> rcases hs with rfl | rfl <;> simp [Int.neg_mul, Int.mul_neg]
  have e4 : a - a.tdiv b * b = p * (ρ : Int) := by
    rw [e1, ea]; have : (α : Int) = ((q * β : Nat) : Int) + ρ := by rw [← hdm, Nat.mul_comm β q]; omega
    rw [this]; rcases hp with rfl | rfl <;> omega
  refine ⟨⟨l2, ?_, r, p, -(p * r * t), -(p * r * s), β, ρ, N, U + q * N, M, V + q * M, hr, hp, ?_, ?_, eb, e4, ?_, ?_, ?_, ?_, j1, j2, ?_, bN, by omega, bM, by omega, bβ, by omega, ?_⟩, ?_, ?_, ?_, ?_, ?_⟩
  · have x1 : (u - a.tdiv b * nu) * A + (v - a.tdiv b * nv) * B = (u * A + v * B) - a.tdiv b * (nu * A + nv * B) := by
      simp only [Int.sub_mul, Int.mul_add, Int.mul_assoc]; omega
    rw [x1, ← l1, ← l2]
  · rcases hp with rfl | rfl <;> rcases hr with rfl | rfl <;> rcases ht with rfl | rfl <;> decide
  · rcases hp with rfl | rfl <;> rcases hr with rfl | rfl <;> rcases hs with rfl | rfl <;> decide
  · rw [enu]; rcases hp with rfl | rfl <;> rcases hr with rfl | rfl <;> rcases ht with rfl | rfl <;> simp [Int.neg_mul, Int.mul_neg]
  · rw [e2, eu]; rcases hp with rfl | rfl <;> rcases hr with rfl | rfl <;> rcases ht with rfl | rfl <;> omega
  · rw [env]; rcases hp with rfl | rfl <;> rcases hr with rfl | rfl <;> rcases hs with rfl | rfl <;> simp [Int.neg_mul, Int.mul_neg]
  · rw [e3, ev]; rcases hp with rfl | rfl <;> rcases hr with rfl | rfl <;> rcases hs with rfl | rfl <;> omega
  · rw [← ig, ← hρ, Nat.gcd_comm β, ← Nat.gcd_rec, Nat.gcd_comm]
  · right
    rcases hd with ⟨h1, h2, h3⟩ | ⟨h1, h2, h3⟩
    · subst h1 h2
      exact ⟨hmod, by omega, fun _ => by omega⟩
    · refine ⟨hmod, ?_, fun h0 => ?_⟩
      · have : 1 ≤ q := by
          rcases Nat.eq_zero_or_pos q with hz | hz
          · subst hz; omega
          · exact hz
        have : 1 * N ≤ q * N := Nat.mul_le_mul_right _ this
        omega
      · have : 2 ≤ q := by
          rcases Nat.lt_or_ge q 2 with hz | hz
          · have : q = 0 ∨ q = 1 := by omega
            rcases this with h | h <;> subst h <;> omega
          · exact hz
        have : 2 * N ≤ q * N := Nat.mul_le_mul_right _ this
        omega
  · rw [e4, eb]; rcases hp with rfl | rfl <;> rcases hr with rfl | rfl <;> omega
  · rw [q1]; rcases hp with rfl | rfl <;> rcases hr with rfl | rfl <;> omega
  · have : q * β ≤ α := by rw [Nat.mul_comm]; omega
    rw [e1]; rcases hp with rfl | rfl <;> omega
  · rw [e2]; rcases hp with rfl | rfl <;> rcases hr with rfl | rfl <;> rcases ht with rfl | rfl <;> omega
  · rw [e3]; rcases hp with rfl | rfl <;> rcases hr with rfl | rfl <;> rcases hs with rfl | rfl <;> omega

theorem eu_bounds {A B a b u v nu nv : Int} (h : Eu A B a b u v nu nv) :
    a.natAbs ≤ 1000000000000000000 ∧ b.natAbs ≤ 1000000000000000000 ∧ u.natAbs ≤ 1000000000000000000 ∧ v.natAbs ≤ 1000000000000000000 ∧ nu.natAbs ≤ 1000000000000000000 ∧ nv.natAbs ≤ 1000000000000000000 := by
  obtain ⟨_, _, p, r, t, s, α, β, U, N, V, M, hp, hr, ht, hs, ea, eb, eu, enu, ev, env, _, _, _, bU, bN, bV, bM, bα, bβ, _⟩ := h
  rw [ea, eb, eu, enu, ev, env]
  rcases hp with rfl | rfl <;> rcases hr with rfl | rfl <;> rcases ht with rfl | rfl <;> rcases hs with rfl | rfl <;> omega

/-- At the end: the greatest divisor, and a cofactor that is small. -/
theorem eu_end {A B a u v nu nv : Int} (hB : B ≠ 0) (h : Eu A B a 0 u v nu nv) :
    a.natAbs = Int.gcd A B ∧ u.natAbs < B.natAbs / Int.gcd A B ∧ a = u * A + v * B ∧ 0 < Int.gcd A B := by
  have hg : 0 < Int.gcd A B := Int.gcd_pos_of_ne_zero_right _ hB
  obtain ⟨l1, _, p, r, t, s, α, β, U, N, V, M, hp, hr, ht, hs, ea, eb, eu, enu, ev, env, i1, i2, ig, bU, bN, bV, bM, bα, bβ, hd⟩ := h
  have hβ : β = 0 := by rcases hr with rfl | rfl <;> omega
  subst hβ
  simp only [Nat.gcd_zero_right] at ig
  have hd' : U < N := by
    rcases hd with ⟨_, _, h3⟩ | ⟨_, _, h3⟩
    · omega
    · exact h3 rfl
  refine ⟨?_, ?_, l1, hg⟩
  · rw [ea, ← ig]; rcases hp with rfl | rfl <;> omega
  · have : B.natAbs / Int.gcd A B = N := by
      rw [← ig, ← i1]; simp only [Nat.zero_mul, Nat.add_zero]
      exact Nat.mul_div_cancel_left _ (by omega)
    rw [this, eu]; rcases hp with rfl | rfl <;> rcases hr with rfl | rfl <;> rcases ht with rfl | rfl <;> omega

end Go.Proofs.YtcnfhndejkngkaaGreatDoor.MathA
end

section
/- Plain facts for frac.Path and frac.Node: Stern's and Brocot's tree. true is a step to the right. -/
set_option linter.unusedSimpArgs false
set_option linter.unusedVariables false
set_option maxRecDepth 100000
namespace Go.Proofs.YtcnfhndejkngkaaGreatDoor
namespace ST
/-- Where steps lead: Up, Down. -/
def nd : List Bool → Nat × Nat
  | [] => (1, 1)
  | true :: l => ((nd l).1 + (nd l).2, (nd l).2)
  | false :: l => ((nd l).1, (nd l).1 + (nd l).2)
theorem nd_pos : ∀ l, 0 < (nd l).1 ∧ 0 < (nd l).2
  | [] => by decide
  | true :: l => by have := nd_pos l; exact ⟨by show 0 < (nd l).1 + (nd l).2; omega, this.2⟩
  | false :: l => by have := nd_pos l; exact ⟨this.1, by show 0 < (nd l).1 + (nd l).2; omega⟩
theorem nd_gcd : ∀ l, Nat.gcd (nd l).1 (nd l).2 = 1
  | [] => by decide
  | true :: l => by
    have h := nd_gcd l
    show Nat.gcd ((nd l).1 + (nd l).2) (nd l).2 = 1
    rw [Nat.gcd_add_self_left]; exact h
  | false :: l => by
    have h := nd_gcd l
    show Nat.gcd (nd l).1 ((nd l).1 + (nd l).2) = 1
    rw [Nat.gcd_self_add_right]; exact h
/-- The four numbers that go down with the steps. -/
structure Q where
  a : Nat
  b : Nat
  c : Nat
  d : Nat
def Q.step (s : Q) (r : Bool) : Q := if r then ⟨s.a + s.c, s.b + s.d, s.c, s.d⟩ else ⟨s.a, s.b, s.a + s.c, s.b + s.d⟩
def Q.run (s : Q) : List Bool → Q
  | [] => s
  | r :: l => (s.step r).run l
theorem Q.run_app (s : Q) : ∀ l m, s.run (l ++ m) = (s.run l).run m
  | [], _ => rfl
  | r :: l, m => Q.run_app (s.step r) l m
theorem Q.run_nd : ∀ (l : List Bool) (s : Q), (s.run l).a + (s.run l).c = s.a * (nd l).2 + s.c * (nd l).1 ∧ (s.run l).b + (s.run l).d = s.b * (nd l).2 + s.d * (nd l).1
  | [], s => by show s.a + s.c = s.a * 1 + s.c * 1 ∧ s.b + s.d = s.b * 1 + s.d * 1; omega
  | true :: l, s => by
    have h := Q.run_nd l (s.step true)
    show ((s.step true).run l).a + ((s.step true).run l).c = s.a * (nd l).2 + s.c * ((nd l).1 + (nd l).2) ∧ ((s.step true).run l).b + ((s.step true).run l).d = s.b * (nd l).2 + s.d * ((nd l).1 + (nd l).2)
    rw [h.1, h.2]
    show (s.a + s.c) * (nd l).2 + s.c * (nd l).1 = _ ∧ (s.b + s.d) * (nd l).2 + s.d * (nd l).1 = _
    constructor <;> grind
  | false :: l, s => by
    have h := Q.run_nd l (s.step false)
    show ((s.step false).run l).a + ((s.step false).run l).c = s.a * ((nd l).1 + (nd l).2) + s.c * (nd l).1 ∧ ((s.step false).run l).b + ((s.step false).run l).d = s.b * ((nd l).1 + (nd l).2) + s.d * (nd l).1
    rw [h.1, h.2]
    show s.a * (nd l).2 + (s.a + s.c) * (nd l).1 = _ ∧ s.b * (nd l).2 + (s.b + s.d) * (nd l).1 = _
    constructor <;> grind
def q0 : Q := ⟨0, 1, 1, 0⟩
theorem run_q0 (l : List Bool) : (q0.run l).a + (q0.run l).c = (nd l).1 ∧ (q0.run l).b + (q0.run l).d = (nd l).2 := by
  have h := Q.run_nd l q0
  have e : q0.a = 0 ∧ q0.b = 1 ∧ q0.c = 1 ∧ q0.d = 0 := ⟨rfl, rfl, rfl, rfl⟩
  rw [e.1, e.2.1, e.2.2.1, e.2.2.2] at h
  rw [h.1, h.2]
  omega
/-- One step more. -/
theorem run_more (s : Q) (l : List Bool) (r : Bool) : s.run (l ++ [r]) = (s.run l).step r := by rw [Q.run_app]; rfl
/-- The numbers grow on the way. -/
theorem step_le (s : Q) (r : Bool) : s.a + s.c ≤ (s.step r).a + (s.step r).c ∧ s.b + s.d ≤ (s.step r).b + (s.step r).d := by
  unfold Q.step
  cases r
  · show s.a + s.c ≤ s.a + (s.a + s.c) ∧ s.b + s.d ≤ s.b + (s.b + s.d); omega
  · show s.a + s.c ≤ s.a + s.c + s.c ∧ s.b + s.d ≤ s.b + s.d + s.d; omega
theorem run_le (s : Q) : ∀ l, s.a + s.c ≤ (s.run l).a + (s.run l).c ∧ s.b + s.d ≤ (s.run l).b + (s.run l).d := by
  intro l
  induction l generalizing s with
  | nil => exact ⟨Nat.le_refl _, Nat.le_refl _⟩
  | cons r l ih =>
    have h1 := step_le s r
    have h2 := ih (s.step r)
    show s.a + s.c ≤ ((s.step r).run l).a + ((s.step r).run l).c ∧ s.b + s.d ≤ ((s.step r).run l).b + ((s.step r).run l).d
    omega
theorem nd_take (l : List Bool) (i : Nat) : (nd (l.take i)).1 ≤ (nd l).1 ∧ (nd (l.take i)).2 ≤ (nd l).2 := by
  have h1 := run_q0 (l.take i)
  have h2 := run_q0 l
  have h3 := run_le (q0.run (l.take i)) (l.drop i)
  rw [← Q.run_app, List.take_append_drop] at h3
  omega
/-- How a fraction is reached. -/
def pth : Nat → Nat → Nat → List Bool
  | 0, _, _ => []
  | f + 1, x, y => if x < y then false :: pth f x (y - x) else if y < x then true :: pth f (x - y) y else []
def path (x y : Nat) : List Bool := pth (x + y) x y
theorem pth_nd : ∀ f x y, 0 < x → 0 < y → Nat.gcd x y = 1 → x + y ≤ f + 1 → nd (pth f x y) = (x, y)
  | 0, x, y, hx, hy, _, hf => by omega
  | f + 1, x, y, hx, hy, hg, hf => by
    unfold pth
    by_cases h1 : x < y
    · rw [if_pos h1]
      have hg' : Nat.gcd x (y - x) = 1 := by
        rw [← hg]
        conv => rhs; rw [show y = y - x + x by omega]
        rw [Nat.gcd_add_self_right]
      have h := pth_nd f x (y - x) hx (by omega) hg' (by omega)
      show ((nd (pth f x (y - x))).1, (nd (pth f x (y - x))).1 + (nd (pth f x (y - x))).2) = (x, y)
      rw [h]
      show (x, x + (y - x)) = (x, y)
      rw [show x + (y - x) = y by omega]
    · rw [if_neg h1]
      by_cases h2 : y < x
      · rw [if_pos h2]
        have hg' : Nat.gcd (x - y) y = 1 := by
          rw [← hg]
          conv => rhs; rw [show x = x - y + y by omega]
          rw [Nat.gcd_add_self_left]
        have h := pth_nd f (x - y) y (by omega) hy hg' (by omega)
        show ((nd (pth f (x - y) y)).1 + (nd (pth f (x - y) y)).2, (nd (pth f (x - y) y)).2) = (x, y)
        rw [h]
        show (x - y + y, y) = (x, y)
        rw [show x - y + y = x by omega]
      · rw [if_neg h2]
        have e : x = y := by omega
        subst e
        rw [Nat.gcd_self] at hg
        subst hg
        rfl
theorem path_nd {x y : Nat} (hx : 0 < x) (hy : 0 < y) (hg : Nat.gcd x y = 1) : nd (path x y) = (x, y) := pth_nd _ x y hx hy hg (by omega)
/-- Each fraction has just one path. -/
theorem nd_pth : ∀ (l : List Bool) (f : Nat), (nd l).1 + (nd l).2 ≤ f + 1 → pth f (nd l).1 (nd l).2 = l
  | [], f, h => by
    cases f with
    | zero => rfl
    | succ f => rfl
  | true :: l, f, h => by
    have hp := nd_pos l
    have h : (nd l).1 + (nd l).2 + (nd l).2 ≤ f + 1 := h
    cases f with
    | zero => omega
    | succ f =>
      show pth (f + 1) ((nd l).1 + (nd l).2) (nd l).2 = _
      unfold pth
      rw [if_neg (by omega), if_pos (by omega), show (nd l).1 + (nd l).2 - (nd l).2 = (nd l).1 by omega, nd_pth l f (by omega)]
  | false :: l, f, h => by
    have hp := nd_pos l
    have h : (nd l).1 + ((nd l).1 + (nd l).2) ≤ f + 1 := h
    cases f with
    | zero => omega
    | succ f =>
      show pth (f + 1) (nd l).1 ((nd l).1 + (nd l).2) = _
      unfold pth
      rw [if_pos (by omega), show (nd l).1 + (nd l).2 - (nd l).1 = (nd l).2 by omega, nd_pth l f (by omega)]
theorem nd_path (l : List Bool) : path (nd l).1 (nd l).2 = l := nd_pth l _ (by omega)
/-- How many steps: Euclid's quotients. -/
def qs : Nat → Nat → Nat → Nat
  | 0, _, _ => 0
  | f + 1, x, y => if y = 0 then 0 else x / y + qs f y (x % y)
theorem qs_fuel : ∀ f g x y, y < f → y < g → qs f x y = qs g x y
  | 0, _, _, _, h, _ => by omega
  | _ + 1, 0, _, _, _, h => by omega
  | f + 1, g + 1, x, y, h1, h2 => by
    unfold qs
    by_cases h : y = 0
    · rw [if_pos h, if_pos h]
    · rw [if_neg h, if_neg h]
      have := Nat.mod_lt x (show 0 < y by omega)
      rw [qs_fuel f g y (x % y) (by omega) (by omega)]
def qsum (x y : Nat) : Nat := qs (y + 1) x y
theorem qsum_zero (x : Nat) : qsum x 0 = 0 := by unfold qsum qs; rw [if_pos rfl]
theorem qsum_step {x y : Nat} (hy : 0 < y) : qsum x y = x / y + qsum y (x % y) := by
  have := Nat.mod_lt x hy
  show qs (y + 1) x y = _
  unfold qs
  rw [if_neg (by omega)]
  unfold qsum
  rw [qs_fuel y (x % y + 1) y (x % y) (by omega) (by omega)]
theorem qsum_less {x y : Nat} (h : x < y) : qsum x y = qsum y x := by
  rw [qsum_step (by omega), Nat.div_eq_of_lt h, Nat.mod_eq_of_lt h, Nat.zero_add]
theorem qsum_more {x y : Nat} (hy : 0 < y) (h : y ≤ x) : qsum x y = qsum (x - y) y + 1 := by
  have h1 := Nat.sub_mul_mod (x := x) (k := 1) (n := y) (by omega)
  rw [Nat.mul_one] at h1
  have h2 := Nat.div_eq_sub_div (a := x) (b := y) hy h
  rw [qsum_step hy, qsum_step (x := x - y) hy, h1]
  omega
/-- There are as many steps as Euclid's quotients come to, less one. -/
theorem pth_len : ∀ f x y, 0 < x → 0 < y → Nat.gcd x y = 1 → x + y ≤ f + 1 → (pth f x y).length + 1 = qsum x y
  | 0, x, y, hx, hy, _, hf => by omega
  | f + 1, x, y, hx, hy, hg, hf => by
    unfold pth
    by_cases h1 : x < y
    · rw [if_pos h1]
      have hg' : Nat.gcd x (y - x) = 1 := by
        rw [← hg]
        conv => rhs; rw [show y = y - x + x by omega]
        rw [Nat.gcd_add_self_right]
      have h := pth_len f x (y - x) hx (by omega) hg' (by omega)
      show (pth f x (y - x)).length + 1 + 1 = _
      rw [h, qsum_less h1, qsum_more hx (by omega)]
      rcases Nat.lt_trichotomy x (y - x) with h2 | h2 | h2
      · rw [qsum_less h2]
      · rw [← h2]
      · rw [← qsum_less h2]
    · rw [if_neg h1]
      by_cases h2 : y < x
      · rw [if_pos h2]
        have hg' : Nat.gcd (x - y) y = 1 := by
          rw [← hg]
          conv => rhs; rw [show x = x - y + y by omega]
          rw [Nat.gcd_add_self_left]
        have h := pth_len f (x - y) y (by omega) hy hg' (by omega)
        show (pth f (x - y) y).length + 1 + 1 = _
        rw [h]
        exact (qsum_more hy (by omega)).symm
      · rw [if_neg h2]
        have e : x = y := by omega
        subst e
        rw [Nat.gcd_self] at hg
        subst hg
        rfl
theorem path_len {x y : Nat} (hx : 0 < x) (hy : 0 < y) (hg : Nat.gcd x y = 1) : (path x y).length + 1 = qsum x y := pth_len _ x y hx hy hg (by omega)
end ST
end Go.Proofs.YtcnfhndejkngkaaGreatDoor
end
