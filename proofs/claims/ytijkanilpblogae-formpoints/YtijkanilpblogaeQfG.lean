/- The reference's ReducedOf. -/
import Derived.Test.YtijkanilpblogaeQfF
import Derived.Deep.LoopGhost
set_option linter.unusedSimpArgs false
set_option linter.unusedVariables false
set_option maxRecDepth 100000
namespace Go.Proofs.Ytijkanilpblogae
open Go.RowKit

/-- On the way from f to a reduced form. -/
structure Rw (f g : Qf) (m : Mt) : Prop where
  up : g.upto 1000000
  pos : 1 ≤ g.a ∧ 1 ≤ g.c
  det : m.p * m.s - m.q * m.r = 1
  like : ∀ x y : Int, f.at (m.p * x + m.q * y) (m.r * x + m.s * y) = g.at x y
  neg : g.disc < 0

/-- How far it is at most. -/
def mu (g : Qf) : Nat := g.a.toNat * 4000000 + 2 * g.b.natAbs + if g.b < 0 then 1 else 0

def swp (g : Qf) : Qf := ⟨g.c, -g.b, g.a⟩
def shf (g : Qf) (k : Int) : Qf := ⟨g.a, g.b + 2 * k * g.a, g.c + k * g.b + k * k * g.a⟩

theorem pos_c {g : Qf} (ha : 1 ≤ g.a) (hd : g.disc < 0) : 1 ≤ g.c := by
  unfold Qf.disc at hd
  rcases Int.lt_or_le 0 g.c with h | h
  · omega
  · exfalso
    have h1 := sq_nn g.b
    have h2 : 4 * g.a * g.c ≤ 0 := by
      have := Int.mul_le_mul_of_nonneg_left h (show 0 ≤ 4 * g.a by omega)
      omega
    omega

theorem Rw.start {f : Qf} (h : ffault f = (0, 0)) : Rw f f ⟨1, 0, 0, 1⟩ := by
  obtain ⟨u, a, d, _⟩ := ffault_ok h
  exact ⟨u, ⟨a, pos_c a d⟩, by decide, fun x y => by simp, d⟩

theorem Rw.swapped {f g : Qf} {m : Mt} (h : Rw f g m) : Rw f (swp g) ⟨m.q, -m.p, m.s, -m.r⟩ := by
  obtain ⟨⟨a1, a2, a3, a4, a5, a6⟩, ⟨p1, p2⟩, dt, lk, ng⟩ := h
  refine ⟨⟨a5, a6, by show -1000000 ≤ -g.b; omega, by show -g.b ≤ 1000000; omega, a1, a2⟩, ⟨p2, p1⟩, ?_, ?_, ?_⟩
  · show m.q * -m.r - -m.p * m.s = 1
    grind
  · intro x y
    show f.at (m.q * x + -m.p * y) (m.s * x + -m.r * y) = _
    have := lk (-y) x
    rw [show m.p * -y + m.q * x = m.q * x + -m.p * y by grind, show m.r * -y + m.s * x = m.s * x + -m.r * y by grind] at this
    rw [this]
    simp only [Qf.at, swp]
    grind
  · unfold Qf.disc at ng ⊢
    show -g.b * -g.b - 4 * g.c * g.a < 0
    have : -g.b * -g.b = g.b * g.b := Int.neg_mul_neg ..
    have : 4 * g.c * g.a = 4 * g.a * g.c := by grind
    omega

/-- A shift that does not make B greater in size. -/
theorem Rw.shifted {f g : Qf} {m : Mt} (h : Rw f g m) (k : Int) (hb : (g.b + 2 * k * g.a) * (g.b + 2 * k * g.a) ≤ g.b * g.b) (hb1 : -1000000 ≤ g.b + 2 * k * g.a) (hb2 : g.b + 2 * k * g.a ≤ 1000000) : Rw f (shf g k) ⟨m.p, m.q + k * m.p, m.r, m.s + k * m.r⟩ := by
  obtain ⟨⟨a1, a2, a3, a4, a5, a6⟩, ⟨p1, p2⟩, dt, lk, ng⟩ := h
  have e : (shf g k).disc = g.disc := by simp only [Qf.disc, shf]; grind
  have hc1 := pos_c (g := shf g k) p1 (by rw [e]; exact ng)
  have hc2 : (shf g k).c ≤ g.c := by
    have e1 : 4 * g.a * (shf g k).c = (g.b + 2 * k * g.a) * (g.b + 2 * k * g.a) - g.disc := by simp only [Qf.disc, shf]; grind
    have e2 : 4 * g.a * g.c = g.b * g.b - g.disc := by simp only [Qf.disc]; omega
    rcases Int.lt_or_le g.c (shf g k).c with h | h
    · exfalso
      have := Int.mul_lt_mul_of_pos_left h (show 0 < 4 * g.a by omega)
      omega
    · exact h
  refine ⟨⟨a1, a2, hb1, hb2, by omega, by omega⟩, ⟨p1, hc1⟩, ?_, ?_, by rw [e]; exact ng⟩
  · show m.p * (m.s + k * m.r) - (m.q + k * m.p) * m.r = 1
    grind
  · intro x y
    show f.at (m.p * x + (m.q + k * m.p) * y) (m.r * x + (m.s + k * m.r) * y) = _
    have := lk (x + k * y) y
    rw [show m.p * (x + k * y) + m.q * y = m.p * x + (m.q + k * m.p) * y by grind, show m.r * (x + k * y) + m.s * y = m.r * x + (m.s + k * m.r) * y by grind] at this
    rw [this]
    simp only [Qf.at, shf]
    grind

theorem mu_swp {g : Qf} (hu : g.upto 1000000) (h0 : 1 ≤ g.c) (h : g.c < g.a) : mu (swp g) < mu g := by
  obtain ⟨a1, a2, a3, a4, a5, a6⟩ := hu
  unfold mu swp
  simp only []
  split <;> split <;> omega
theorem mu_same {g : Qf} (h : g.a = g.c) (hb : g.b < 0) : mu (swp g) < mu g := by
  unfold mu swp
  simp only []
  rw [if_pos hb]
  split <;> omega

/-- The k that is chosen. -/
structure Kc (g : Qf) (k : Int) : Prop where
  k1 : -1000000 ≤ k
  k2 : k ≤ 1000000
  b1 : -1000000 ≤ g.b + 2 * k * g.a
  b2 : g.b + 2 * k * g.a ≤ 1000000
  sq : (g.b + 2 * k * g.a) * (g.b + 2 * k * g.a) ≤ g.b * g.b
  mu : mu (shf g k) < mu g

theorem sq_of {x y : Int} (h1 : -y ≤ x) (h2 : x ≤ y) : x * x ≤ y * y := by
  have := sq_bd h1 h2 h1 h2
  exact this.2

theorem kc_of {g : Qf} {k : Int} (ha : 1 ≤ g.a) (hb : -1000000 ≤ g.b ∧ g.b ≤ 1000000) (E : Int) (hE : 2 * k * g.a = E) (hk : -1000000 ≤ k ∧ k ≤ 1000000)
    (h : (0 < g.b ∧ -g.b < g.b + E ∧ g.b + E < g.b) ∨ (g.b < 0 ∧ g.b < g.b + E ∧ g.b + E ≤ -g.b)) : Kc g k := by
  have hs : (g.b + 2 * k * g.a) * (g.b + 2 * k * g.a) ≤ g.b * g.b := by
    rw [hE]
    rcases h with h | h
    · exact sq_of (by omega) (by omega)
    · have := sq_of (x := g.b + E) (y := -g.b) (by omega) (by omega)
      rwa [Int.neg_mul_neg] at this
  refine ⟨hk.1, hk.2, by rw [hE]; omega, by rw [hE]; omega, hs, ?_⟩
  unfold mu shf
  simp only []
  rw [hE]
  split <;> split <;> omega

theorem kc_choice {g : Qf} {q k : Int} (ha : 1 ≤ g.a) (hb : -1000000 ≤ g.b ∧ g.b ≤ 1000000) (hq : (-g.b).tdiv (2 * g.a) = q)
    (h : (g.a < g.b ∧ ((q = 0 ∧ k = -1) ∨ (q ≠ 0 ∧ k = q))) ∨ (g.b ≤ -g.a ∧ ((q = 0 ∧ k = 1) ∨ (q ≠ 0 ∧ k = q)))) : Kc g k := by
  obtain ⟨E, hE⟩ : ∃ E, 2 * k * g.a = E := ⟨_, rfl⟩
  rcases h with ⟨h1, h2⟩ | ⟨h1, h2⟩
  · have e1 : q = -(g.b / (2 * g.a)) := by rw [← hq, Int.neg_tdiv, Int.tdiv_eq_ediv_of_nonneg (by omega)]
    have d1 := Int.mul_ediv_add_emod g.b (2 * g.a)
    have d2 := Int.emod_nonneg g.b (show 2 * g.a ≠ 0 by omega)
    have d3 := Int.emod_lt_of_pos g.b (show 0 < 2 * g.a by omega)
    obtain ⟨t, ht⟩ : ∃ t, t = g.b / (2 * g.a) := ⟨_, rfl⟩
    obtain ⟨r, hr⟩ : ∃ r, r = g.b % (2 * g.a) := ⟨_, rfl⟩
    rw [← ht] at e1 d1
    rw [← hr] at d1 d2 d3
    have ht0 : 0 ≤ t := by rw [ht]; exact Int.ediv_nonneg (by omega) (by omega)
    have ht1 : t ≤ g.b := by rw [ht]; exact Int.ediv_le_self _ (by omega)
    rcases h2 with ⟨h3, rfl⟩ | ⟨h3, rfl⟩
    · have t0 : t = 0 := by omega
      rw [t0] at d1
      exact kc_of ha hb E hE (by omega) (.inl ⟨by omega, by omega, by omega⟩)
    · have hM : E = -(2 * g.a * t) := by rw [← hE, e1]; grind
      have ht2 : 2 * g.a * 1 ≤ 2 * g.a * t := Int.mul_le_mul_of_nonneg_left (by omega) (by omega)
      exact kc_of ha hb E hE (by omega) (.inl ⟨by omega, by omega, by omega⟩)
  · have e1 : q = (-g.b) / (2 * g.a) := by rw [← hq, Int.tdiv_eq_ediv_of_nonneg (by omega)]
    have d1 := Int.mul_ediv_add_emod (-g.b) (2 * g.a)
    have d2 := Int.emod_nonneg (-g.b) (show 2 * g.a ≠ 0 by omega)
    have d3 := Int.emod_lt_of_pos (-g.b) (show 0 < 2 * g.a by omega)
    obtain ⟨t, ht⟩ : ∃ t, t = (-g.b) / (2 * g.a) := ⟨_, rfl⟩
    obtain ⟨r, hr⟩ : ∃ r, r = (-g.b) % (2 * g.a) := ⟨_, rfl⟩
    rw [← ht] at e1 d1
    rw [← hr] at d1 d2 d3
    have ht0 : 0 ≤ t := by rw [ht]; exact Int.ediv_nonneg (by omega) (by omega)
    have ht1 : t ≤ -g.b := by rw [ht]; exact Int.ediv_le_self _ (by omega)
    rcases h2 with ⟨h3, rfl⟩ | ⟨h3, rfl⟩
    · have t0 : t = 0 := by omega
      rw [t0] at d1
      exact kc_of ha hb E hE (by omega) (.inr ⟨by omega, by omega, by omega⟩)
    · have hM : E = 2 * g.a * t := by rw [← hE, e1]; grind
      have ht2 : 2 * g.a * 1 ≤ 2 * g.a * t := Int.mul_le_mul_of_nonneg_left (by omega) (by omega)
      exact kc_of ha hb E hE (by omega) (.inr ⟨by omega, by omega, by omega⟩)

/-- The memory of the walk. -/
structure Fo (b : Nat) (g : Qf) (w W : World) : Prop where
  f : Cl b g.l 32 W
  o : Cl (b + 1) [.int .i64 0, .int .i64 0, .int .i64 0] 32 W
  k : Below b w W
theorem Fo.below {b : Nat} {g : Qf} {w W W' : World} (h : Fo b g w W) (c : Below W.heap.size W W') : Fo b g w W' := ⟨h.f.below c, h.o.below c, h.k.trans (c.mono (Nat.le_of_lt h.f.lt))⟩
theorem Fo.set {b : Nat} {g : Qf} {w W : World} (h : Fo b g w W) (g' : Qf) : Fo b g' w (((W.setCell ⟨b, 0, none⟩ (.int .i64 g'.a)).setCell ⟨b, 1, none⟩ (.int .i64 g'.b)).setCell ⟨b, 2, none⟩ (.int .i64 g'.c)) :=
  ⟨((h.f.set 0 _).set 1 _).set 2 _, ((h.o.other (by show b + 1 ≠ b; omega) _).other (by show b + 1 ≠ b; omega) _).other (by show b + 1 ≠ b; omega) _, ((h.k.setCell (by show b ≤ b; omega) _).setCell (by show b ≤ b; omega) _).setCell (by show b ≤ b; omega) _⟩
theorem Fo.eq {b : Nat} {g g' : Qf} {w W : World} (h : Fo b g w W) (e : g = g') : Fo b g' w W := e ▸ h
theorem fo_new (w : World) (g : Qf) : Fo w.heap.size g w ((w.alloc (.cells #[.int .i64 g.a, .int .i64 g.b, .int .i64 g.c] 32)).alloc (.cells #[.int .i64 0, .int .i64 0, .int .i64 0] 32)) :=
  ⟨(Cl.new g.l _ w).alloc _, cl_new0 _ [.int .i64 0, .int .i64 0, .int .i64 0] _ _ (by simp), (al1 _ _).trans ((al1 _ _).mono (by simp))⟩

theorem Rw.rd {f g : Qf} {m : Mt} (h : Rw f g m) (hr : g.redB = true) : Rd f g m := ⟨hr, h.det, h.like⟩

set_option maxRecDepth 100000 in
set_option maxHeartbeats 4000000 in
theorem ReducedOf_any (f : Qf) (w : World) (hf : ffault f = (0, 0)) :
    Calls Try.prog 18 #[f.v] w fun e w' => (∃ g m, e = .returned g.v ∧ Rd f g m) ∧ Below w.heap.size w w' := by
  have HR0 : Hid (Rw f f ⟨1, 0, 0, 1⟩) := Rw.start hf
  have M0 := fo_new w f
  clear hf
  unfold Qf.v
  go_enter Try.func18, Try.ntmps18
  go_wp2
  go_loopg [6] (mu f) (fun gk _ wx => ∃ (g : Qf) (m : Mt), Hid (Rw f g m ∧ gk = mu g ∧ Fo w.heap.size g w wx))
  case atStart => exact ⟨f, ⟨1, 0, 0, 1⟩, HR0.out, rfl, M0⟩
  case round =>
    clear M0 HR0
    obtain ⟨g, m, HH⟩ := hrel
    have HR : Hid (Rw f g m) := HH.out.1
    have HG : Hid (gk = mu g) := HH.out.2.1
    have HF : Hid (Fo w.heap.size g w wr) := HH.out.2.2
    have HRed : Hid (∀ w, Calls Try.prog 16 #[g.v] w fun e w' => e = .returned (.bool g.redB) ∧ Below w.heap.size w w') := fun w => refReduced_any g w (by obtain ⟨a1, a2, a3, a4, a5, a6⟩ := HR.out.up; exact ⟨by omega, by omega, by omega, by omega, by omega, by omega⟩)
    unfold Qf.v at HRed
    have c0 := HF.out.f.cell 0
    have c1 := HF.out.f.cell 1
    have c2 := HF.out.f.cell 2
    simp at c0 c1 c2
    have lim1 := HR.out.pos.1
    have lim2 := HR.out.up.2.1
    have lim3 := HR.out.up.2.2.1
    have lim4 := HR.out.up.2.2.2.1
    have lim5 := HR.out.pos.2
    have lim6 := HR.out.up.2.2.2.2.2
    clear HH
    cases hrb : g.redB
    · rw [hrb] at HRed
      have HRb : Hid (g.redB = false) := hrb
      clear hrb lim1 lim2 lim3 lim4 lim5 lim6
      go_wp2_with fail
      refine (HRed.out _).mono ?_
      rintro e w1 ⟨rfl, k1⟩
      have HF1 : Hid (Fo w.heap.size g w w1) := HF.out.below k1
      clear c0 c1 c2 k1 HF
      have c0 := HF1.out.f.cell 0
      have c1 := HF1.out.f.cell 1
      have c2 := HF1.out.f.cell 2
      have d0 := HF1.out.f.frozen 0
      have d1 := HF1.out.f.frozen 1
      have d2 := HF1.out.f.frozen 2
      simp at c0 c1 c2
      have lim1 := HR.out.pos.1
      have lim2 := HR.out.up.2.1
      have lim3 := HR.out.up.2.2.1
      have lim4 := HR.out.up.2.2.2.1
      have lim5 := HR.out.pos.2
      have lim6 := HR.out.up.2.2.2.2.2
      by_cases hac : g.c < g.a
      · have b1 : decide (g.c < g.a) = true := decide_eq_true hac
        go_wp2
        go_roundg (mu (swp g))
        case rel => exact ⟨swp g, ⟨m.q, -m.p, m.s, -m.r⟩, HR.out.swapped, rfl, HF1.out.set (swp g)⟩
        case measure => rw [HG.out]; exact mu_swp HR.out.up HR.out.pos.2 hac
      · have b1 : decide (g.c < g.a) = false := decide_eq_false hac
        obtain ⟨q, hq⟩ : ∃ q, (-g.b).tdiv (2 * g.a) = q := ⟨_, rfl⟩
        have hz : (2 * g.a == 0) = false := beq_eq_false_iff_ne.2 (by omega)
        have hqb : -1000000 ≤ q ∧ q ≤ 1000000 := by
          have h2 := Int.natAbs_tdiv (-g.b) (2 * g.a)
          have h3 : (-g.b).natAbs.div (2 * g.a).natAbs ≤ (-g.b).natAbs := Nat.div_le_self _ _
          rw [hq] at h2
          omega
        by_cases hB : g.a < g.b
        · have b2 : decide (g.a < g.b) = true := decide_eq_true hB
          cases hq0 : (q == 0)
          · have hqn : q ≠ 0 := by simpa using hq0
            have HKc : Hid (Kc g q) := kc_choice HR.out.pos.1 ⟨HR.out.up.2.2.1, HR.out.up.2.2.2.1⟩ hq (.inl ⟨hB, .inr ⟨hqn, rfl⟩⟩)
            obtain ⟨E1, e1⟩ : ∃ E1, 2 * q * g.a = E1 := ⟨_, rfl⟩
            obtain ⟨E2, e2⟩ : ∃ E2, q * g.b = E2 := ⟨_, rfl⟩
            obtain ⟨E3, e3⟩ : ∃ E3, q * q = E3 := ⟨_, rfl⟩
            obtain ⟨E4, e4⟩ : ∃ E4, E3 * g.a = E4 := ⟨_, rfl⟩
            have x1 : -3000000 ≤ E1 ∧ E1 ≤ 3000000 := by have h1 := HKc.out.b1; have h2 := HKc.out.b2; rw [e1] at h1 h2; omega
            have x2 : -1000000000000 ≤ E2 ∧ E2 ≤ 1000000000000 := by rw [← e2]; exact sq_bd HKc.out.k1 HKc.out.k2 HR.out.up.2.2.1 HR.out.up.2.2.2.1
            have x3 : 0 ≤ E3 ∧ E3 ≤ 1000000000000 := by rw [← e3]; exact ⟨sq_nn _, (sq_bd HKc.out.k1 HKc.out.k2 HKc.out.k1 HKc.out.k2).2⟩
            have x4 : 0 ≤ E4 ∧ E4 ≤ 1000000000000000000 := by
              rw [← e4]
              exact ⟨Int.mul_nonneg x3.1 (by omega), by have h1 := Int.mul_le_mul x3.2 lim2 (by omega) (by omega); omega⟩
            have xk1 := HKc.out.k1
            have xk2 := HKc.out.k2
            have HSh : Hid (shf g q = ⟨g.a, g.b + E1, g.c + E2 + E4⟩) := by show shf g q = _; unfold shf; rw [e1, e2, e3, e4]
            go_wp2
            go_roundg (mu (shf g q))
            case rel => exact ⟨shf g q, ⟨m.p, m.q + q * m.p, m.r, m.s + q * m.r⟩, HR.out.shifted q HKc.out.sq HKc.out.b1 HKc.out.b2, rfl, by rw [HSh.out]; exact HF1.out.set ⟨g.a, g.b + E1, g.c + E2 + E4⟩⟩
            case measure => rw [HG.out]; exact HKc.out.mu
          · have hqn : q = 0 := by simpa using hq0
            have HKc : Hid (Kc g (-1)) := kc_choice HR.out.pos.1 ⟨HR.out.up.2.2.1, HR.out.up.2.2.2.1⟩ hq (.inl ⟨hB, .inl ⟨hqn, rfl⟩⟩)
            clear hqn
            go_wp2
            go_roundg (mu (shf g (-1)))
            case rel => exact ⟨shf g (-1), ⟨m.p, m.q + (-1) * m.p, m.r, m.s + (-1) * m.r⟩, HR.out.shifted (-1) HKc.out.sq HKc.out.b1 HKc.out.b2, rfl, Fo.eq (HF1.out.set ⟨g.a, g.b + -2 * g.a, g.c + -g.b + g.a⟩) (by unfold shf; congr 1 <;> omega)⟩
            case measure => rw [HG.out]; exact HKc.out.mu
        · have b2 : decide (g.a < g.b) = false := decide_eq_false hB
          by_cases hB2 : g.b ≤ -g.a
          · have b3 : decide (g.b ≤ -g.a) = true := decide_eq_true hB2
            cases hq0 : (q == 0)
            · have hqn : q ≠ 0 := by simpa using hq0
              have HKc : Hid (Kc g q) := kc_choice HR.out.pos.1 ⟨HR.out.up.2.2.1, HR.out.up.2.2.2.1⟩ hq (.inr ⟨hB2, .inr ⟨hqn, rfl⟩⟩)
              obtain ⟨E1, e1⟩ : ∃ E1, 2 * q * g.a = E1 := ⟨_, rfl⟩
              obtain ⟨E2, e2⟩ : ∃ E2, q * g.b = E2 := ⟨_, rfl⟩
              obtain ⟨E3, e3⟩ : ∃ E3, q * q = E3 := ⟨_, rfl⟩
              obtain ⟨E4, e4⟩ : ∃ E4, E3 * g.a = E4 := ⟨_, rfl⟩
              have x1 : -3000000 ≤ E1 ∧ E1 ≤ 3000000 := by have h1 := HKc.out.b1; have h2 := HKc.out.b2; rw [e1] at h1 h2; omega
              have x2 : -1000000000000 ≤ E2 ∧ E2 ≤ 1000000000000 := by rw [← e2]; exact sq_bd HKc.out.k1 HKc.out.k2 HR.out.up.2.2.1 HR.out.up.2.2.2.1
              have x3 : 0 ≤ E3 ∧ E3 ≤ 1000000000000 := by rw [← e3]; exact ⟨sq_nn _, (sq_bd HKc.out.k1 HKc.out.k2 HKc.out.k1 HKc.out.k2).2⟩
              have x4 : 0 ≤ E4 ∧ E4 ≤ 1000000000000000000 := by
                rw [← e4]
                exact ⟨Int.mul_nonneg x3.1 (by omega), by have h1 := Int.mul_le_mul x3.2 lim2 (by omega) (by omega); omega⟩
              have xk1 := HKc.out.k1
              have xk2 := HKc.out.k2
              have HSh : Hid (shf g q = ⟨g.a, g.b + E1, g.c + E2 + E4⟩) := by show shf g q = _; unfold shf; rw [e1, e2, e3, e4]
              go_wp2
              go_roundg (mu (shf g q))
              case rel => exact ⟨shf g q, ⟨m.p, m.q + q * m.p, m.r, m.s + q * m.r⟩, HR.out.shifted q HKc.out.sq HKc.out.b1 HKc.out.b2, rfl, by rw [HSh.out]; exact HF1.out.set ⟨g.a, g.b + E1, g.c + E2 + E4⟩⟩
              case measure => rw [HG.out]; exact HKc.out.mu
            · have hqn : q = 0 := by simpa using hq0
              have HKc : Hid (Kc g 1) := kc_choice HR.out.pos.1 ⟨HR.out.up.2.2.1, HR.out.up.2.2.2.1⟩ hq (.inr ⟨hB2, .inl ⟨hqn, rfl⟩⟩)
              clear hqn
              go_wp2
              go_roundg (mu (shf g (1)))
              case rel => exact ⟨shf g (1), ⟨m.p, m.q + (1) * m.p, m.r, m.s + (1) * m.r⟩, HR.out.shifted (1) HKc.out.sq HKc.out.b1 HKc.out.b2, rfl, Fo.eq (HF1.out.set ⟨g.a, g.b + 2 * g.a, g.c + g.b + g.a⟩) (by unfold shf; congr 1 <;> omega)⟩
              case measure => rw [HG.out]; exact HKc.out.mu
          · have b3 : decide (g.b ≤ -g.a) = false := decide_eq_false hB2
            have hsm : g.a = g.c ∧ g.b < 0 := by
              have h := HRb.out
              unfold Qf.redB at h
              simp at h
              omega
            have HSm : Hid (g.a = g.c ∧ g.b < 0) := hsm
            clear hsm
            go_wp2
            go_roundg (mu (swp g))
            case rel => exact ⟨swp g, ⟨m.q, -m.p, m.s, -m.r⟩, HR.out.swapped, rfl, HF1.out.set (swp g)⟩
            case measure => rw [HG.out]; exact mu_same HSm.out.1 HSm.out.2
    · rw [hrb] at HRed
      have HRd : Hid (Rd f g m) := HR.out.rd hrb
      clear hrb lim1 lim2 lim3 lim4 lim5 lim6
      go_wp2_with fail
      refine (HRed.out _).mono ?_
      rintro e w1 ⟨rfl, k1⟩
      have F1 := HF.out.below k1
      have HK1 : Hid (Below w.heap.size w w1) := F1.k
      clear c0 c1 c2 k1 HF
      have c0 := F1.f.cell 0
      have c1 := F1.f.cell 1
      have c2 := F1.f.cell 2
      have o0 := F1.o.cell 0
      have o1 := F1.o.cell 1
      have o2 := F1.o.cell 2
      have o3 := F1.o.frozen 0
      have o4 := F1.o.frozen 1
      have o5 := F1.o.frozen 2
      have o6 := F1.o.lt
      simp at c0 c1 c2 o0 o1 o2
      clear F1
      go_wp2
      refine bodyPost_ret (v := .agg #[.int .i64 g.a, .int .i64 g.b, .int .i64 g.c]) (by simp [results, Try.results18, go_sem, o0, o1, o2, o6]) rfl ⟨⟨g, m, rfl, HRd.out⟩, ?_⟩
      exact ((HK1.out.setCell (by simp <;> omega) _).setCell (by simp <;> omega) _).setCell (by simp <;> omega) _

end Go.Proofs.Ytijkanilpblogae
