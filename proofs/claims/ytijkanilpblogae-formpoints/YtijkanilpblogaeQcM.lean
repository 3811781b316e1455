/- Plain facts of the program's reduction (slide, swap) and composition. -/
import Derived.Test.YtijkanilpblogaeQfM
import Derived.Test.YtijkanilpblogaeQfL
import Derived.Test.YtijkanilpblogaeQfV
set_option linter.unusedSimpArgs false
set_option linter.unusedVariables false
set_option maxRecDepth 100000
namespace Go.Proofs.Ytijkanilpblogae

/-- One slide: A stays, B is brought above -A and not above A. -/
def slideK (f : Qf) : Int := (f.a - f.b) / (2 * f.a)
def slideF (f : Qf) : Qf := ⟨f.a, f.b + 2 * f.a * slideK f, f.c + slideK f * f.b + f.a * (slideK f * slideK f)⟩
def slideM (f : Qf) (m : Mt) : Mt := ⟨m.p, m.q + slideK f * m.p, m.r, m.s + slideK f * m.r⟩
def swapF (f : Qf) : Qf := ⟨f.c, -f.b, f.a⟩
def swapM (m : Mt) : Mt := ⟨m.q, -m.p, m.s, -m.r⟩

theorem slide_b {f : Qf} (ha : 1 ≤ f.a) : (slideF f).b = f.a - (f.a - f.b) % (2 * f.a) ∧ -f.a < (slideF f).b ∧ (slideF f).b ≤ f.a := by
  have h1 := Int.emod_add_mul_ediv (f.a - f.b) (2 * f.a)
  have h2 := Int.emod_nonneg (f.a - f.b) (show 2 * f.a ≠ 0 by omega)
  have h3 := Int.emod_lt_of_pos (f.a - f.b) (show 0 < 2 * f.a by omega)
  show f.b + 2 * f.a * ((f.a - f.b) / (2 * f.a)) = _ ∧ _ < f.b + 2 * f.a * ((f.a - f.b) / (2 * f.a)) ∧ f.b + 2 * f.a * ((f.a - f.b) / (2 * f.a)) ≤ _
  omega

theorem slide_disc (f : Qf) : (slideF f).disc = f.disc := by
  simp only [slideF, Qf.disc]; grind
theorem swap_disc (f : Qf) : (swapF f).disc = f.disc := by
  simp only [swapF, Qf.disc]; grind

theorem slide_lk {f g : Qf} {m : Mt} (h : MQ.Lk f g m) : MQ.Lk f (slideF g) (slideM g m) := by
  have h1 := h.det
  refine ⟨by simp only [slideM]; grind, fun x y => ?_⟩
  have h2 := h.like (x + slideK g * y) y
  have e : (slideF g).at x y = g.at (x + slideK g * y) y := by simp only [slideF, Qf.at]; grind
  rw [e, ← h2]
  simp only [slideM]
  congr 1 <;> grind
theorem swap_lk {f g : Qf} {m : Mt} (h : MQ.Lk f g m) : MQ.Lk f (swapF g) (swapM m) := by
  have h1 := h.det
  refine ⟨by simp only [swapM]; grind, fun x y => ?_⟩
  have h2 := h.like (-y) x
  have e : (swapF g).at x y = g.at (-y) x := by simp only [swapF, Qf.at]; grind
  rw [e, ← h2]
  simp only [swapM]
  congr 1 <;> grind

theorem pos_of_mul {a c : Int} (ha : 1 ≤ a) (h : 0 < a * c) : 1 ≤ c := by
  rcases Int.lt_or_le c 1 with h1 | h1
  · have : a * c ≤ 0 := Int.mul_nonpos_of_nonneg_of_nonpos (by omega) (by omega)
    omega
  · exact h1

/-- C stays above 0. -/
theorem disc_c {f : Qf} (ha : 1 ≤ f.a) (hd : f.disc < 0) : 1 ≤ f.c := by
  refine pos_of_mul ha ?_
  have h1 : f.disc = f.b * f.b - 4 * (f.a * f.c) := by unfold Qf.disc; grind
  have h2 := sq_nn f.b
  omega

theorem sq_le_sq {x y : Int} (h : x.natAbs ≤ y.natAbs) : x * x ≤ y * y := by
  have : x.natAbs * x.natAbs ≤ y.natAbs * y.natAbs := Nat.mul_le_mul h h
  have e1 : ((x.natAbs * x.natAbs : Nat) : Int) = x * x := by simp [Int.natAbs_mul_self']
  have e2 : ((y.natAbs * y.natAbs : Nat) : Int) = y * y := by simp [Int.natAbs_mul_self']
  omega

/-- .. and grows no more. -/
theorem slide_c {f : Qf} (ha : 1 ≤ f.a) (hd : f.disc < 0) : 1 ≤ (slideF f).c ∧ (slideF f).c ≤ f.c ∧ (slideF f).b.natAbs ≤ f.b.natAbs := by
  have hb := slide_b ha
  have ha' : (slideF f).a = f.a := rfl
  have h1 := disc_c (f := slideF f) (by rw [ha']; exact ha) (by rw [slide_disc]; exact hd)
  have hsz : (slideF f).b.natAbs ≤ f.b.natAbs := by
    rcases Int.lt_or_le (-f.a) f.b with h2 | h2
    · rcases Int.lt_or_le f.a f.b with h3 | h3
      · omega
      · have : (f.a - f.b) % (2 * f.a) = f.a - f.b := Int.emod_eq_of_lt (by omega) (by omega)
        omega
    · omega
  refine ⟨h1, ?_, hsz⟩
  have e1 : (slideF f).disc = (slideF f).b * (slideF f).b - 4 * (f.a * (slideF f).c) := by rw [← ha']; unfold Qf.disc; grind
  have e2 : f.disc = f.b * f.b - 4 * (f.a * f.c) := by unfold Qf.disc; grind
  have e3 := sq_le_sq hsz
  have e4 := slide_disc f
  have e5 : f.a * (slideF f).c ≤ f.a * f.c := by omega
  exact Int.le_of_mul_le_mul_left e5 (by omega)

/-- The numbers that the program reckons on the way. -/
theorem slide_k {f : Qf} : slideK f * (f.b + (slideF f).b) = 2 * ((slideF f).c - f.c) := by
  simp only [slideF]; grind
theorem slide_div {f : Qf} (ha : 1 ≤ f.a) : ((slideF f).b - f.b).tdiv (2 * f.a) = slideK f := by
  have : (slideF f).b - f.b = slideK f * (2 * f.a) := by simp only [slideF]; grind
  rw [this, Int.mul_tdiv_cancel _ (by omega)]
theorem slide_half {f : Qf} : (slideK f * (f.b + (slideF f).b)).tdiv 2 = (slideF f).c - f.c := by
  rw [slide_k, Int.mul_tdiv_cancel_left _ (by decide)]

/-- What isn't reduced, though slid: a swap makes it less. -/
def slidB (f : Qf) : Prop := -f.a < f.b ∧ f.b ≤ f.a
def mea (f : Qf) : Nat := 2 * f.a.toNat + (if f.b < 0 then 1 else 0)
theorem mea_less {f : Qf} (ha : 1 ≤ f.a) (hd : f.disc < 0) (hs : slidB f) (hr : f.redB = false) : mea (slideF (swapF f)) < mea f := by
  have hc := disc_c ha hd
  have hx : f.c < f.a ∨ (f.c = f.a ∧ f.b < 0) := by
    unfold Qf.redB at hr
    obtain ⟨h1, h2⟩ := hs
    simp at hr
    omega
  have e : (slideF (swapF f)).a = f.c := rfl
  unfold mea
  rw [e]
  rcases hx with hx | ⟨hx, hb⟩
  · split <;> split <;> omega
  · have h1 := slide_b (f := swapF f) (by show 1 ≤ f.c; exact hc)
    have h2 : (slideF (swapF f)).b = -f.b := by
      rw [h1.1]
      show f.c - (f.c - -f.b) % (2 * f.c) = -f.b
      obtain ⟨h3, h4⟩ := hs
      rw [Int.emod_eq_of_lt (by omega) (by omega)]; omega
    rw [h2, if_neg (by omega), if_pos hb, hx]; omega
namespace MQ
variable {s n : Int}

theorem val_x {e A B S k l m n x y z t t1 t2 t3 : Int} (h1 : l = m + B * t2) (h2 : k = m + A * t1) (h3 : k * l + n = e * S * m + e * A * B * t3) :
    (e * A * x + k * y) * (e * B * z + l * t) + n * (y * t) = e * (A * B * (e * (x * z) + t2 * (x * t) + t1 * (y * z) + t3 * (y * t)) + m * (A * (x * t) + B * (y * z) + S * (y * t))) := by
  have h4 : n = e * S * m + e * A * B * t3 - k * l := by omega
  subst h4
  clear h3
  subst h1 h2
  grind
theorem val_y {e A B S k l s x y z t : Int} (h : k + l + s = e * S) :
    (e * A * x + k * y) * t + y * (e * B * z + l * t) + s * (y * t) = e * (A * (x * t) + B * (y * z) + S * (y * t)) := by
  have h4 : s = e * S - k - l := by omega
  subst h4
  grind

theorem val_end {fa ga F G E ha V : Int} (h : fa * F * (ga * G) = E * (ha * V)) (k : fa * ga = E * ha) : fa * ga * (F * G) = fa * ga * V := by
  have h1 : fa * ga * (F * G) = fa * F * (ga * G) := by grind
  rw [h1, h, k]
  grind

/-- What a value of f and one of g make is a value of h. -/
theorem Co.value {f g h : Qf} {k l m : Int} (hf : Fk s n f k) (hg : Fk s n g l) (hh : Fk s n h m) (c : Co s n f g h k l m) (x y z t : Int) : ∃ X Y : Int, f.at x y * g.at z t = h.at X Y := by
  obtain ⟨e, A, B, S, t1, t2, t3, _, _, _, _, _, _, _, he, hA, hB, hC, hS, _, h2, h1, h3, _⟩ := c.gen
  refine ⟨e * (x * z) + t2 * (x * t) + t1 * (y * z) + t3 * (y * t), A * (x * t) + B * (y * z) + S * (y * t), ?_⟩
  have e1 : Zw.zm (⟨f.a * x + k * y, y⟩ : Zw s n) ⟨g.a * z + l * t, t⟩ = Zw.zm (Zw.ic e) ⟨h.a * (e * (x * z) + t2 * (x * t) + t1 * (y * z) + t3 * (y * t)) + m * (A * (x * t) + B * (y * z) + S * (y * t)), A * (x * t) + B * (y * z) + S * (y * t)⟩ := by
    have k1 : l = m + B * t2 := by omega
    have k2 : k = m + A * t1 := by omega
    have k3 : k * l + n = e * S * m + e * A * B * t3 := by omega
    refine Zw.eq ?_ ?_
    · simp only [Zw.zm, Zw.ic]
      rw [hA, hB, hC]
      have := val_x (x := x) (y := y) (z := z) (t := t) k1 k2 k3
      simp only [Int.zero_mul, Int.mul_zero, Int.add_zero]
      exact this
    · simp only [Zw.zm, Zw.ic]
      rw [hA, hB]
      have := val_y (x := x) (y := y) (z := z) (t := t) (A := A) (B := B) hS
      simp only [Int.zero_mul, Int.add_zero, Int.mul_zero]
      exact this
  have e2 := congrArg Zw.norm e1
  rw [Zw.norm_mul, Zw.norm_mul, norm_at hf, norm_at hg, norm_at hh] at e2
  have e3 : (Zw.ic e : Zw s n).norm = e * e := by simp [Zw.norm, Zw.ic]
  rw [e3] at e2
  have h0 := hh.a
  have e4 : e * e * h.a ≠ 0 := Int.mul_ne_zero (Int.mul_ne_zero he he) (by omega)
  refine Int.eq_of_mul_eq_mul_left e4 ?_
  rw [show e * e * h.a = f.a * g.a by rw [hA, hB, hC]; grind]
  have e5 : f.a * g.a = e * e * h.a := by rw [hA, hB, hC]; grind
  generalize h.at _ _ = V at *
  generalize f.at x y = F at *
  generalize g.at z t = G at *
  exact val_end e2 e5

/-- What is like a form, or made of two, has no common divisor, if they have none. -/
theorem Co.pm {f g h : Qf} {k l m : Int} (hf : Fk s n f k) (hg : Fk s n g l) (hh : Fk s n h m) (c : Co s n f g h k l m) (pf : Pm f) (pg : Pm g) {r : Qf} {M : Mt} (lk : Lk h r M) (hr : 1 ≤ r.a) : Int.gcd (Int.gcd r.a r.b) r.c = 1 := by
  obtain ⟨d, hd⟩ : ∃ d : Int, d = (Int.gcd (Int.gcd r.a r.b) r.c : Int) := ⟨_, rfl⟩
  have d1 : d ∣ r.a := hd ▸ Int.dvd_trans (Int.gcd_dvd_left ..) (Int.gcd_dvd_left ..)
  have d2 : d ∣ r.b := hd ▸ Int.dvd_trans (Int.gcd_dvd_left ..) (Int.gcd_dvd_right ..)
  have d3 : d ∣ r.c := hd ▸ Int.gcd_dvd_right ..
  have d0 : 1 ≤ d := by
    rcases Int.lt_or_le d 1 with h1 | h1
    · have : d = 0 := by omega
      rw [this] at d1
      have := Int.zero_dvd.1 d1
      omega
    · exact h1
  obtain ⟨x, y, _, _, _, _, c1⟩ := choice pf d0
  obtain ⟨z, t, _, _, _, _, c2⟩ := choice pg d0
  obtain ⟨X, Y, e⟩ := c.value hf hg hh x y z t
  have c3 := Cp.mul' c1 c2
  rw [e] at c3
  have e2 := lk.back.like X Y
  rw [← e2] at c3
  have c4 : d ∣ r.at (M.s * X + -M.q * Y) (-M.r * X + M.p * Y) := by
    unfold Qf.at
    exact Int.dvd_add (Int.dvd_add (Int.dvd_trans d1 (Int.dvd_mul_left ..)) (Int.dvd_trans d2 (Int.dvd_mul_left ..))) (Int.dvd_trans d3 (Int.dvd_mul_left ..))
  have c5 : Cp d d := (Cp.of_dvd c3.symm c4)
  have := cp_pos_one c5 d0
  omega

theorem two_half {a b s : Int} (h : a = 2 * b + s) : (a - s) / 2 = b := by omega

theorem comp_gen {f g : Qf} {k l e A B S u v w L q : Int} (f1 : f.b = 2 * k + s) (f2 : f.a * f.c = k * k + s * k - n) (g1 : g.b = 2 * l + s) (g2 : g.a * g.c = l * l + s * l - n)
    (he : e ≠ 0) (hA : f.a = e * A) (hB : g.a = e * B) (hS : k + l + s = e * S) (hu : u * A + v * B + w * S = 1) (hL : v * (k - l) - w * g.c = A * q + L) :
    (∃ t1, k - (l + B * L) = A * t1) ∧ (∃ t3, g.c + S * L = A * t3) := by
  have e1 : e * (A * f.c - B * g.c) = e * ((k - l) * S) := by
    have : f.a * f.c - g.a * g.c = (k - l) * (k + l + s) := by rw [f2, g2]; grind
    rw [hA, hB, hS] at this
    grind
  have e2 : A * f.c - B * g.c = (k - l) * S := Int.eq_of_mul_eq_mul_left he e1
  have e3 : L = v * (k - l) - w * g.c - A * q := by omega
  clear e1 f1 f2 g1 g2 hA hB hS hL
  constructor
  · refine ⟨u * (k - l) + w * f.c + B * q, ?_⟩
    subst e3
    have h1 : (k - l) * (u * A + v * B + w * S) = k - l := by rw [hu]; omega
    have h2 : w * (A * f.c - B * g.c) = w * ((k - l) * S) := by rw [e2]
    clear e2 hu
    grind
  · refine ⟨u * g.c + v * f.c - S * q, ?_⟩
    subst e3
    have h1 : g.c * (u * A + v * B + w * S) = g.c := by rw [hu]; omega
    have h2 : v * (A * f.c - B * g.c) = v * ((k - l) * S) := by rw [e2]
    clear e2 hu
    grind

theorem comp_co {f g h : Qf} {k l e A B S u v w L q : Int} (hf : Fk s n f k) (hg : Fk s n g l) (pf : Pm f) (he : e ≠ 0) (hA : f.a = e * A) (hB : g.a = e * B) (hS : k + l + s = e * S) (hu : u * A + v * B + w * S = 1)
    (hL : v * (k - l) - w * g.c = A * q + L) (ha : h.a = A * B) : Co s n f g h k l (l + B * L) := by
  obtain ⟨⟨t1, h1⟩, ⟨t3, h3⟩⟩ := comp_gen hf.b hf.ac hg.b hg.ac he hA hB hS hu hL
  obtain ⟨w1, w2, w3, w4, hw⟩ := four_of (c2 := g.c) hf.b hA hS pf
  refine ⟨e, A, B, S, t1, -L, -t3, u, v, w, w1, w2, w3, w4, he, hA, hB, ha, hS, hu, by grind, h1, ?_, hw⟩
  have h4 := hg.ac
  rw [hB] at h4
  have h5 : e * B * (g.c + S * L) = e * B * (A * t3) := by rw [h3]
  have h6 : (k + l + s) * (l + B * L) = e * S * (l + B * L) := by rw [hS]
  have h7 : (k + l + s) * (B * L) = e * S * (B * L) := by rw [hS]
  clear h1 h3 hS hu hL hw hA hB
  grind


/-- The program's composition. -/
theorem comp_all {f g : Qf} (hf : 1 ≤ f.a) (hg : 1 ≤ g.a) (hde : g.disc = f.disc) (pf : Pm f) {e A B S u v w d2 L : Int} (he : 1 ≤ e) (hA : f.a = e * A) (hB : g.a = e * B) (hS : f.b + g.b = 2 * (e * S)) (hD : f.b - g.b = 2 * d2)
    (hu : u * A + v * B + w * S = 1) (hL : L = (v * d2 - w * g.c) % A) : ∃ c, A * c = e * g.c + L * (g.b + B * L) ∧ Qf.disc ⟨A * B, g.b + 2 * B * L, c⟩ = f.disc ∧
      ∀ s n : Int, (s = 0 ∨ s = 1) → f.disc = s * s + 4 * n → Co s n f g ⟨A * B, g.b + 2 * B * L, c⟩ ((f.b - s) / 2) ((g.b - s) / 2) ((g.b + 2 * B * L - s) / 2) := by
  have hq : v * d2 - w * g.c = A * ((v * d2 - w * g.c) / A) + L := by
    have := Int.emod_add_mul_ediv (v * d2 - w * g.c) A
    omega
  generalize (v * d2 - w * g.c) / A = q at hq
  clear hL
  have key : ∀ s n : Int, (s = 0 ∨ s = 1) → f.disc = s * s + 4 * n → ∃ k l, Fk s n f k ∧ Fk s n g l ∧ k = (f.b - s) / 2 ∧ l = (g.b - s) / 2 ∧ k - l = d2 ∧ k + l + s = e * S := fun s n hs hd => by
    have k1 := Fk.of (show 0 < f.a by omega) hs hd
    have k2 := Fk.of (show 0 < g.a by omega) hs (hde.trans hd)
    refine ⟨_, _, k1, k2, rfl, rfl, ?_, ?_⟩
    · have := k1.b; have := k2.b; omega
    · have := k1.b; have := k2.b; omega
  obtain ⟨s0, n0, hs0, hd0⟩ := disc_sn f
  obtain ⟨k, l, k1, k2, ek, el, e1, e2⟩ := key s0 n0 hs0 hd0
  rw [← e1] at hq
  obtain ⟨⟨t1, h1⟩, ⟨t3, h3⟩⟩ := comp_gen k1.b k1.ac k2.b k2.ac (by omega) hA hB e2 hu hq
  have hc : A * (e * t3 - L * t1) = e * g.c + L * (g.b + B * L) := by
    have x1 : A * (e * t3) = e * (g.c + S * L) := by rw [h3]; grind
    have x2 : A * (L * t1) = L * (k - (l + B * L)) := by rw [h1]; grind
    have x3 : (k + l + s0) * L = e * S * L := by rw [e2]
    have x4 := k2.b
    rw [Int.mul_sub, x1, x2, x4]
    clear x1 x2 h1 h3 e2 e1
    grind
  refine ⟨e * t3 - L * t1, hc, ?_, fun s n hs hd => ?_⟩
  · rw [← hde]
    unfold Qf.disc
    have : 4 * (A * B) * (e * t3 - L * t1) = 4 * B * (A * (e * t3 - L * t1)) := by grind
    simp only []
    rw [this, hc, hB]
    clear this hc
    grind
  · obtain ⟨k', l', k1', k2', ek', el', e1', e2'⟩ := key s n hs hd
    have e3 : (g.b + 2 * B * L - s) / 2 = l' + B * L := by
      refine two_half ?_
      rw [k2'.b]; grind
    rw [e3, ← ek', ← el']
    refine comp_co (q := q) k1' k2' pf (by omega) hA hB e2' hu ?_ rfl
    rw [e1', ← e1]; exact hq

/-- Its size. -/
theorem comp_bd {f g : Qf} (uf : f.upto 1000000) (ug : g.upto 1000000) (hf : 1 ≤ f.a) (hg : 1 ≤ g.a) (hd : f.disc < 0) {e A B L c : Int} (he : 1 ≤ e) (hA : f.a = e * A) (hB : g.a = e * B) (h0 : 0 ≤ L) (h1 : L < A) (hc : A * c = e * g.c + L * (g.b + B * L)) (hD : Qf.disc ⟨A * B, g.b + 2 * B * L, c⟩ = f.disc) :
    Qf.upto 4000000000000 ⟨A * B, g.b + 2 * B * L, c⟩ ∧ 1 ≤ A ∧ 1 ≤ B ∧ 1 ≤ A * B ∧ e ≤ 1000000 ∧ A ≤ 1000000 ∧ B ≤ 1000000 := by
  obtain ⟨_, a2, _, _, _, _⟩ := uf
  obtain ⟨_, b2, b3, b4, b5, b6⟩ := ug
  have p1 : 1 ≤ A := pos_of_mul he (by omega)
  have p2 : 1 ≤ B := pos_of_mul he (by omega)
  have le1 : ∀ {x y : Int}, 1 ≤ x → 1 ≤ y → y ≤ x * y := fun {x y} hx hy => by
    have := Int.mul_le_mul_of_nonneg_right hx (show 0 ≤ y by omega)
    omega
  have q1 : A ≤ 1000000 := by have := le1 he p1; omega
  have q2 : B ≤ 1000000 := by have := le1 he p2; omega
  have q3 : e ≤ 1000000 := by have := le1 p1 he; rw [Int.mul_comm] at this; omega
  have r1 := sq_bd (N := 1000000) (x := A) (y := B) (by omega) (by omega) (by omega) (by omega)
  have r2 : 1 ≤ A * B := by have := le1 p1 p2; omega
  have r3 := sq_bd (N := 1000000) (x := B) (y := L) (by omega) (by omega) (by omega) (by omega)
  have r3' : 0 ≤ B * L := Int.mul_nonneg (by omega) h0
  have e4 : 2 * B * L = 2 * (B * L) := Int.mul_assoc ..
  have r4 : 1 ≤ c := disc_c (f := ⟨A * B, g.b + 2 * B * L, c⟩) r2 (by rw [hD]; exact hd)
  have r5 : c ≤ 3000000000000 := by
    have x1 := sq_bd (N := 1000000) (x := e) (y := g.c) (by omega) (by omega) (by omega) (by omega)
    have x2 : L * (g.b + B * L) ≤ A * (1000000 + B * L) := by
      have y1 : L * (g.b + B * L) ≤ L * (1000000 + B * L) := Int.mul_le_mul_of_nonneg_left (by omega) h0
      have y2 : L * (1000000 + B * L) ≤ A * (1000000 + B * L) := Int.mul_le_mul_of_nonneg_right (by omega) (by omega)
      omega
    have x3 : A * c ≤ A * (1000000000000 + (1000000 + B * L)) := by
      rw [Int.mul_add A 1000000000000]
      have := le1 p1 (show (1 : Int) ≤ 1000000000000 by decide)
      omega
    have := Int.le_of_mul_le_mul_left x3 (by omega)
    omega
  refine ⟨⟨?_, ?_, ?_, ?_, ?_, ?_⟩, p1, p2, r2, q3, q1, q2⟩ <;> simp only [] <;> omega

/-- What is reduced of it is what f and g make. -/
theorem comp_cz {f g h r : Qf} {m : Mt} (hf : 1 ≤ f.a) (hg : 1 ≤ g.a) (hh : 1 ≤ h.a) (hr : 1 ≤ r.a) (hd : f.disc < 0) (hde : g.disc = f.disc) (hhd : h.disc = f.disc) (pf : Pm f) (pg : Pm g)
    (c : ∀ s n : Int, (s = 0 ∨ s = 1) → f.disc = s * s + 4 * n → Co s n f g h ((f.b - s) / 2) ((g.b - s) / 2) ((h.b - s) / 2)) (rd : Rd h r m) : Cz f g r ∧ Int.gcd (Int.gcd r.a r.b) r.c = 1 := by
  refine ⟨Cz.of (by omega) (by omega) (by omega) (by omega) (by omega) (by omega) hd hde rfl hde hhd (Lk.refl f) (Lk.refl g) rd c, ?_⟩
  obtain ⟨s, n, hs, e⟩ := disc_sn f
  exact (c s n hs e).pm (Fk.of (by omega) hs e) (Fk.of (by omega) hs (hde.trans e)) (Fk.of (by omega) hs (hhd.trans e)) pf pg (Lk.of rd) hr

/-- .. with Bezout's numbers as the program has them. -/
theorem bez_bd {a b u v G : Int} (ha : 1 ≤ a ∧ a ≤ 1000000) (hb : 1 ≤ b ∧ b ≤ 1000000) (hG : 1 ≤ G) (hl : u * a + v * b = G) (h0 : 0 ≤ u) (h1 : u ≤ b) (hGb : G ≤ b) : -1000000 ≤ v ∧ v ≤ 1000000 := by
  have x1 : 0 ≤ u * a := Int.mul_nonneg h0 (by omega)
  have x2 : u * a ≤ b * a := Int.mul_le_mul_of_nonneg_right h1 (by omega)
  have x3 : v * b ≤ 1 * b := by omega
  have x4 : -a * b ≤ v * b := by rw [Int.neg_mul, Int.mul_comm a b]; omega
  have x5 := Int.le_of_mul_le_mul_right x3 (by omega)
  have x6 := Int.le_of_mul_le_mul_right x4 (by omega)
  omega
theorem bez_bd2 {a b u v G : Int} (ha : -1000000 ≤ a ∧ a ≤ 1000000) (hb : 1 ≤ b ∧ b ≤ 1000000) (hG : 1 ≤ G) (hl : u * a + v * b = G) (h0 : 0 ≤ u) (h1 : u ≤ b) (hGb : G ≤ b) : -2000000 ≤ v ∧ v ≤ 2000000 := by
  have x1 : -(b * 1000000) ≤ u * a := by
    have y1 : u * (-1000000) ≤ u * a := Int.mul_le_mul_of_nonneg_left (by omega) h0
    omega
  have x2 : u * a ≤ b * 1000000 := by
    have y1 : u * a ≤ u * 1000000 := Int.mul_le_mul_of_nonneg_left (by omega) h0
    omega
  have x3 : v * b ≤ 2000000 * b := by omega
  have x4 : -2000000 * b ≤ v * b := by omega
  have x5 := Int.le_of_mul_le_mul_right x3 (by omega)
  have x6 := Int.le_of_mul_le_mul_right x4 (by omega)
  omega

end MQ
end Go.Proofs.Ytijkanilpblogae
