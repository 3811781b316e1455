/- Plain facts: Hasse's bound up to 2000: points counted by the digits of a product; Euler's criterion; scaling. -/
import Derived.Test.YtbeceimopamllaaDoorJnA
set_option linter.unusedVariables false
set_option maxRecDepth 100000
namespace Go.Proofs.YtbeceimopamllaaDoor
namespace HS

/-! ### Counting -/
/-- How many of the first n have e = c. -/
def cnt (e : Nat → Nat) (c : Nat) : Nat → Nat
  | 0 => 0
  | n + 1 => cnt e c n + if e n = c then 1 else 0
theorem cnt_congr {e e' : Nat → Nat} {c c' : Nat} : ∀ n, (∀ i, i < n → (e i = c ↔ e' i = c')) → cnt e c n = cnt e' c' n
  | 0, _ => rfl
  | n + 1, h => by
    rw [cnt, cnt, cnt_congr n (fun i hi => h i (by omega))]
    have := h n (by omega)
    by_cases q : e n = c
    · rw [if_pos q, if_pos (this.1 q)]
    · rw [if_neg q, if_neg (fun k => q (this.2 k))]
theorem cnt_zero {e : Nat → Nat} {c : Nat} : ∀ n, (∀ i, i < n → e i ≠ c) → cnt e c n = 0
  | 0, _ => rfl
  | n + 1, h => by rw [cnt, cnt_zero n (fun i hi => h i (by omega)), if_neg (h n (by omega))]
/-- At two places at most. -/
theorem cnt_two {e : Nat → Nat} {c y1 y2 : Nat} : ∀ n, (∀ i, i < n → e i = c → i = y1 ∨ i = y2) → cnt e c n ≤ (if y1 < n then 1 else 0) + (if y2 < n then 1 else 0)
  | 0, _ => by simp [cnt]
  | n + 1, h => by
    have ih := cnt_two n (fun i hi => h i (by omega))
    have hn := h n (by omega)
    rw [cnt]
    split <;> split <;> split <;> (try split at ih) <;> (try split at ih) <;> first | omega | (rename_i q _ _; have := hn q; omega) | (rename_i q _ _ _ _; have := hn q; omega) | skip
/-- At two places at least. -/
theorem two_cnt {e : Nat → Nat} {c y1 y2 : Nat} (hy : y1 ≠ y2) (h1 : e y1 = c) (h2 : e y2 = c) : ∀ n, (if y1 < n then 1 else 0) + (if y2 < n then 1 else 0) ≤ cnt e c n
  | 0 => by simp [cnt]
  | n + 1 => by
    have ih := two_cnt hy h1 h2 n
    rw [cnt]
    by_cases q1 : y1 = n
    · subst q1
      rw [if_pos h1]
      split <;> split <;> (split at ih) <;> (split at ih) <;> omega
    · by_cases q2 : y2 = n
      · subst q2
        rw [if_pos h2]
        split <;> split <;> (split at ih) <;> (split at ih) <;> omega
      · split <;> split <;> (split at ih) <;> (split at ih) <;> omega

/-! ### Sums -/
def sg (g : Nat → Nat) : Nat → Nat
  | 0 => 0
  | n + 1 => sg g n + g n
theorem sg_congr {g h : Nat → Nat} : ∀ n, (∀ i, i < n → g i = h i) → sg g n = sg h n
  | 0, _ => rfl
  | n + 1, k => by rw [sg, sg, sg_congr n (fun i hi => k i (by omega)), k n (by omega)]
theorem sg_pd (g : Nat → Nat) : ∀ n, pd (fun i => 2 ^ g i) n = 2 ^ sg g n
  | 0 => rfl
  | n + 1 => by rw [pd, sg, sg_pd g n, Nat.pow_add]
theorem sg_perm (N : Nat) (f : Nat → Nat) (h1 : ∀ i, i < N → f i < N) (h2 : ∀ i j, i < j → j < N → f i ≠ f j) (g : Nat → Nat) : sg (fun i => g (f i)) N = sg g N := by
  have h := pd_perm N f h1 h2 (fun i => 2 ^ g i)
  rw [sg_pd g N, sg_pd (fun i => g (f i)) N] at h
  rcases Nat.lt_trichotomy (sg (fun i => g (f i)) N) (sg g N) with c | c | c
  · have := Nat.pow_lt_pow_right (a := 2) (by omega) c; omega
  · exact c
  · have := Nat.pow_lt_pow_right (a := 2) (by omega) c; omega
theorem sg_add (g h : Nat → Nat) : ∀ n, sg (fun i => g i + h i) n = sg g n + sg h n
  | 0 => rfl
  | n + 1 => by rw [sg, sg, sg, sg_add g h n]; omega
theorem sg_le {g : Nat → Nat} {B : Nat} : ∀ n, (∀ i, i < n → g i ≤ B) → sg g n ≤ B * n
  | 0, _ => by simp [sg]
  | n + 1, h => by
    rw [sg, Nat.mul_succ]
    have := sg_le n (fun i hi => h i (by omega))
    have := h n (by omega)
    omega
/-- What two make up together. -/
theorem sg_both {g h : Nat → Nat} {B : Nat} : ∀ n, (∀ i, i < n → g i + h i = B) → sg g n + sg h n = B * n
  | 0, _ => by simp [sg]
  | n + 1, k => by
    rw [sg, sg, Nat.mul_succ, ← sg_both n (fun i hi => k i (by omega)), ← k n (by omega)]
    omega

/-! ### Digits -/
def val (d : Nat → Nat) : Nat → Nat
  | 0 => 0
  | C + 1 => val d C + d C * 4096 ^ C
theorem val_lt {d : Nat → Nat} (hd : ∀ c, d c < 4096) : ∀ C, val d C < 4096 ^ C
  | 0 => by simp [val]
  | C + 1 => by
    have := val_lt hd C
    have h := hd C
    rw [val, Nat.pow_succ]
    have h2 : d C * 4096 ^ C ≤ 4095 * 4096 ^ C := Nat.mul_le_mul_right _ (by omega)
    omega
theorem val_digit {d : Nat → Nat} (hd : ∀ c, d c < 4096) : ∀ C c, c < C → val d C / 4096 ^ c % 4096 = d c
  | 0, c, h => by omega
  | C + 1, c, h => by
    by_cases e : c = C
    · subst e
      rw [val, Nat.add_mul_div_right _ _ (Nat.pow_pos (by omega)), Nat.div_eq_of_lt (val_lt hd c), Nat.zero_add, Nat.mod_eq_of_lt (hd c)]
    · have ih := val_digit hd C c (by omega)
      obtain ⟨k, hk⟩ : ∃ k, C = c + 1 + k := ⟨C - (c + 1), by omega⟩
      have e2 : d C * 4096 ^ C = 4096 ^ c * (4096 * (d C * 4096 ^ k)) := by
        rw [hk, Nat.pow_add, Nat.pow_add]; simp only [Nat.pow_one]; grind
      rw [val, e2, Nat.add_mul_div_left _ _ (Nat.pow_pos (by omega)), Nat.add_mul_mod_self_left, ih]
theorem val_add (d d' : Nat → Nat) : ∀ C, val d C + val d' C = val (fun c => d c + d' c) C
  | 0 => rfl
  | C + 1 => by rw [val, val, val, ← val_add d d' C, Nat.add_mul]; omega
theorem val_zero : ∀ C, val (fun _ => 0) C = 0
  | 0 => rfl
  | C + 1 => by rw [val, val_zero C]; simp
theorem val_one (e : Nat) : ∀ C, e < C → val (fun c => if e = c then 1 else 0) C = 4096 ^ e
  | 0, h => by omega
  | C + 1, h => by
    rw [val]
    by_cases q : e = C
    · subst q
      have : val (fun c => if e = c then 1 else 0) e = 0 := by
        have : ∀ n, n ≤ e → val (fun c => if e = c then 1 else 0) n = 0 := by
          intro n
          induction n with
          | zero => intro _; rfl
          | succ n ih => intro hn; rw [val, ih (by omega), if_neg (by omega)]; simp
        exact this e (Nat.le_refl _)
      rw [this]; simp
    · rw [val_one e C (by omega), if_neg q]; simp
noncomputable def sm (f : Nat → Nat) (n : Nat) : Nat := Nat.rec 0 (fun i s => s + 4096 ^ f i) n
theorem sm_zero (f : Nat → Nat) : sm f 0 = 0 := rfl
theorem sm_succ (f : Nat → Nat) (n : Nat) : sm f (n + 1) = sm f n + 4096 ^ f n := rfl
theorem sm_val {f : Nat → Nat} {C : Nat} : ∀ n, (∀ i, i < n → f i < C) → sm f n = val (fun c => cnt f c n) C
  | 0, _ => by rw [sm_zero]; exact (val_zero C).symm
  | n + 1, h => by
    rw [sm_succ, sm_val n (fun i hi => h i (by omega)), ← val_one (f n) C (h n (by omega)), val_add]
    rfl
theorem sm_shift (e : Nat) (g : Nat → Nat) : ∀ m, 4096 ^ e * sm g m = sm (fun j => e + g j) m
  | 0 => rfl
  | m + 1 => by rw [sm_succ, sm_succ, Nat.mul_add, sm_shift e g m, Nat.pow_add]
/-- Two sums, multiplied: each digit counts pairs. -/
theorem sm_mul {f g : Nat → Nat} {m C : Nat} : ∀ n, (∀ i j, i < n → j < m → f i + g j < C) → sm f n * sm g m = val (fun c => sg (fun i => cnt (fun j => f i + g j) c m) n) C
  | 0, _ => by rw [sm_zero, Nat.zero_mul]; exact (val_zero C).symm
  | n + 1, h => by
    rw [sm_succ, Nat.add_mul, sm_mul n (fun i j hi hj => h i j (by omega) hj), sm_shift, sm_val m (fun j hj => h n j (by omega) hj), val_add]
    rfl

/-! ### Roots by a prime that has a generator -/
structure Gen (P g : Nat) : Prop where
  pr : Pr P
  p5 : 5 ≤ P
  one : g ^ (P - 1) % P = 1
  less : ∀ e, 0 < e → e < P - 1 → g ^ e % P ≠ 1

def rt (P s : Nat) : Nat := cnt (fun y => y * y % P) s P

theorem Gen.odd {P g : Nat} (h : Gen P g) : P % 2 = 1 := by
  rcases Nat.mod_two_eq_zero_or_one P with e | e
  · have := h.pr.2 2 (Nat.dvd_of_mod_eq_zero e)
    have := h.p5
    omega
  · exact e
theorem Gen.all {P g : Nat} (h : Gen P g) {c : Nat} (h0 : 0 < c) (h1 : c < P) : ∃ k, k < P - 1 ∧ g ^ k % P = c :=
  powers_all (by have := h.p5; omega) h.one h.less c h0 h1
theorem Gen.ne {P g : Nat} (h : Gen P g) (k : Nat) : g ^ k % P ≠ 0 := by
  intro e
  have h1 : P ∣ g := pr_pow h.pr k (Nat.dvd_of_mod_eq_zero e)
  have h2 : g ^ (P - 1) % P = 0 := by
    obtain ⟨t, ht⟩ : ∃ t, P - 1 = t + 1 := ⟨P - 2, by have := h.p5; omega⟩
    rw [ht, Nat.pow_succ]
    exact Nat.mod_eq_zero_of_dvd (Nat.dvd_trans h1 ⟨g ^ t, Nat.mul_comm _ _⟩)
  rw [h.one] at h2
  cases h2
/-- Squares that are the same: the roots are the same, or opposite. -/
theorem sq_same {P y z : Nat} (hp : Pr P) (hy : y < P) (hz : z < P) (h : y * y % P = z * z % P) : z = y ∨ z = P - y := by
  have key : ∀ a b : Nat, b ≤ a → a < P → a * a % P = b * b % P → a = b ∨ a + b = P ∨ a + b = 0 := by
    intro a b hab ha e
    have h1 : P ∣ a * a - b * b := Nat.dvd_of_mod_eq_zero (Nat.sub_mod_eq_zero_of_mod_eq e)
    have h2 : a * a - b * b = (a - b) * (a + b) := by
      obtain ⟨t, rfl⟩ : ∃ t, a = b + t := ⟨a - b, by omega⟩
      rw [Nat.add_sub_cancel_left]
      have : (b + t) * (b + t) = t * (b + t + b) + b * b := by grind
      omega
    rw [h2] at h1
    rcases pr_mul hp h1 with d | d
    · have := Nat.eq_zero_of_dvd_of_lt d (by omega)
      left; omega
    · obtain ⟨k, hk⟩ := d
      rcases k with _ | _ | k
      · omega
      · right; left; omega
      · exfalso
        have := Nat.mul_le_mul_left P (show 2 ≤ k + 1 + 1 by omega)
        omega
  rcases Nat.le_total y z with c | c
  · have := key z y c hz h.symm; omega
  · have := key y z c hy h; omega
theorem rt_zero {P g : Nat} (h : Gen P g) : rt P 0 = 1 := by
  have h5 := h.p5
  unfold rt
  obtain ⟨n, hn⟩ : ∃ n, P = n + 1 := ⟨P - 1, by omega⟩
  have key : ∀ m, m < P → cnt (fun y => y * y % P) 0 (m + 1) = 1 := by
    intro m
    induction m with
    | zero => intro _; simp [cnt]
    | succ m ih =>
      intro hm
      rw [cnt, ih (by omega), if_neg]
      intro e
      have := pr_mul h.pr (Nat.dvd_of_mod_eq_zero e)
      have hd : P ∣ m + 1 := by rcases this with d | d <;> exact d
      exact absurd (Nat.le_of_dvd (by omega) hd) (by omega)
  have := key (P - 1) (by omega)
  rwa [show P - 1 + 1 = P by omega] at this
theorem rt_even {P g : Nat} (h : Gen P g) (m : Nat) : rt P (g ^ (2 * m) % P) = 2 := by
  have h5 := h.p5
  have ho := h.odd
  have h0 := h.ne m
  obtain ⟨y, hy⟩ : ∃ y, g ^ m % P = y := ⟨_, rfl⟩
  have hyP : y < P := by rw [← hy]; exact Nat.mod_lt _ (by omega)
  have e1 : y * y % P = g ^ (2 * m) % P := by rw [← hy, ← Nat.mul_mod, ← Nat.pow_add]; congr 2; omega
  have e2 : (P - y) * (P - y) % P = g ^ (2 * m) % P := by
    rw [← e1]
    have : (P - y) * (P - y) + 2 * (P * y) = P * P + y * y := by
      obtain ⟨t, ht⟩ : ∃ t, P = y + t := ⟨P - y, by omega⟩
      rw [ht, Nat.add_sub_cancel_left]; grind
    have h3 : ((P - y) * (P - y) + 2 * (P * y)) % P = (P * P + y * y) % P := by rw [this]
    rw [show 2 * (P * y) = P * (2 * y) by grind, Nat.add_mul_mod_self_left, show P * P + y * y = y * y + P * P by omega, Nat.add_mul_mod_self_left] at h3
    exact h3
  unfold rt
  have up := cnt_two (e := fun y => y * y % P) (c := g ^ (2 * m) % P) (y1 := y) (y2 := P - y) P (fun i hi hc => sq_same h.pr hyP hi (by rw [e1, hc]))
  have lo := two_cnt (e := fun y => y * y % P) (c := g ^ (2 * m) % P) (y1 := y) (y2 := P - y) (by omega) e1 e2 P
  rw [if_pos hyP, if_pos (by omega)] at up lo
  omega
theorem rt_odd {P g : Nat} (h : Gen P g) (m : Nat) : rt P (g ^ (2 * m + 1) % P) = 0 := by
  have h5 := h.p5
  have ho := h.odd
  unfold rt
  refine cnt_zero P (fun y hy e => ?_)
  rcases Nat.eq_zero_or_pos y with c | c
  · subst c
    simp at e
    exact h.ne (2 * m + 1) e.symm
  obtain ⟨j, hj, ej⟩ := h.all c hy
  have e2 : g ^ (2 * j) % P = g ^ (2 * m + 1) % P := by
    rw [← e, ← ej, ← Nat.mul_mod, ← Nat.pow_add]; congr 2; omega
  have hd : ∀ x y, x ≤ y → g ^ x % P = g ^ y % P → (P - 1) ∣ y - x := fun x y hxy he =>
    order_dvd (by omega) (by omega) h.one h.less (pow_cancel (by omega) (by omega) h.one hxy he)
  have h2 : 2 ∣ P - 1 := ⟨(P - 1) / 2, by omega⟩
  rcases Nat.le_total (2 * j) (2 * m + 1) with q | q
  · have := Nat.dvd_trans h2 (hd _ _ q e2)
    omega
  · have := Nat.dvd_trans h2 (hd _ _ q e2.symm)
    omega
theorem rt_le {P g : Nat} (h : Gen P g) {s : Nat} (hs : s < P) : rt P s ≤ 2 := by
  rcases Nat.eq_zero_or_pos s with c | c
  · subst c; rw [rt_zero h]; omega
  · obtain ⟨k, _, e⟩ := h.all c hs
    rw [← e]
    rcases Nat.mod_two_eq_zero_or_one k with q | q
    · rw [show k = 2 * (k / 2) by omega, rt_even h]; omega
    · rw [show k = 2 * (k / 2) + 1 by omega, rt_odd h]; omega
/-- Times the generator: the other way round. -/
theorem rt_gen {P g : Nat} (h : Gen P g) (c : Nat) : rt P (g * c % P) + rt P (c % P) = 2 := by
  have h5 := h.p5
  rcases Nat.eq_zero_or_pos (c % P) with q | q
  · rw [Nat.mul_mod, q, Nat.mul_zero, Nat.zero_mod, rt_zero h]
  · obtain ⟨k, _, e⟩ := h.all q (Nat.mod_lt c (by omega))
    have e2 : g * c % P = g ^ (k + 1) % P := by rw [Nat.mul_mod, ← e, ← Nat.mul_mod, Nat.mul_comm, ← Nat.pow_succ]
    rw [e2, ← e]
    rcases Nat.mod_two_eq_zero_or_one k with t | t
    · rw [show k + 1 = 2 * (k / 2) + 1 by omega, rt_odd h]
      rw [show g ^ k = g ^ (2 * (k / 2)) by congr 1; omega, rt_even h]
    · rw [show k + 1 = 2 * (k / 2 + 1) by omega, rt_even h]
      rw [show g ^ k = g ^ (2 * (k / 2) + 1) by congr 1; omega, rt_odd h]
/-- Euler. -/
theorem euler {P g : Nat} (h : Gen P g) (c : Nat) : (c ^ ((P - 1) / 2) % P = P - 1 ∧ rt P (c % P) = 0) ∨ (c ^ ((P - 1) / 2) % P ≠ P - 1 ∧ c ^ ((P - 1) / 2) % P + 1 = rt P (c % P)) := by
  have h5 := h.p5
  have ho := h.odd
  have hE : (P - 1) / 2 * 2 = P - 1 := by omega
  rcases Nat.eq_zero_or_pos (c % P) with q | q
  · right
    have : c ^ ((P - 1) / 2) % P = 0 := by
      rw [Nat.pow_mod, q, Nat.zero_pow (by omega), Nat.zero_mod]
    rw [this, q, rt_zero h]
    omega
  · obtain ⟨k, _, e⟩ := h.all q (Nat.mod_lt c (by omega))
    have e1 : c ^ ((P - 1) / 2) % P = g ^ (k * ((P - 1) / 2)) % P := by rw [Nat.pow_mod, ← e, ← Nat.pow_mod, ← Nat.pow_mul]
    rw [e1, ← e]
    rcases Nat.mod_two_eq_zero_or_one k with t | t
    · right
      have e2 : g ^ (k * ((P - 1) / 2)) % P = 1 := by
        rw [show k * ((P - 1) / 2) = (P - 1) * (k / 2) by
          have : k = 2 * (k / 2) := by omega
          rw [this, Nat.mul_assoc, Nat.mul_comm, Nat.mul_assoc, hE]
          simp [Nat.mul_comm]]
        exact pow_mod_one (by omega) h.one _
      rw [e2, show g ^ k = g ^ (2 * (k / 2)) by congr 1; omega, rt_even h]
      omega
    · left
      have e2 : g ^ (k * ((P - 1) / 2)) % P = g ^ ((P - 1) / 2) % P := by
        have hk : k * ((P - 1) / 2) = (P - 1) * (k / 2) + (P - 1) / 2 := by
          have : k = 2 * (k / 2) + 1 := by omega
          generalize (P - 1) / 2 = E at *
          generalize k / 2 = K at *
          subst this
          rw [← hE]; grind
        rw [hk, Nat.pow_add, Nat.mul_mod, pow_mod_one (by omega) h.one, Nat.one_mul, Nat.mod_mod]
      refine ⟨?_, by rw [show g ^ k = g ^ (2 * (k / 2) + 1) by congr 1; omega, rt_odd h]⟩
      rw [e2]
      have hne := h.less ((P - 1) / 2) (by omega) (by omega)
      have hsq : (g ^ ((P - 1) / 2) % P) * (g ^ ((P - 1) / 2) % P) % P = 1 := by
        rw [← Nat.mul_mod, ← Nat.pow_add, show (P - 1) / 2 + (P - 1) / 2 = P - 1 by omega, h.one]
      rcases root_one h.pr (Nat.mod_lt _ (by omega)) hsq with r | r
      · exact absurd r hne
      · exact r

/-! ### How many points there are, beside the one that is far -/
def aff (P a b : Nat) : Nat := sg (fun x => rt P ((x * x * x + a * x + b) % P)) P

theorem cnt_shift (g : Nat → Nat) (f c n : Nat) : cnt (fun j => f + g j) c n = if f ≤ c then cnt g (c - f) n else 0 := by
  split
  · rename_i h
    exact cnt_congr n (fun i _ => by omega)
  · exact cnt_zero n (fun i _ => by omega)
theorem cnt_far {P s : Nat} (hP : 0 < P) (h : P ≤ s) : cnt (fun y => y * y % P) s P = 0 := cnt_zero P (fun i _ => by have := Nat.mod_lt (i * i) hP; omega)
theorem cnt_le {P g : Nat} (h : Gen P g) (f c : Nat) : cnt (fun y => f + y * y % P) c P ≤ 2 := by
  have h5 := h.p5
  rw [cnt_shift (fun y => y * y % P)]
  split
  · rcases Nat.lt_or_ge (c - f) P with q | q
    · exact rt_le h q
    · rw [cnt_far (by omega) q]; omega
  · omega
/-- Both digits together are the roots. -/
theorem cnt_both {P v b : Nat} (hv : v < P) (hb : b < P) : cnt (fun y => (P - v) + y * y % P) b P + cnt (fun y => (P - v) + y * y % P) (b + P) P = rt P ((v + b) % P) := by
  rw [cnt_shift (fun y => y * y % P), cnt_shift (fun y => y * y % P), if_pos (show P - v ≤ b + P by omega)]
  unfold rt
  rcases Nat.lt_or_ge (v + b) P with c | c
  · rw [if_neg (by omega), Nat.mod_eq_of_lt c, Nat.zero_add]
    congr 1
    omega
  · rw [if_pos (by omega), cnt_far (s := b + P - (P - v)) (by omega) (by omega), Nat.mod_eq_sub_mod c, Nat.mod_eq_of_lt (by omega)]
    simp only [Nat.add_zero]
    congr 1
    omega

/-- What Hasse's bound says of a number of points. -/
def Hs (P N : Nat) : Prop := N * N + P * P ≤ 4 * P + 2 * (N * P)
noncomputable def okN (P X n : Nat) : Bool := Nat.rec true (fun b r => (fun N => Nat.ble (N * N + P * P) (4 * P + 2 * (N * P))) (X / 4096 ^ b % 4096 + X / 4096 ^ (b + P) % 4096) && r) n
theorem okN_at {P X : Nat} : ∀ n, okN P X n = true → ∀ b, b < n → Hs P (X / 4096 ^ b % 4096 + X / 4096 ^ (b + P) % 4096)
  | 0, _, b, hb => by omega
  | n + 1, h, b, hb => by
    have h' : ((Nat.ble ((X / 4096 ^ n % 4096 + X / 4096 ^ (n + P) % 4096) * (X / 4096 ^ n % 4096 + X / 4096 ^ (n + P) % 4096) + P * P) (4 * P + 2 * ((X / 4096 ^ n % 4096 + X / 4096 ^ (n + P) % 4096) * P))) && okN P X n) = true := h
    rw [Bool.and_eq_true] at h'
    rcases Nat.lt_or_ge b n with c | c
    · exact okN_at n h'.2 b c
    · obtain rfl : b = n := by omega
      exact Nat.le_of_ble_eq_true h'.1
noncomputable def chkA (P a : Nat) : Bool := okN P (sm (fun x => P - (x * x * x + a * x) % P) P * sm (fun y => y * y % P) P) P

theorem hs_rep {P g a : Nat} (h : Gen P g) (hP : P ≤ 2000) (hc : chkA P a = true) (b : Nat) (hb : b < P) : Hs P (aff P a b) := by
  have h5 := h.p5
  have hk := okN_at P hc b hb
  have hm := sm_mul (f := fun x => P - (x * x * x + a * x) % P) (g := fun y => y * y % P) (m := P) (C := 2 * P) P (fun i j _ _ => by
    have := Nat.mod_lt (j * j) (show 0 < P by omega)
    omega)
  have hd : ∀ c, sg (fun i => cnt (fun j => (P - (i * i * i + a * i) % P) + j * j % P) c P) P < 4096 := fun c => by
    have := sg_le (g := fun i => cnt (fun j => (P - (i * i * i + a * i) % P) + j * j % P) c P) (B := 2) P (fun i _ => cnt_le h _ c)
    omega
  rw [hm, val_digit hd (2 * P) b (by omega), val_digit hd (2 * P) (b + P) (by omega), ← sg_add] at hk
  have e : sg (fun i => cnt (fun j => (P - (i * i * i + a * i) % P) + j * j % P) b P + cnt (fun j => (P - (i * i * i + a * i) % P) + j * j % P) (b + P) P) P = aff P a b := by
    unfold aff
    refine sg_congr P (fun i _ => ?_)
    rw [cnt_both (Nat.mod_lt _ (by omega)) hb, Nat.mod_add_mod]
  rw [e] at hk
  exact hk

theorem addc {P x x' y y' : Nat} (h : x % P = x' % P) (k : y % P = y' % P) : (x + y) % P = (x' + y') % P := by rw [Nat.add_mod, h, k, ← Nat.add_mod]
theorem mulc {P x x' y y' : Nat} (h : x % P = x' % P) (k : y % P = y' % P) : (x * y) % P = (x' * y') % P := by rw [Nat.mul_mod, h, k, ← Nat.mul_mod]
theorem aff_mod (P a b a' b' : Nat) (ha : a % P = a' % P) (hb : b % P = b' % P) : aff P a b = aff P a' b' := by
  unfold aff
  refine sg_congr P (fun x _ => ?_)
  congr 1
  exact addc (addc rfl (mulc ha rfl)) hb

theorem rt_cube {P g : Nat} (h : Gen P g) (c : Nat) : rt P (g * (g * (g * c)) % P) + rt P (c % P) = 2 := by
  have h1 := rt_gen h c
  have h2 := rt_gen h (g * c)
  have h3 := rt_gen h (g * (g * c))
  omega

/-- One step: the other way round. -/
theorem aff_step {P g : Nat} (h : Gen P g) (a b : Nat) : aff P (g * g * a) (g * g * g * b) + aff P a b = 2 * P := by
  have h5 := h.p5
  have hg0 : g % P ≠ 0 := by have := h.ne 1; rwa [Nat.pow_one] at this
  have e : aff P (g * g * a) (g * g * g * b) = sg (fun x => rt P (g * (g * (g * (x * x * x + a * x + b))) % P)) P := by
    unfold aff
    rw [← sg_perm P (fun x => g * x % P) (fun i _ => Nat.mod_lt _ (by omega)) (fun i j hij hj e => by
      have h1 : P ∣ g * j - g * i := Nat.dvd_of_mod_eq_zero (Nat.sub_mod_eq_zero_of_mod_eq e.symm)
      rw [← Nat.mul_sub] at h1
      rcases pr_mul h.pr h1 with d | d
      · exact hg0 (Nat.mod_eq_zero_of_dvd d)
      · have := Nat.eq_zero_of_dvd_of_lt d (by omega)
        omega) (fun x => rt P ((x * x * x + g * g * a * x + g * g * g * b) % P))]
    refine sg_congr P (fun x _ => ?_)
    congr 1
    have e1 : (g * x % P) * (g * x % P) * (g * x % P) % P = (g * x) * (g * x) * (g * x) % P := by
      exact mulc (mulc (Nat.mod_mod _ _) (Nat.mod_mod _ _)) (Nat.mod_mod _ _)
    have e2 : g * g * a * (g * x % P) % P = g * g * a * (g * x) % P := by rw [Nat.mul_mod, Nat.mod_mod, ← Nat.mul_mod]
    refine (addc (addc e1 e2) rfl).trans ?_
    congr 1
    grind
  rw [e]
  unfold aff
  exact sg_both P (fun x _ => rt_cube h _)

theorem Hs.turn {P N M : Nat} (h : Hs P N) (e : M + N = 2 * P) : Hs P M := by
  unfold Hs at h ⊢
  have hh : (M : Int) = 2 * P - N := by omega
  have h1 : ((N : Int) * N + P * P ≤ 4 * P + 2 * (N * P)) := by exact_mod_cast h
  have h2 : ((M : Int) * M + P * P ≤ 4 * P + 2 * (M * P)) := by
    rw [hh]
    have : (2 * (P : Int) - N) * (2 * P - N) + P * P - (4 * P + 2 * ((2 * P - N) * P)) = N * N + P * P - (4 * P + 2 * (N * P)) := by grind
    omega
  exact_mod_cast h2

theorem hs_scale {P g : Nat} (h : Gen P g) (a b : Nat) (hs : Hs P (aff P a b)) : ∀ j, Hs P (aff P (g ^ (2 * j) * a) (g ^ (3 * j) * b))
  | 0 => by simpa using hs
  | j + 1 => by
    have ih := hs_scale h a b hs j
    have e := aff_step h (g ^ (2 * j) * a) (g ^ (3 * j) * b)
    have e1 : g * g * (g ^ (2 * j) * a) = g ^ (2 * (j + 1)) * a := by
      rw [show 2 * (j + 1) = 2 * j + 1 + 1 by omega, Nat.pow_succ, Nat.pow_succ]; grind
    have e2 : g * g * g * (g ^ (3 * j) * b) = g ^ (3 * (j + 1)) * b := by
      rw [show 3 * (j + 1) = 3 * j + 1 + 1 + 1 by omega, Nat.pow_succ, Nat.pow_succ, Nat.pow_succ]; grind
    rw [e1, e2] at e
    exact ih.turn e

/-- Hasse's bound, of all curves by this prime. -/
theorem hs_all {P g : Nat} (h : Gen P g) (hP : P ≤ 2000) (c0 : chkA P 0 = true) (c1 : chkA P 1 = true) (cg : chkA P g = true) (a b : Nat) (ha : a < P) (hb : b < P) : Hs P (aff P a b) := by
  have h5 := h.p5
  rcases Nat.eq_zero_or_pos a with q | q
  · subst q; exact hs_rep h hP c0 b hb
  obtain ⟨k, _, e⟩ := h.all q ha
  have key : ∀ j r, k = 2 * j + r → (∀ b, b < P → Hs P (aff P (g ^ r) b)) → Hs P (aff P a b) := by
    intro j r hk hr
    have h1 := hs_scale h (g ^ r) (g ^ (3 * j * (P - 2)) * b % P) (hr _ (Nat.mod_lt _ (by omega))) j
    have ea : (g ^ (2 * j) * g ^ r) % P = a % P := by rw [← Nat.pow_add, ← hk, e, Nat.mod_eq_of_lt ha]
    have eb : (g ^ (3 * j) * (g ^ (3 * j * (P - 2)) * b % P)) % P = b % P := by
      rw [Nat.mul_mod_mod, ← Nat.mul_assoc, ← Nat.pow_add, show 3 * j + 3 * j * (P - 2) = (P - 1) * (3 * j) by
        obtain ⟨t, ht⟩ : ∃ t, P = t + 2 := ⟨P - 2, by omega⟩
        rw [ht, show t + 2 - 2 = t by omega, show t + 2 - 1 = t + 1 by omega]; grind, Nat.mul_mod, pow_mod_one (by omega) h.one, Nat.one_mul, Nat.mod_mod]
    rw [← aff_mod P _ _ a b ea eb]
    exact h1
  rcases Nat.mod_two_eq_zero_or_one k with t | t
  · refine key (k / 2) 0 (by omega) (fun b hb => ?_)
    rw [Nat.pow_zero]
    exact hs_rep h hP c1 b hb
  · refine key (k / 2) 1 (by omega) (fun b hb => ?_)
    rw [Nat.pow_one]
    exact hs_rep h hP cg b hb

noncomputable def genB (P g : Nat) : Bool := (g ^ (P - 1) % P == 1) && Nat.rec true (fun e r => (e == 0 || g ^ e % P != 1) && r) (P - 1)
theorem genB_at {P g : Nat} (hp : Pr P) (h5 : 5 ≤ P) (h : genB P g = true) : Gen P g := by
  unfold genB at h
  rw [Bool.and_eq_true] at h
  refine ⟨hp, h5, by simpa using h.1, ?_⟩
  have key : ∀ n, (Nat.rec true (fun e r => (e == 0 || g ^ e % P != 1) && r) n : Bool) = true → ∀ e, 0 < e → e < n → g ^ e % P ≠ 1 := by
    intro n
    induction n with
    | zero => intro _ e _ he; omega
    | succ n ih =>
      intro hn e e0 en
      have hn' : ((n == 0 || g ^ n % P != 1) && (Nat.rec true (fun e r => (e == 0 || g ^ e % P != 1) && r) n : Bool)) = true := hn
      rw [Bool.and_eq_true] at hn'
      rcases Nat.lt_or_ge e n with c | c
      · exact ih hn'.2 e e0 c
      · obtain rfl : e = n := by omega
        have h1 := hn'.1
        simp only [Bool.or_eq_true, beq_iff_eq, bne_iff_ne] at h1
        rcases h1 with h1 | h1
        · omega
        · exact h1
  exact key (P - 1) h.2
noncomputable def chkP (P g : Nat) : Bool := genB P g && (chkA P 0 && (chkA P 1 && chkA P g))
noncomputable def chkL (l : List (Nat × Nat)) : Bool := List.rec true (fun x _ r => chkP x.1 x.2 && r) l
theorem chkL_at {l : List (Nat × Nat)} (h : chkL l = true) : ∀ x ∈ l, chkP x.1 x.2 = true := by
  induction l with
  | nil => intro x hx; simp at hx
  | cons y l ih =>
    intro x hx
    have h' : (chkP y.1 y.2 && chkL l) = true := h
    rw [Bool.and_eq_true] at h'
    rcases List.mem_cons.1 hx with e | e
    · rw [e]; exact h'.1
    · exact ih h'.2 x e
end HS
end Go.Proofs.YtbeceimopamllaaDoor
