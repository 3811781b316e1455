
section
/- Plain facts: primes, orders, Lucas' and Pratt's theorem, Fermat's and Miller's. -/
set_option linter.unusedVariables false
set_option maxRecDepth 100000
namespace Go.Proofs.YtbeceimopamllaaDoor

/-- A prime. -/
def Pr (n : Nat) : Prop := 2 ≤ n ∧ ∀ d, d ∣ n → d = 1 ∨ d = n

theorem pr_divisor (n : Nat) (h : 2 ≤ n) : ∃ p, Pr p ∧ p ∣ n := by
  induction n using Nat.strongRecOn with
  | ind n ih =>
    by_cases hp : ∃ d, d ∣ n ∧ d ≠ 1 ∧ d ≠ n
    · obtain ⟨d, hd, h1, hn⟩ := hp
      have hle : d ≤ n := Nat.le_of_dvd (by omega) hd
      have h0 : d ≠ 0 := by rintro rfl; have := Nat.eq_zero_of_zero_dvd hd; omega
      obtain ⟨p, hp, hpd⟩ := ih d (by omega) (by omega)
      exact ⟨p, hp, Nat.dvd_trans hpd hd⟩
    · refine ⟨n, ⟨h, fun d hd => ?_⟩, Nat.dvd_refl _⟩
      by_cases h1 : d = 1
      · exact .inl h1
      · by_cases h2 : d = n
        · exact .inr h2
        · exact absurd ⟨d, hd, h1, h2⟩ hp

theorem pr_mul {p a b : Nat} (hp : Pr p) (h : p ∣ a * b) : p ∣ a ∨ p ∣ b := by
  rcases hp.2 (Nat.gcd p a) (Nat.gcd_dvd_left ..) with hg | hg
  · exact .inr (Nat.Coprime.dvd_of_dvd_mul_left hg h)
  · refine .inl ?_
    have := Nat.gcd_dvd_right p a
    rwa [hg] at this

theorem pr_pow {p a : Nat} (hp : Pr p) (k : Nat) (h : p ∣ a ^ k) : p ∣ a := by
  induction k with
  | zero =>
    rw [Nat.pow_zero] at h
    have := Nat.le_of_dvd (by decide) h
    have := hp.1
    omega
  | succ k ih =>
    rw [Nat.pow_succ] at h
    rcases pr_mul hp h with h | h
    · exact ih h
    · exact h

/-! ### Orders -/

theorem pow_mod_one {a n N : Nat} (hn : 1 < n) (h : a ^ N % n = 1) (k : Nat) : a ^ (N * k) % n = 1 := by
  rw [Nat.pow_mul, Nat.pow_mod, h, Nat.one_pow, Nat.mod_eq_of_lt hn]

/-- a is invertible: what a^i and a^j leave in common may be divided away. -/
theorem pow_cancel {a n N i j : Nat} (hn : 1 < n) (hN : 0 < N) (h : a ^ N % n = 1) (hij : i ≤ j) (he : a ^ i % n = a ^ j % n) : a ^ (j - i) % n = 1 := by
  have h1 : a ^ (j - i) % n = a ^ (j - i) * a ^ (N * i) % n := by
    rw [Nat.mul_mod, pow_mod_one hn h, Nat.mul_one, Nat.mod_mod]
  have hle : i ≤ N * i := Nat.le_mul_of_pos_left i hN
  have h2 : a ^ (j - i) * a ^ (N * i) = a ^ j * a ^ (N * i - i) := by
    rw [← Nat.pow_add, ← Nat.pow_add]; congr 1; omega
  rw [h1, h2, Nat.mul_mod, ← he, ← Nat.mul_mod, ← Nat.pow_add, show i + (N * i - i) = N * i by omega]
  exact pow_mod_one hn h i

/-- The order of a: the least power that leaves 1; it divides every such power. -/
theorem order_dvd {a n d k : Nat} (hn : 1 < n) (hd : 0 < d) (h : a ^ d % n = 1) (hl : ∀ e, 0 < e → e < d → a ^ e % n ≠ 1) (hk : a ^ k % n = 1) : d ∣ k := by
  have h1 : a ^ k = a ^ (d * (k / d)) * a ^ (k % d) := by
    rw [← Nat.pow_add, Nat.div_add_mod]
  have h2 : a ^ (k % d) % n = 1 := by
    have h3 : a ^ k % n = a ^ (k % d) % n := by
      rw [h1, Nat.mul_mod, pow_mod_one hn h, Nat.one_mul, Nat.mod_mod]
    omega
  by_cases h0 : k % d = 0
  · exact Nat.dvd_of_mod_eq_zero h0
  · exact absurd h2 (hl _ (by omega) (Nat.mod_lt _ hd))

theorem order_least {a n N : Nat} (hN : 0 < N) (h : a ^ N % n = 1) : ∃ d, 0 < d ∧ d ≤ N ∧ a ^ d % n = 1 ∧ ∀ e, 0 < e → e < d → a ^ e % n ≠ 1 := by
  induction N using Nat.strongRecOn with
  | ind N ih =>
    by_cases hx : ∃ e, 0 < e ∧ e < N ∧ a ^ e % n = 1
    · obtain ⟨e, h0, hlt, he⟩ := hx
      obtain ⟨d, h1, h2, h3, h4⟩ := ih e hlt h0 he
      exact ⟨d, h1, by omega, h3, h4⟩
    · exact ⟨N, hN, Nat.le_refl _, h, fun e h0 hlt he => hx ⟨e, h0, hlt, he⟩⟩

/-- (Lucas) Where no power by a prime less leaves 1, no lesser power does. -/
theorem lucas {a n N : Nat} (hn : 1 < n) (hN : 0 < N) (h : a ^ N % n = 1) (hq : ∀ q, Pr q → q ∣ N → a ^ (N / q) % n ≠ 1) : ∀ e, 0 < e → e < N → a ^ e % n ≠ 1 := by
  obtain ⟨d, h0, hle, hd, hl⟩ := order_least hN h
  obtain ⟨m, rfl⟩ := order_dvd hn h0 hd hl h
  by_cases hm : m = 1
  · subst hm; simpa using hl
  · have hm0 : m ≠ 0 := by rintro rfl; simp at hN
    obtain ⟨q, hp, k, rfl⟩ := pr_divisor m (by omega)
    refine absurd ?_ (hq q hp ⟨d * k, by rw [Nat.mul_left_comm]⟩)
    rw [show d * (q * k) = q * (d * k) by rw [Nat.mul_left_comm], Nat.mul_div_cancel_left _ (by have := hp.1; omega)]
    exact pow_mod_one hn hd k

/-! ### Pigeons -/

theorem pigeon (N : Nat) : ∀ f : Nat → Nat, (∀ i, i < N → f i < N) → (∀ i j, i < j → j < N → f i ≠ f j) → ∀ b, b < N → ∃ i, i < N ∧ f i = b := by
  induction N with
  | zero => intro f _ _ b hb; omega
  | succ N ih =>
    intro f hf hi b hb
    by_cases hlast : ∃ i, i < N + 1 ∧ f i = N
    · obtain ⟨k, hk, hkN⟩ := hlast
      -- what is at k and at N is swapped
      have hg : ∀ i, i < N → (if i = k then f N else f i) < N := by
        intro i hlt
        split
        · have h1 := hf N (by omega)
          have h2 : f N ≠ N := by
            intro h
            rcases Nat.lt_or_ge k N with h3 | h3
            · exact hi k N h3 (by omega) (by omega)
            · omega
          omega
        · have h1 := hf i (by omega)
          have h2 : f i ≠ N := by
            intro h
            rcases Nat.lt_trichotomy i k with h3 | h3 | h3
            · exact hi i k h3 hk (by omega)
            · contradiction
            · exact hi k i h3 (by omega) (by omega)
          omega
      have hgi : ∀ i j, i < j → j < N → (if i = k then f N else f i) ≠ (if j = k then f N else f j) := by
        intro i j hij hj
        split <;> split
        · omega
        · exact fun h => hi j N (by omega) (by omega) h.symm
        · exact hi i N (by omega) (by omega)
        · exact hi i j hij (by omega)
      by_cases hbN : b = N
      · exact ⟨k, hk, by omega⟩
      · obtain ⟨i, hlt, he⟩ := ih (fun i => if i = k then f N else f i) hg hgi b (by omega)
        split at he
        · exact ⟨N, by omega, he⟩
        · exact ⟨i, by omega, he⟩
    · exfalso
      have h1 : ∀ i, i < N + 1 → f i < N := by
        intro i hlt
        have h1 := hf i hlt
        have h2 : f i ≠ N := fun h => hlast ⟨i, hlt, h⟩
        omega
      rcases Nat.eq_zero_or_pos N with h0 | h0
      · have := h1 0 (by omega); omega
      · obtain ⟨i, hlt, he⟩ := ih f (fun i hlt => h1 i (by omega)) (fun i j h h' => hi i j h (by omega)) (f N) (h1 N (by omega))
        exact hi i N hlt (by omega) he

/-- All that n leaves but 0 is left by a power of a. -/
theorem powers_all {a n : Nat} (hn : 1 < n) (h : a ^ (n - 1) % n = 1) (hl : ∀ e, 0 < e → e < n - 1 → a ^ e % n ≠ 1) (b : Nat) (hb : 0 < b) (hbn : b < n) : ∃ i, i < n - 1 ∧ a ^ i % n = b := by
  have hpos : ∀ i, a ^ i % n ≠ 0 := by
    intro i h0
    have h1 : a ^ ((n - 1) * i) % n = 1 := pow_mod_one hn h i
    rw [Nat.mul_comm, Nat.pow_mul, Nat.pow_mod, h0, Nat.zero_pow (by omega), Nat.zero_mod] at h1
    omega
  obtain ⟨i, hi, he⟩ := pigeon (n - 1) (fun i => a ^ i % n - 1)
    (fun i hi => by have := hpos i; have := Nat.mod_lt (a ^ i) (show n > 0 by omega); show a ^ i % n - 1 < n - 1; omega)
    (fun i j hij hj => by
      intro he
      have h1 := hpos i
      have h2 := hpos j
      exact hl (j - i) (by omega) (by omega) (pow_cancel hn (by omega) h (by omega) (by omega)))
    (b - 1) (by omega)
  have := hpos i
  exact ⟨i, hi, by omega⟩

theorem prime_of_powers {a n : Nat} (hn : 1 < n) (h : a ^ (n - 1) % n = 1) (hl : ∀ e, 0 < e → e < n - 1 → a ^ e % n ≠ 1) : Pr n := by
  refine ⟨hn, fun d hd => ?_⟩
  by_cases h1 : d = 1
  · exact .inl h1
  by_cases h2 : d = n
  · exact .inr h2
  exfalso
  have hle : d ≤ n := Nat.le_of_dvd (by omega) hd
  have h0 : d ≠ 0 := by rintro rfl; have := Nat.eq_zero_of_zero_dvd hd; omega
  obtain ⟨i, hi, he⟩ := powers_all hn h hl d (by omega) (by omega)
  have h3 : d ∣ a ^ i := by
    rw [← Nat.div_add_mod (a ^ i) n, he]
    exact Nat.dvd_add (Nat.dvd_trans hd (Nat.dvd_mul_right ..)) (Nat.dvd_refl _)
  have h4 : d ∣ a ^ (n - 1) := by
    rw [show n - 1 = i + (n - 1 - i) by omega, Nat.pow_add]
    exact Nat.dvd_trans h3 (Nat.dvd_mul_right ..)
  rw [← Nat.div_add_mod (a ^ (n - 1)) n, h] at h4
  have h5 : d ∣ 1 := (Nat.dvd_add_right (Nat.dvd_trans hd (Nat.dvd_mul_right ..))).mp h4
  have := Nat.le_of_dvd (by decide) h5
  omega

/-- (Fermat) -/
theorem fermat_of_powers {a n : Nat} (hn : 1 < n) (h : a ^ (n - 1) % n = 1) (hl : ∀ e, 0 < e → e < n - 1 → a ^ e % n ≠ 1) (b : Nat) (hb : 0 < b) (hbn : b < n) : b ^ (n - 1) % n = 1 := by
  obtain ⟨i, hi, he⟩ := powers_all hn h hl b hb hbn
  rw [← he, ← Nat.pow_mod, ← Nat.pow_mul, Nat.mul_comm]
  exact pow_mod_one hn h i

/-- A square root of 1, left by a prime. -/
theorem root_one {n y : Nat} (hp : Pr n) (hy : y < n) (h : y * y % n = 1) : y = 1 ∨ y = n - 1 := by
  have h2 := hp.1
  have hy0 : y ≠ 0 := by rintro rfl; simp at h
  have h3 : n ∣ (y - 1) * (y + 1) := by
    have e : (y - 1) * (y + 1) = y * y - 1 := by
      obtain ⟨z, rfl⟩ : ∃ z, y = z + 1 := ⟨y - 1, by omega⟩
      simp only [Nat.add_sub_cancel]
      rw [show (z + 1) * (z + 1) = z * (z + 1 + 1) + 1 by grind]
      omega
    rw [e]
    have := Nat.div_add_mod (y * y) n
    exact ⟨y * y / n, by omega⟩
  rcases pr_mul hp h3 with h4 | h4
  · have := Nat.eq_zero_of_dvd_of_lt h4 (by omega); omega
  · have := Nat.le_of_dvd (by omega) h4; omega

/-- (Miller) Of a prime, what comes behind squarings to 1 begins with 1 or meets -1. -/
theorem miller {n b d : Nat} (hp : Pr n) : ∀ s, b ^ (d * 2 ^ s) % n = 1 → b ^ d % n = 1 ∨ ∃ i, i < s ∧ b ^ (d * 2 ^ i) % n = n - 1 := by
  intro s
  induction s with
  | zero => intro h; simp at h; exact .inl h
  | succ s ih =>
    intro h
    have hlt : b ^ (d * 2 ^ s) % n < n := Nat.mod_lt _ (by have := hp.1; omega)
    have e : b ^ (d * 2 ^ s) % n * (b ^ (d * 2 ^ s) % n) % n = 1 := by
      rw [← Nat.mul_mod, ← Nat.pow_add, ← h]
      congr 2
      rw [Nat.pow_succ, ← Nat.mul_assoc]; omega
    rcases root_one hp hlt e with h1 | h1
    · rcases ih h1 with h2 | ⟨i, hi, h2⟩
      · exact .inl h2
      · exact .inr ⟨i, by omega, h2⟩
    · exact .inr ⟨s, by omega, h1⟩
end Go.Proofs.YtbeceimopamllaaDoor
end

section
/- Plain facts: Fermat's theorem of every prime; powers and polynomials a little beside; Hensel's step. -/
set_option linter.unusedVariables false
set_option maxRecDepth 100000
namespace Go.Proofs.YtbeceimopamllaaDoor

/-! ### Products over a rearrangement; Fermat's theorem -/

def pd (g : Nat → Nat) : Nat → Nat
  | 0 => 1
  | n + 1 => pd g n * g n

theorem pd_cong {g h : Nat → Nat} : ∀ N, (∀ i, i < N → g i = h i) → pd g N = pd h N := by
  intro N
  induction N with
  | zero => intro _; rfl
  | succ N ih => intro e; rw [pd, pd, ih (fun i hi => e i (by omega)), e N (by omega)]

theorem pd_upd (g : Nat → Nat) (k v : Nat) : ∀ N, k < N → pd g N * v = pd (fun i => if i = k then v else g i) N * g k := by
  intro N
  induction N with
  | zero => intro h; omega
  | succ N ih =>
    intro h
    rw [pd, pd]
    by_cases hk : k = N
    · subst hk
      rw [if_pos rfl, pd_cong (h := fun i => if i = k then v else g i) k (fun i hi => by rw [if_neg (by omega)])]
      rw [Nat.mul_assoc, Nat.mul_assoc, Nat.mul_comm (g k) v]
    · rw [if_neg (by omega), Nat.mul_right_comm, ih (by omega), Nat.mul_right_comm]

theorem pd_perm : ∀ (N : Nat) (f : Nat → Nat), (∀ i, i < N → f i < N) → (∀ i j, i < j → j < N → f i ≠ f j) → ∀ g : Nat → Nat, pd (fun i => g (f i)) N = pd g N := by
  intro N
  induction N with
  | zero => intro f _ _ g; rfl
  | succ N ih =>
    intro f hf hi g
    obtain ⟨k, hk, hkN⟩ := pigeon (N + 1) f hf hi N (by omega)
    by_cases hkn : k = N
    · subst hkn
      have h1 : ∀ i, i < k → f i < k := fun i h => by
        have := hf i (by omega)
        have := hi i k h (by omega)
        omega
      rw [pd, pd, ih f h1 (fun i j h h' => hi i j h (by omega)) g, hkN]
    · have h1 : ∀ i, i < N → (if i = k then f N else f i) < N := by
        intro i h
        split
        · have := hf N (by omega)
          have := hi k N (by omega) (by omega)
          omega
        · have := hf i (by omega)
          rcases Nat.lt_trichotomy i k with h3 | h3 | h3
          · have := hi i k h3 hk; omega
          · contradiction
          · have := hi k i h3 (by omega); omega
      have h2 : ∀ i j, i < j → j < N → (if i = k then f N else f i) ≠ (if j = k then f N else f j) := by
        intro i j hij hj
        split <;> split
        · omega
        · exact fun h => hi j N (by omega) (by omega) h.symm
        · exact hi i N (by omega) (by omega)
        · exact hi i j hij (by omega)
      have h3 := ih _ h1 h2 g
      rw [pd, pd, ← h3, pd_upd (fun i => g (f i)) k (g (f N)) N (by omega), hkN]
      congr 1
      refine pd_cong N (fun i h => ?_)
      split <;> rfl

theorem pd_mod (b p : Nat) : ∀ N, pd (fun i => b * (i + 1) % p) N % p = b ^ N * pd (fun i => i + 1) N % p := by
  intro N
  induction N with
  | zero => simp [pd]
  | succ N ih =>
    rw [pd, pd, Nat.mul_mod, ih, Nat.mod_mod, ← Nat.mul_mod, Nat.pow_succ]
    congr 1
    simp only [Nat.mul_assoc, Nat.mul_left_comm]

theorem pd_free {p : Nat} (hp : Pr p) : ∀ N, N < p → ¬ p ∣ pd (fun i => i + 1) N := by
  intro N
  induction N with
  | zero => intro _ h; have := Nat.le_of_dvd (by decide) h; have := hp.1; simp [pd] at *; omega
  | succ N ih =>
    intro hN h
    rw [pd] at h
    rcases pr_mul hp h with h | h
    · exact ih (by omega) h
    · have := Nat.le_of_dvd (by omega) h; omega

/-- (Fermat) -/
theorem fermat {p b : Nat} (hp : Pr p) (hb : b % p ≠ 0) : b ^ (p - 1) % p = 1 := by
  have h2 := hp.1
  have hnd : ¬ p ∣ b := fun h => hb (Nat.mod_eq_zero_of_dvd h)
  have hne : ∀ i, i < p - 1 → b * (i + 1) % p ≠ 0 := by
    intro i hi h0
    rcases pr_mul hp (Nat.dvd_of_mod_eq_zero h0) with h | h
    · exact hnd h
    · have := Nat.le_of_dvd (by omega) h; omega
  have hlt : ∀ i, b * (i + 1) % p < p := fun i => Nat.mod_lt _ (by omega)
  have hperm := pd_perm (p - 1) (fun i => b * (i + 1) % p - 1) (fun i hi => by have := hne i hi; have := hlt i; show b * (i + 1) % p - 1 < p - 1; omega)
    (fun i j hij hj he => by
      have h1 := hne i (by omega)
      have h3 := hne j hj
      have he : b * (i + 1) % p - 1 = b * (j + 1) % p - 1 := he
      have h4 : b * (i + 1) % p = b * (j + 1) % p := by omega
      have h5 : p ∣ b * (j + 1) - b * (i + 1) := Nat.dvd_of_mod_eq_zero (Nat.sub_mod_eq_zero_of_mod_eq h4.symm)
      rw [← Nat.mul_sub] at h5
      rcases pr_mul hp h5 with h | h
      · exact hnd h
      · have := Nat.le_of_dvd (by omega) h; omega) (fun i => i + 1)
  rw [pd_cong (h := fun i => b * (i + 1) % p) (p - 1) (fun i hi => by have := hne i hi; show b * (i + 1) % p - 1 + 1 = _; omega)] at hperm
  have hm := pd_mod b p (p - 1)
  rw [hperm] at hm
  obtain ⟨G, hG⟩ : ∃ G, G = pd (fun i => i + 1) (p - 1) := ⟨_, rfl⟩
  have hfree := pd_free hp (p - 1) (by omega)
  rw [← hG] at hm hfree
  have hpos : 0 < b ^ (p - 1) := Nat.pow_pos (by rcases Nat.eq_zero_or_pos b with h | h; · subst h; simp at hb
                                                 · exact h)
  have h5 : p ∣ b ^ (p - 1) * G - 1 * G := Nat.dvd_of_mod_eq_zero (Nat.sub_mod_eq_zero_of_mod_eq (by rw [Nat.one_mul]; exact hm.symm))
  rw [← Nat.sub_mul] at h5
  rcases pr_mul hp h5 with h | h
  · obtain ⟨c, hc⟩ := h
    have : b ^ (p - 1) = p * c + 1 := by omega
    rw [this, Nat.mul_add_mod, Nat.mod_eq_of_lt (by omega)]
  · exact absurd h hfree

theorem fermat_all {p : Nat} (hp : Pr p) (b : Nat) : b ^ p % p = b % p := by
  have h2 := hp.1
  obtain ⟨q, rfl⟩ : ∃ q, p = q + 1 := ⟨p - 1, by omega⟩
  by_cases hb : b % (q + 1) = 0
  · rw [Nat.pow_succ, Nat.mul_mod, hb]; simp
  · have := fermat hp hb
    rw [Nat.add_sub_cancel] at this
    rw [Nat.pow_succ, Nat.mul_mod, this, Nat.one_mul, Nat.mod_mod]

/-- (Miller) An odd prime passes. -/
theorem prime_passes {n b t d : Nat} (hp : Pr n) (hb : b % n ≠ 0) (hd : n - 1 = 2 ^ t * d) : b ^ d % n = 1 ∨ ∃ i, i < t ∧ b ^ (d * 2 ^ i) % n = n - 1 :=
  miller hp t (by rw [Nat.mul_comm, ← hd]; exact fermat hp hb)

/-! ### Powers and polynomials a little beside -/

theorem pow_beside (v h : Int) : ∀ m : Nat, ∃ c : Int, (v + h) ^ (m + 1) = v ^ (m + 1) + ((m : Int) + 1) * v ^ m * h + h * h * c := by
  intro m
  induction m with
  | zero => exact ⟨0, by simp [Int.pow_succ]⟩
  | succ m ih =>
    obtain ⟨c, hc⟩ := ih
    refine ⟨v * c + ((m : Int) + 1) * v ^ m + h * c, ?_⟩
    rw [Int.pow_succ, hc, Int.pow_succ v (m + 1), Int.pow_succ v m]
    push_cast
    grind

theorem pow_lift {u v : Int} {p j : Nat} (hp : 1 ≤ p) (hj : 1 ≤ j) (h : ((p : Int) ^ j) ∣ u - v) : ((p : Int) ^ (j + 1)) ∣ u ^ p - v ^ p := by
  obtain ⟨t, ht⟩ := h
  obtain ⟨m, rfl⟩ : ∃ m, p = m + 1 := ⟨p - 1, by omega⟩
  obtain ⟨i, rfl⟩ : ∃ i, j = i + 1 := ⟨j - 1, by omega⟩
  obtain ⟨P, hP⟩ : ∃ P : Int, P = ((m + 1 : Nat) : Int) := ⟨_, rfl⟩
  rw [← hP] at ht ⊢
  obtain ⟨c, hc⟩ := pow_beside v (P ^ (i + 1) * t) m
  have hu : u = v + P ^ (i + 1) * t := by omega
  have hP' : (m : Int) + 1 = P := by rw [hP]; simp
  rw [hu, hc, hP']
  refine ⟨v ^ m * t + P ^ i * t * t * c, ?_⟩
  rw [Int.pow_succ P (i + 1), Int.pow_succ P i]
  grind

/-- (Euler) A power's power leaves the same. -/
theorem teich_fix {p : Nat} (hp : Pr p) (a : Int) (ha : (p : Int) ∣ a ^ p - a) : ∀ k : Nat, 1 ≤ k → ((p : Int) ^ k) ∣ a ^ (p ^ k) - a ^ (p ^ (k - 1)) := by
  intro k hk
  induction k with
  | zero => omega
  | succ k ih =>
    by_cases h0 : k = 0
    · subst h0; simpa [Int.pow_succ] using ha
    · have h := pow_lift (by have := hp.1; omega) (by omega) (ih (by omega))
      rw [← Int.pow_mul, ← Int.pow_mul, ← Nat.pow_succ, ← Nat.pow_succ, show (k - 1).succ = k by omega] at h
      exact h

def pv : List Int → Int → Int
  | [], _ => 0
  | a :: l, x => a + x * pv l x
def dv : List Int → Int → Int
  | [], _ => 0
  | _ :: l, x => pv l x + x * dv l x

theorem pv_beside (l : List Int) (x h : Int) : ∃ c, pv l (x + h) = pv l x + dv l x * h + h * h * c := by
  induction l with
  | nil => exact ⟨0, by simp [pv, dv]⟩
  | cons a l ih =>
    obtain ⟨c, hc⟩ := ih
    refine ⟨x * c + dv l x + h * c, ?_⟩
    simp only [pv, dv, hc]
    grind

theorem pv_same (l : List Int) {x y m : Int} (h : m ∣ x - y) : m ∣ pv l x - pv l y := by
  induction l with
  | nil => simp [pv]
  | cons a l ih =>
    obtain ⟨s, hs⟩ := h
    obtain ⟨t, ht⟩ := ih
    refine ⟨s * pv l x + y * t, ?_⟩
    simp only [pv]
    grind

theorem dv_same (l : List Int) {x y m : Int} (h : m ∣ x - y) : m ∣ dv l x - dv l y := by
  induction l with
  | nil => simp [dv]
  | cons a l ih =>
    obtain ⟨r, hr⟩ := pv_same l h
    obtain ⟨s, hs⟩ := h
    obtain ⟨t, ht⟩ := ih
    refine ⟨r + s * dv l x + y * t, ?_⟩
    simp only [dv]
    grind

/-- The numbers of the derivative, from place k on. -/
def dl : Nat → List Int → List Int
  | _, [] => []
  | k, a :: l => (k : Int) * a :: dl (k + 1) l

theorem pv_dl (l : List Int) (x : Int) : ∀ k : Nat, pv (dl k l) x = (k : Int) * pv l x + x * dv l x := by
  induction l with
  | nil => intro k; simp [dl, pv, dv]
  | cons a l ih =>
    intro k
    simp only [dl, pv, dv, ih]
    push_cast
    grind

theorem dv_dl (a : Int) (l : List Int) (x : Int) : dv (a :: l) x = pv (dl 1 l) x := by
  rw [pv_dl]; simp [dv]

theorem pv_congr (m : Int) (x : Int) : ∀ l l' : List Int, l.length = l'.length → (∀ i, i < l.length → m ∣ l.getD i 0 - l'.getD i 0) → m ∣ pv l x - pv l' x := by
  intro l
  induction l with
  | nil => intro l' h _; cases l' with
    | nil => simp [pv]
    | cons _ _ => simp at h
  | cons a l ih =>
    intro l' h he
    cases l' with
    | nil => simp at h
    | cons b l' =>
      obtain ⟨s, hs⟩ := ih l' (by simpa using h) (fun i hi => by have := he (i + 1) (by simp; omega); simpa using this)
      have h0 := he 0 (by simp)
      simp at h0
      obtain ⟨t, ht⟩ := h0
      refine ⟨t + x * s, ?_⟩
      simp only [pv]
      grind

theorem pv_drop (l : List Int) (x : Int) (k : Nat) (hk : k < l.length) : pv (l.drop k) x = l.getD k 0 + x * pv (l.drop (k + 1)) x := by
  rw [List.drop_eq_getElem_cons hk, pv, List.getD_eq_getElem?_getD, List.getElem?_eq_getElem hk]; rfl

theorem pv_take (x : Int) : ∀ (l : List Int) (i : Nat), i < l.length → pv (l.take (i + 1)) x = pv (l.take i) x + l.getD i 0 * x ^ i := by
  intro l
  induction l with
  | nil => intro i h; simp at h
  | cons a l ih =>
    intro i h
    cases i with
    | zero => simp [pv]
    | succ i =>
      have := ih i (by simpa using h)
      simp only [List.take_succ_cons, pv, List.getD_cons_succ] at this ⊢
      rw [this, Int.pow_succ]
      grind

theorem dv_take (x : Int) : ∀ (l : List Int) (i : Nat), 1 ≤ i → i < l.length → dv (l.take (i + 1)) x = dv (l.take i) x + l.getD i 0 * i * x ^ (i - 1) := by
  intro l
  induction l with
  | nil => intro i _ h; simp at h
  | cons a l ih =>
    intro i h1 h
    obtain ⟨i, rfl⟩ : ∃ j, i = j + 1 := ⟨i - 1, by omega⟩
    have h' : i < l.length := by simpa using h
    have hp := pv_take x l i h'
    simp only [List.take_succ_cons, dv, List.getD_cons_succ, Nat.add_sub_cancel]
    by_cases h0 : i = 0
    · subst h0
      rw [hp]
      cases l with
      | nil => simp at h'
      | cons b l => simp [dv, pv]
    · have hd := ih i (by omega) h'
      obtain ⟨r, rfl⟩ : ∃ r, i = r + 1 := ⟨i - 1, by omega⟩
      rw [hp, hd, Nat.add_sub_cancel, Int.pow_succ]
      push_cast
      grind

/-- (Hensel) One step. -/
theorem hensel_step {l : List Int} {j : Nat} {P x x0 v y : Int} (hj : 1 ≤ j) (hx : P ∣ x - x0) (hr : (P ^ j) ∣ pv l x) (hv : P ∣ dv l x0 * v - 1)
    (hy : (P ^ (j + 1)) ∣ y - (x - pv l x * v)) : P ∣ y - x0 ∧ (P ^ (j + 1)) ∣ pv l y := by
  obtain ⟨i, rfl⟩ : ∃ i, j = i + 1 := ⟨j - 1, by omega⟩
  have hd := dv_same l hx
  obtain ⟨t, ht⟩ := hr
  obtain ⟨c, hc⟩ := pv_beside l x (-(pv l x * v))
  obtain ⟨z, hz⟩ := hx
  obtain ⟨s, hs⟩ := hv
  obtain ⟨r, hrr⟩ := hd
  have hsame := pv_same l hy
  obtain ⟨q, hq⟩ := hy
  obtain ⟨g, hg⟩ := hsame
  rw [Int.pow_succ P (i + 1), Int.pow_succ P i] at hq hg ⊢
  rw [Int.pow_succ P i] at ht
  constructor
  · exact ⟨z + P ^ i * P * q - P ^ i * t * v, by grind⟩
  · have e : x - pv l x * v = x + -(pv l x * v) := by omega
    rw [e] at hg
    obtain ⟨A, hA⟩ : ∃ A, A = pv l x := ⟨_, rfl⟩
    obtain ⟨D, hD⟩ : ∃ D, D = dv l x := ⟨_, rfl⟩
    rw [← hA, ← hD] at hc
    rw [← hD] at hrr
    rw [← hA] at ht hg
    rw [hc] at hg
    obtain ⟨E, hE⟩ : ∃ E, E = dv l x0 := ⟨_, rfl⟩
    rw [← hE] at hrr hs
    obtain ⟨Y, hY⟩ : ∃ Y, Y = pv l y := ⟨_, rfl⟩
    rw [← hY] at hg ⊢
    clear hc hA hD hE hY e hq
    obtain ⟨Q, hQ⟩ : ∃ Q, Q = P ^ i := ⟨_, rfl⟩
    rw [← hQ] at ht hg ⊢
    have hdv : D * v = 1 + P * (s + r * v) := by grind
    refine ⟨g - t * (s + r * v) + Q * t * t * v * v * c, ?_⟩
    have e1 : Y = Q * P * P * g + (A + D * -(A * v) + -(A * v) * -(A * v) * c) := by omega
    rw [e1, ht]
    have e2 : Q * P * t + D * -(Q * P * t * v) = Q * P * t * (1 - D * v) := by grind
    rw [e2, hdv]
    grind

end Go.Proofs.YtbeceimopamllaaDoor
end

section
/- Plain facts: the points of a curve over a field of p numbers are a group: associativity by two lines' functions. -/
set_option linter.unusedVariables false
set_option maxRecDepth 100000
namespace Go.Proofs.YtbeceimopamllaaDoor

namespace EC
section
variable {p : Nat} [NeZero p]

/-- In whose numbers all but 0 have an inverse. -/
def Fld (p : Nat) [NeZero p] : Prop := ∀ x : Fin p, x ≠ 0 → ∃ y : Fin p, x * y = 1

theorem Fld.zero (hF : Fld p) {x y : Fin p} (h : x * y = 0) (hx : x ≠ 0) : y = 0 := by
  obtain ⟨z, hz⟩ := hF x hx
  grobner

theorem sub_ne {x y : Fin p} (h : x ≠ y) : x - y ≠ 0 := by
  intro e; apply h; grobner

/-- A point: none is the one that is far. -/
abbrev Pt (p : Nat) := Option (Fin p × Fin p)

def OnF (a b : Fin p) : Pt p → Prop
  | none => True
  | some (x, y) => y * y = x * x * x + a * x + b

def ng : Pt p → Pt p
  | none => none
  | some (x, y) => some (x, - y)

/-- The slope's two equations. -/
def Slp (a x1 y1 x2 y2 l : Fin p) : Prop :=
  y2 - y1 = l * (x2 - x1) ∧ l * (y1 + y2) = x1 * x1 + x1 * x2 + x2 * x2 + a

def Opp (x1 y1 x2 y2 : Fin p) : Prop := x1 = x2 ∧ y1 + y2 = 0

/-- S is P and Q, added. -/
def Ad (a : Fin p) : Pt p → Pt p → Pt p → Prop
  | none, Q, S => S = Q
  | some P, none, S => S = some P
  | some (x1, y1), some (x2, y2), S =>
    (Opp x1 y1 x2 y2 ∧ S = none) ∨
    (¬ Opp x1 y1 x2 y2 ∧ ∃ l, Slp a x1 y1 x2 y2 l ∧ S = some (l * l - x1 - x2, l * (x1 - (l * l - x1 - x2)) - y1))

theorem slp_uniq (hF : Fld p) {a x1 y1 x2 y2 l m : Fin p} (h : ¬ Opp x1 y1 x2 y2) (hl : Slp a x1 y1 x2 y2 l) (hm : Slp a x1 y1 x2 y2 m) : l = m := by
  obtain ⟨h1, h2⟩ := hl
  obtain ⟨h3, h4⟩ := hm
  by_cases hx : x2 - x1 = 0
  · have hy : y1 + y2 ≠ 0 := fun e => h ⟨by grobner, e⟩
    have := hF.zero (x := y1 + y2) (y := l - m) (by grobner) hy
    grobner
  · have := hF.zero (x := x2 - x1) (y := l - m) (by grobner) hx
    grobner

theorem Ad.uniq (hF : Fld p) {a : Fin p} {P Q S T : Pt p} (h : Ad a P Q S) (k : Ad a P Q T) : S = T := by
  match P, Q with
  | none, Q => simp only [Ad] at h k; rw [h, k]
  | some P, none => simp only [Ad] at h k; rw [h, k]
  | some (x1, y1), some (x2, y2) =>
    simp only [Ad] at h k
    rcases h with ⟨h1, h2⟩ | ⟨h1, l, h2, h3⟩
    · rcases k with ⟨k1, k2⟩ | ⟨k1, l, k2, k3⟩
      · rw [h2, k2]
      · exact absurd h1 k1
    · rcases k with ⟨k1, k2⟩ | ⟨k1, m, k2, k3⟩
      · exact absurd k1 h1
      · have := slp_uniq hF h1 h2 k2
        subst this
        rw [h3, k3]

theorem Slp.comm {a x1 y1 x2 y2 l : Fin p} (h : Slp a x1 y1 x2 y2 l) : Slp a x2 y2 x1 y1 l := by
  obtain ⟨h1, h2⟩ := h
  exact ⟨by grobner, by grobner⟩

theorem Opp.comm {x1 y1 x2 y2 : Fin p} (h : Opp x1 y1 x2 y2) : Opp x2 y2 x1 y1 := by
  obtain ⟨h1, h2⟩ := h
  exact ⟨h1.symm, by grobner⟩

theorem Ad.comm {a : Fin p} {P Q S : Pt p} (h : Ad a P Q S) : Ad a Q P S := by
  match P, Q with
  | none, none => exact h
  | none, some Q => exact h
  | some P, none => exact h
  | some (x1, y1), some (x2, y2) =>
    simp only [Ad] at h ⊢
    rcases h with ⟨h1, h2⟩ | ⟨h1, l, h2, h3⟩
    · exact .inl ⟨h1.comm, h2⟩
    · refine .inr ⟨fun e => h1 e.comm, l, h2.comm, ?_⟩
      rw [h3]
      obtain ⟨h4, h5⟩ := h2
      clear h5
      congr 2
      · grobner
      · grobner

theorem on_add {a b x1 y1 x2 y2 l : Fin p} (h1 : y1 * y1 = x1 * x1 * x1 + a * x1 + b) (h : Slp a x1 y1 x2 y2 l) :
    OnF a b (some (l * l - x1 - x2, l * (x1 - (l * l - x1 - x2)) - y1)) := by
  obtain ⟨h3, h4⟩ := h
  simp only [OnF]
  grobner

theorem Ad.on {a b : Fin p} {P Q S : Pt p} (h : Ad a P Q S) (hP : OnF a b P) (hQ : OnF a b Q) : OnF a b S := by
  match P, Q with
  | none, Q => simp only [Ad] at h; rw [h]; exact hQ
  | some P, none => simp only [Ad] at h; rw [h]; exact hP
  | some (x1, y1), some (x2, y2) =>
    simp only [Ad] at h
    rcases h with ⟨h1, h2⟩ | ⟨h1, l, h2, h3⟩
    · rw [h2]; trivial
    · rw [h3]; exact on_add hP h2

theorem ng_ng (P : Pt p) : ng (ng P) = P := by
  match P with
  | none => rfl
  | some (x, y) => simp only [ng]; congr 2; grobner

theorem ng_on {a b : Fin p} {P : Pt p} (h : OnF a b P) : OnF a b (ng P) := by
  match P with
  | none => trivial
  | some (x, y) => simp only [ng, OnF] at h ⊢; grobner

theorem Ad.neg {a : Fin p} {P Q S : Pt p} (h : Ad a P Q S) : Ad a (ng P) (ng Q) (ng S) := by
  match P, Q with
  | none, Q => simp only [Ad] at h; rw [h]; rfl
  | some (x1, y1), none => simp only [Ad] at h; rw [h]; rfl
  | some (x1, y1), some (x2, y2) =>
    simp only [Ad, EC.ng] at h ⊢
    rcases h with ⟨h1, h2⟩ | ⟨h1, l, h2, h3⟩
    · left; obtain ⟨e1, e2⟩ := h1; exact ⟨⟨e1, by grobner⟩, by rw [h2]⟩
    · right
      refine ⟨fun e => h1 ⟨e.1, by have := e.2; grobner⟩, - l, ⟨?_, ?_⟩, ?_⟩
      · have := h2.1; grobner
      · have := h2.2; grobner
      · rw [h3]; simp only; congr 2
        · grobner
        · grobner

theorem add_ng {a : Fin p} (P : Pt p) : Ad a P (ng P) none := by
  match P with
  | none => rfl
  | some (x, y) => simp only [Ad, ng]; exact .inl ⟨⟨rfl, by grobner⟩, trivial⟩

/-- The curve: 2 is not 0, and its cubic has no root twice. -/
structure Cu (a b : Fin p) : Prop where
  fld : Fld p
  two : (2 : Fin p) ≠ 0
  dis : 4 * a * a * a + 27 * b * b ≠ 0

theorem not_back {a b x1 y1 x2 y2 l : Fin p} (hC : Cu a b) (h1 : y1 * y1 = x1 * x1 * x1 + a * x1 + b) (h : Slp a x1 y1 x2 y2 l)
    (hx : l * l - x1 - x2 = x1) (hy : l * (x1 - (l * l - x1 - x2)) - y1 = y1) : False := by
  obtain ⟨h3, h4⟩ := h
  have hy1 : y1 = 0 := hC.fld.zero (x := 2) (y := y1) (by grobner) hC.two
  subst hy1
  apply hC.dis
  have ha : a = - 3 * x1 * x1 := by grobner
  have hb : b = 2 * x1 * x1 * x1 := by grobner
  subst ha
  subst hb
  clear h1 hy h3 h4 hx
  grobner

theorem Ad.back {a b : Fin p} (hC : Cu a b) {P Q A : Pt p} (h : Ad a P Q A) (hP : OnF a b P) (hQ : OnF a b Q) : Ad a A (EC.ng P) Q := by
  match P, Q with
  | none, Q =>
    simp only [Ad] at h; subst h
    match A with
    | none => rfl
    | some (x, y) => rfl
  | some (x1, y1), none => simp only [Ad] at h; rw [h]; exact add_ng _
  | some (x1, y1), some (x2, y2) =>
    simp only [Ad] at h
    rcases h with ⟨⟨h1, h2⟩, h3⟩ | ⟨h1, l, h2, h3⟩
    · rw [h3]; simp only [Ad, EC.ng]; congr 2
      · exact h1.symm
      · grobner
    · rw [h3]
      simp only [Ad, EC.ng]
      right
      refine ⟨fun e => not_back hC hP h2 e.1 (by have := e.2; grobner), - l, ⟨?_, ?_⟩, ?_⟩
      · grobner
      · obtain ⟨h4, h5⟩ := h2; clear h1 h3 hP hQ; grobner
      · obtain ⟨h4, h5⟩ := h2; clear h1 h3 hP hQ h5
        congr 2
        · grobner
        · grobner

/-- A function of the curve, X^2 + g X + h - s Y, at a point. -/
def Gz (g h s x y : Fin p) : Prop := x * x + g * x + h = s * y

/-- What two lines make: the first through P, Q, -A, the second through A, R. -/
theorem gz_all {a x1 y1 x2 y2 x3 y3 l m xA yA : Fin p} (h : Slp a x1 y1 x2 y2 l) (hx : xA = l * l - x1 - x2) (hy : yA = l * (x1 - xA) - y1)
    (k : Slp a xA yA x3 y3 m) :
    Gz (xA + l * m) (xA * xA + a + (l - m) * yA - l * m * xA) (l + m) x1 y1 ∧
    Gz (xA + l * m) (xA * xA + a + (l - m) * yA - l * m * xA) (l + m) x2 y2 ∧
    Gz (xA + l * m) (xA * xA + a + (l - m) * yA - l * m * xA) (l + m) x3 y3 := by
  obtain ⟨h1, h2⟩ := h
  obtain ⟨k1, k2⟩ := k
  unfold Gz
  refine ⟨?_, ?_, ?_⟩
  · clear k1 k2
    have e : x1 * x1 + x1 * xA + xA * xA + a = l * (y1 - yA) := by subst hy; subst hx; grobner
    subst hy
    grobner
  · clear k1 k2
    have e : x2 * x2 + x2 * xA + xA * xA + a = l * (y2 - yA) := by subst hy; subst hx; grobner
    have e2 : y2 + yA = l * (x2 - xA) := by subst hy; grobner
    clear hy hx h1 h2
    grobner
  · clear h1 h2 hx hy
    grobner

/-- The sum is where the function is met once more. -/
theorem gz_sum {a x1 x2 x3 y3 l m xA yA xS yS : Fin p} (hx : xA = l * l - x1 - x2)
    (k : Slp a xA yA x3 y3 m) (hS : xS = m * m - xA - x3) (hT : yS = m * (xA - xS) - yA) :
    xS = (l + m) * (l + m) - 2 * (xA + l * m) - x1 - x2 - x3 ∧
    Gz (xA + l * m) (xA * xA + a + (l - m) * yA - l * m * xA) (l + m) xS (- yS) := by
  obtain ⟨k1, k2⟩ := k
  refine ⟨?_, ?_⟩
  · subst hS; subst hx; clear k1 k2 hT; grobner
  · unfold Gz
    clear hx
    have e : xS * xS + xS * xA + xA * xA + a = m * (yA - yS) := by subst hT; subst hS; grobner
    subst hT
    clear k1 k2 hS
    grobner

/-- A third point on the line through two others is their sum's opposite. -/
theorem on_line {a b x1 y1 x2 y2 x3 y3 l : Fin p} (hF : Fld p) (h : Slp a x1 y1 x2 y2 l) (h1 : y1 * y1 = x1 * x1 * x1 + a * x1 + b)
    (h3 : y3 * y3 = x3 * x3 * x3 + a * x3 + b) (n1 : x3 ≠ x1) (n2 : x3 ≠ x2) (hl : y3 - y1 = l * (x3 - x1)) :
    Opp (l * l - x1 - x2) (l * (x1 - (l * l - x1 - x2)) - y1) x3 y3 := by
  obtain ⟨k1, k2⟩ := h
  have e : (x3 - x1) * ((x3 - x2) * (x3 - (l * l - x1 - x2))) = 0 := by
    clear n1 n2 hF
    have q3 : y3 = y1 + l * (x3 - x1) := by clear h1 h3 k1 k2; grobner
    have q2 : y2 = y1 + l * (x2 - x1) := by clear h1 h3 k2 hl; grobner
    have qb : b = y1 * y1 - x1 * x1 * x1 - a * x1 := by clear h3 k1 k2 hl q3 q2; grobner
    clear h1 hl k1
    subst q3; subst q2; subst qb
    have qa : a = l * (y1 + (y1 + l * (x2 - x1))) - x1 * x1 - x1 * x2 - x2 * x2 := by clear h3; grobner
    clear k2
    subst qa
    grobner
  have e1 := hF.zero e (sub_ne n1)
  have e2 := hF.zero e1 (sub_ne n2)
  clear e e1 k1 k2 h1 h3
  refine ⟨by grobner, ?_⟩
  grobner

/-- Two functions that are met at three points are one. -/
theorem gz_same (hF : Fld p) {g h s g' h' s' x1 y1 x3 y3 l : Fin p}
    (hg : (g - g') = (s - s') * l) (h1 : Gz g h s x1 y1) (h1' : Gz g' h' s' x1 y1) (h3 : Gz g h s x3 y3) (h3' : Gz g' h' s' x3 y3)
    (hn : y3 - y1 ≠ l * (x3 - x1)) : g = g' ∧ h = h' ∧ s = s' := by
  unfold Gz at h1 h1' h3 h3'
  have e : (y3 - y1 - l * (x3 - x1)) * (s - s') = 0 := by
    have d1 : (g - g') * x1 + (h - h') = (s - s') * y1 := by clear hg h3 h3' hn; grobner
    have d3 : (g - g') * x3 + (h - h') = (s - s') * y3 := by clear hg h1 h1' hn d1; grobner
    have d : (g - g') * (x3 - x1) = (s - s') * (y3 - y1) := by clear hg h1 h1' h3 h3' hn; grobner
    rw [hg] at d
    clear hg h1 h1' h3 h3' hn d1 d3
    grobner
  have e1 := hF.zero e (sub_ne hn)
  have e2 : s = s' := by grobner
  subst e2
  have e3 : g = g' := by clear h1 h1' h3 h3' e e1; grobner
  subst e3
  refine ⟨rfl, ?_, rfl⟩
  grobner

/-- Where it is met at all is told by it. -/
theorem gz_end (hF : Fld p) {g h s xS yS yT : Fin p} (hs : s ≠ 0) (h1 : Gz g h s xS (- yS)) (h2 : Gz g h s xS (- yT)) : yS = yT := by
  unfold Gz at h1 h2
  have := hF.zero (x := s) (y := yS - yT) (by grobner) hs
  grobner

theorem dbl1 {a x1 y1 x3 y3 l n xB : Fin p} (a2 : l * (y1 + y1) = x1 * x1 + x1 * x1 + x1 * x1 + a) (a3 : y3 - y1 = n * (x3 - x1))
    (a4 : n * (y1 + y3) = x1 * x1 + x1 * x3 + x3 * x3 + a) (hB : xB = n * n - x1 - x3) :
    2 * y1 * (l - n) = (x1 - x3) * (x1 - xB) := by
  have q3 : y3 = y1 + n * (x3 - x1) := by clear a2 a4 hB; grobner
  subst q3; subst hB; clear a3
  grobner

theorem dbl2 {x1 y1 n o xB yB : Fin p} (hB' : yB = n * (x1 - xB) - y1) (a5 : yB - y1 = o * (xB - x1)) : (n + o) * (x1 - xB) = 2 * y1 := by
  subst hB'
  grobner

theorem dbl3 {x1 x3 y1 l n o xB : Fin p} (q1 : 2 * y1 * (l - n) = (x1 - x3) * (x1 - xB)) (q2 : (n + o) * (x1 - xB) = 2 * y1) :
    (2 * y1) * ((l - n) * (n + o) - (x1 - x3)) = 0 := by
  grobner

theorem dst1 {x1 x2 y1 y2 g h s g' h' s' l : Fin p} (a1 : y2 - y1 = l * (x2 - x1)) (g1 : Gz g h s x1 y1) (g2 : Gz g h s x2 y2)
    (k1 : Gz g' h' s' x1 y1) (k2 : Gz g' h' s' x2 y2) : (x2 - x1) * ((g - g') - (s - s') * l) = 0 := by
  unfold Gz at g1 g2 k1 k2
  have d1 : (g - g') * x1 + (h - h') = (s - s') * y1 := by clear g2 k2 a1; grobner
  have d3 : (g - g') * x2 + (h - h') = (s - s') * y2 := by clear g1 k1 a1 d1; grobner
  have d : (g - g') * (x2 - x1) = (s - s') * (y2 - y1) := by clear g1 g2 k1 k2 a1; grobner
  rw [a1] at d
  clear g1 g2 k1 k2 a1 d1 d3
  grobner

theorem gz0 {g h x1 x3 : Fin p} (q : 2 * x1 + g = 0) (g1 : x1 * x1 + g * x1 + h = 0) (g3 : x3 * x3 + g * x3 + h = 0) : (x3 - x1) * (x3 - x1) = 0 := by
  grobner

theorem gz1 {g h x1 x3 : Fin p} (g1 : x1 * x1 + g * x1 + h = 0) (g3 : x3 * x3 + g * x3 + h = 0) : (x3 - x1) * (x3 + x1 + g) = 0 := by
  grobner

theorem assoc_gen {a b x1 y1 x2 y2 x3 y3 l m n o xA yA xB yB : Fin p} (hC : Cu a b)
    (h1 : y1 * y1 = x1 * x1 * x1 + a * x1 + b) (h3 : y3 * y3 = x3 * x3 * x3 + a * x3 + b)
    (hl : Slp a x1 y1 x2 y2 l) (hA : xA = l * l - x1 - x2) (hA' : yA = l * (x1 - xA) - y1) (hm : Slp a xA yA x3 y3 m)
    (hn : Slp a x2 y2 x3 y3 n) (hB : xB = n * n - x2 - x3) (hB' : yB = n * (x2 - xB) - y2) (ho : Slp a x1 y1 xB yB o)
    (hO : ¬ Opp xA yA x3 y3) (n12 : x1 = x2 → y1 = y2 ∧ y1 + y1 ≠ 0) (n13 : x1 ≠ x3) (n23 : x2 ≠ x3) :
    m * m - xA - x3 = o * o - x1 - xB ∧ m * (xA - (m * m - xA - x3)) - yA = o * (x1 - (o * o - x1 - xB)) - y1 := by
  have hF := hC.fld
  obtain ⟨g1, g2, g3⟩ := gz_all hl hA hA' hm
  obtain ⟨k2, k3, k1⟩ := gz_all hn hB hB' ho.comm
  have gS := gz_sum hA hm rfl rfl
  have kS := gz_sum hB ho.comm rfl rfl
  have hnl : y3 - y1 ≠ l * (x3 - x1) := by
    intro e
    have := on_line hF hl h1 h3 (fun e => n13 e.symm) (fun e => n23 e.symm) e
    rw [← hA, ← hA'] at this
    exact hO this
  have hd : (xA + l * m) - (xB + n * o) = ((l + m) - (n + o)) * l := by
    by_cases e : x1 = x2
    · obtain ⟨e1, e2⟩ := n12 e
      subst e; subst e1
      have f1 : xA + l * m + 2 * x1 = (l + m) * l := by subst hA; clear g1 g2 g3 k1 k2 k3 gS kS; grobner
      have f3 := dbl3 (dbl1 hl.2 hn.1 hn.2 hB) (dbl2 hB' ho.1)
      have f4 := hF.zero f3 (by intro q; apply e2; clear f1 f3 g1 g2 g3 k1 k2 k3 gS kS hl hm hn ho hA hA' hB hB' h1 h3; grobner)
      subst hB
      clear f3 g1 g2 g3 k1 k2 k3 gS kS hl hm hn ho hB' hA hA' h1 h3 hnl
      grobner
    · have f2 := hF.zero (dst1 hl.1 g1 g2 k1 k2) (sub_ne (fun q => e q.symm))
      clear g1 g2 g3 k1 k2 k3 gS kS hl hm hn ho hB' hA hA' h1 h3 hnl hB
      grobner
  obtain ⟨e1, e2, e3⟩ := gz_same hF hd g1 k1 g3 k3 hnl
  obtain ⟨gx, gy⟩ := gS
  obtain ⟨kx, ky⟩ := kS
  have hs : l + m ≠ 0 := by
    intro e
    have hd1 : 2 * x1 + (xA + l * m) = (l + m) * l ∨ x1 ≠ x2 := by
      by_cases q : x1 = x2
      · left; subst hA; subst q; clear g1 g2 g3 k1 k2 k3 gx gy kx ky e1 e2 e3 hd; grobner
      · right; exact q
    unfold Gz at g1 g2 g3
    rw [e, show ∀ x : Fin p, 0 * x = 0 from fun x => by grobner] at g1 g2 g3
    rcases hd1 with q | q
    · rw [e, show ∀ x : Fin p, 0 * x = 0 from fun x => by grobner] at q
      exact sub_ne (fun e => n13 e.symm) (hF.zero (gz0 q g1 g3) (sub_ne (fun e => n13 e.symm)))
    · have t2 := hF.zero (gz1 g1 g2) (sub_ne (fun e => q e.symm))
      have t4 := hF.zero (gz1 g1 g3) (sub_ne (fun e => n13 e.symm))
      apply n23
      clear k1 k2 k3 gx gy kx ky e1 e2 e3 hd hl hm hn ho hA hA' hB hB' g1 g2 g3 h1 h3 hnl
      grobner
  have hxx : m * m - xA - x3 = o * o - xB - x1 := by
    rw [gx, kx, ← e3, ← e1]
    clear g1 g2 g3 k1 k2 k3 gx gy kx ky e1 e2 e3 hd
    grobner
  rw [← e1, ← e2, ← e3, ← hxx] at ky
  have hyy := gz_end hF hs gy ky
  refine ⟨by rw [hxx]; clear g1 g2 g3 k1 k2 k3 gx gy kx ky e1 e2 e3 hd hyy hxx; grobner, ?_⟩
  rw [hyy, hxx]
  obtain ⟨a5, a6⟩ := ho
  clear g1 g2 g3 k1 k2 k3 gx gy kx ky e1 e2 e3 hd hyy hxx hl hm hn a6 hA hA' hB hB'
  grobner

theorem same_y {a b x y1 y2 : Fin p} (hF : Fld p) (h1 : y1 * y1 = x * x * x + a * x + b) (h2 : y2 * y2 = x * x * x + a * x + b) (h : y1 + y2 ≠ 0) : y1 = y2 := by
  have := hF.zero (x := y1 + y2) (y := y1 - y2) (by grobner) h
  clear h1 h2
  grobner

theorem ng_of {x1 y1 x2 y2 : Fin p} (h : Opp x1 y1 x2 y2) : (some (x2, y2) : Pt p) = ng (some (x1, y1)) := by
  obtain ⟨h1, h2⟩ := h
  simp only [ng]
  congr 2
  · exact h1.symm
  · grobner

/-- The same, as sums. -/
theorem assoc_pts {a b x1 y1 x2 y2 x3 y3 xA yA xB yB : Fin p} {S T : Pt p} (hC : Cu a b)
    (h1 : y1 * y1 = x1 * x1 * x1 + a * x1 + b) (h2 : y2 * y2 = x2 * x2 * x2 + a * x2 + b) (h3 : y3 * y3 = x3 * x3 * x3 + a * x3 + b)
    (o1 : ¬ Opp x1 y1 x2 y2) (k1 : Ad a (some (x1, y1)) (some (x2, y2)) (some (xA, yA)))
    (o2 : ¬ Opp xA yA x3 y3) (k2 : Ad a (some (xA, yA)) (some (x3, y3)) S)
    (o3 : ¬ Opp x2 y2 x3 y3) (k3 : Ad a (some (x2, y2)) (some (x3, y3)) (some (xB, yB)))
    (o4 : ¬ Opp x1 y1 xB yB) (k4 : Ad a (some (x1, y1)) (some (xB, yB)) T) (n13 : x1 ≠ x3) (n23 : x2 ≠ x3) : S = T := by
  simp only [Ad] at k1 k2 k3 k4
  rcases k1 with ⟨e, _⟩ | ⟨_, l, l1, l2⟩
  · exact absurd e o1
  rcases k2 with ⟨e, _⟩ | ⟨_, m, m1, m2⟩
  · exact absurd e o2
  rcases k3 with ⟨e, _⟩ | ⟨_, n, r1, r2⟩
  · exact absurd e o3
  rcases k4 with ⟨e, _⟩ | ⟨_, o, s1, s2⟩
  · exact absurd e o4
  simp only [Option.some.injEq, Prod.mk.injEq] at l2 r2
  obtain ⟨lx, ly⟩ := l2
  obtain ⟨rx, ry⟩ := r2
  rw [← lx] at ly
  rw [← rx] at ry
  obtain ⟨e1, e2⟩ := assoc_gen hC h1 h3 l1 lx ly m1 r1 rx ry s1 o2 (by
    intro e; subst e
    have hy : y1 + y2 ≠ 0 := fun q => o1 ⟨rfl, q⟩
    have := same_y hC.fld h1 h2 hy
    subst this
    exact ⟨rfl, hy⟩) n13 n23
  rw [m2, s2]
  rw [e1] at e2 ⊢
  rw [e2]

theorem Ad.far_right {a : Fin p} {P S : Pt p} (h : Ad a P none S) : S = P := by
  match P with
  | none => exact h
  | some (x, y) => exact h

theorem assoc {a b : Fin p} (hC : Cu a b) {P Q R A S B T : Pt p} (hP : OnF a b P) (hQ : OnF a b Q) (hR : OnF a b R)
    (h1 : Ad a P Q A) (h2 : Ad a A R S) (h3 : Ad a Q R B) (h4 : Ad a P B T) : S = T := by
  have hF := hC.fld
  match P, Q, R with
  | none, Q, R =>
    have e1 : A = Q := h1
    have e2 : T = B := h4
    subst e1; subst e2
    exact h2.uniq hF h3
  | some P, none, R =>
    have e1 : A = some P := h1
    have e2 : B = R := h3
    subst e1; subst e2
    exact h2.uniq hF h4
  | some P, some Q, none =>
    have e1 := h2.far_right
    have e2 := h3.far_right
    subst e1; subst e2
    exact h1.uniq hF h4
  | some (x1, y1), some (x2, y2), some (x3, y3) =>
    by_cases o1 : Opp x1 y1 x2 y2
    · have eA : A = none := by
        simp only [Ad] at h1
        rcases h1 with ⟨_, e⟩ | ⟨e, _⟩
        · exact e
        · exact absurd o1 e
      subst eA
      have eS : S = some (x3, y3) := h2
      rw [ng_of o1] at h3
      have := (h3.back hC (ng_on hP) hR).comm
      rw [ng_ng] at this
      rw [eS]
      exact this.uniq hF h4
    by_cases o3 : Opp x2 y2 x3 y3
    · have eB : B = none := by
        simp only [Ad] at h3
        rcases h3 with ⟨_, e⟩ | ⟨e, _⟩
        · exact e
        · exact absurd o3 e
      subst eB
      have eT := h4.far_right
      rw [ng_of o3] at h2
      have := h1.comm.back hC hQ hP
      rw [eT]
      exact h2.uniq hF this
    obtain ⟨xA, yA, eA⟩ : ∃ xA yA, A = some (xA, yA) := by
      simp only [Ad] at h1
      rcases h1 with ⟨e, _⟩ | ⟨_, l, _, e⟩
      · exact absurd e o1
      · exact ⟨_, _, e⟩
    obtain ⟨xB, yB, eB⟩ : ∃ xB yB, B = some (xB, yB) := by
      simp only [Ad] at h3
      rcases h3 with ⟨e, _⟩ | ⟨_, l, _, e⟩
      · exact absurd e o3
      · exact ⟨_, _, e⟩
    subst eA; subst eB
    have hA := h1.on hP hQ
    have hB := h3.on hQ hR
    by_cases o2 : Opp xA yA x3 y3
    · have eS : S = none := by
        simp only [Ad] at h2
        rcases h2 with ⟨_, e⟩ | ⟨e, _⟩
        · exact e
        · exact absurd o2 e
      rw [ng_of o2] at h3
      have k := (h1.neg.comm.back hC (ng_on hQ) (ng_on hP)).comm
      rw [ng_ng] at k
      have e := h3.uniq hF k
      rw [e] at h4
      rw [eS]
      exact (add_ng _).uniq hF h4
    by_cases o4 : Opp x1 y1 xB yB
    · have eT : T = none := by
        simp only [Ad] at h4
        rcases h4 with ⟨_, e⟩ | ⟨e, _⟩
        · exact e
        · exact absurd o4 e
      have k := h3.back hC hQ hR
      rw [ng_of o4] at k
      have e := k.uniq hF h1.neg
      rw [e] at h2
      rw [eT]
      exact h2.uniq hF (add_ng _)
    by_cases n13 : x1 = x3
    · by_cases hy : y1 + y3 = 0
      · rw [ng_of (show Opp x1 y1 x3 y3 from ⟨n13, hy⟩)] at h2 h3
        have e1 := h2.uniq hF (h1.back hC hP hQ)
        have k := (h3.comm.back hC (ng_on hP) hQ).comm
        rw [ng_ng] at k
        have e2 := h4.uniq hF k
        rw [e1, e2]
      · subst n13
        have e := same_y hF hP hR hy
        subst e
        have e := h3.uniq hF h1.comm
        rw [e] at h4
        exact h2.uniq hF h4.comm
    by_cases n23 : x2 = x3
    · have hy : y2 + y3 ≠ 0 := fun q => o3 ⟨n23, q⟩
      subst n23
      have e := same_y hF hQ hR hy
      subst e
      exact (assoc_pts hC hQ hQ hP o3 h3 (fun e => o4 e.comm) h4.comm (fun e => o1 e.comm) h1.comm (fun e => o2 e.comm) h2.comm (fun e => n13 e.symm) (fun e => n13 e.symm)).symm
    · exact assoc_pts hC hP hQ hR o1 h1 o2 h2 o3 h3 o4 h4 n13 n23
end
end EC

end Go.Proofs.YtbeceimopamllaaDoor
end

section
/- Plain facts: points of a curve as the program has them: sums, multiples, orders. -/
set_option linter.unusedVariables false
set_option maxRecDepth 100000
namespace Go.Proofs.YtbeceimopamllaaDoor
namespace EC

/-- A point as the program has it. -/
structure Pn where
  x : Int
  y : Int
  far : Bool

theorem Pn.ext' {q r : Pn} (hx : q.x = r.x) (hy : q.y = r.y) (hf : q.far = r.far) : q = r := by
  cases q; cases r; simp_all

def farP : Pn := ⟨0, 0, true⟩

/-- An inverse, by Fermat. -/
def iv (p d : Int) : Int := (d % p) ^ (p - 2).toNat % p
/-- The slope. -/
def slo (p a : Int) (q r : Pn) : Int :=
  if q.x = r.x then ((3 * q.x * q.x + a) * iv p (2 * q.y)) % p else ((r.y - q.y) * iv p (r.x - q.x)) % p
def padK (p k : Int) (q r : Pn) : Pn := ⟨(k * k - q.x - r.x) % p, (k * (q.x - (k * k - q.x - r.x) % p) - q.y) % p, false⟩
/-- Two points, added. -/
def padd (p a : Int) (q r : Pn) : Pn :=
  if q.far = true then r else if r.far = true then q else if q.x = r.x ∧ (q.y + r.y) % p = 0 then farP else padK p (slo p a q r) q r
def pneg (p : Int) (q : Pn) : Pn := ⟨q.x, (- q.y) % p, q.far⟩
/-- A point of the curve. -/
def On (p a b : Int) (q : Pn) : Prop :=
  (q.far = true ∧ q.x = 0 ∧ q.y = 0) ∨ (q.far = false ∧ 0 ≤ q.x ∧ q.x < p ∧ 0 ≤ q.y ∧ q.y < p ∧ (q.x * q.x * q.x + a * q.x + b - q.y * q.y) % p = 0)
def mu (p a : Int) (q : Pn) : Nat → Pn
  | 0 => farP
  | n + 1 => padd p a (mu p a q n) q

/-- A curve. -/
structure Cv (P : Nat) (a b : Int) : Prop where
  pr : Pr P
  p5 : 5 ≤ P
  p2 : P ≤ 2000
  a0 : 0 ≤ a
  a1 : a < P
  b0 : 0 ≤ b
  b1 : b < P
  dis : (4 * a * a * a + 27 * b * b) % (P : Int) ≠ 0

theorem Cv.nz {P : Nat} {a b : Int} (h : Cv P a b) : NeZero P := ⟨by have := h.p5; omega⟩

theorem iv_ok {P : Nat} (hp : Pr P) {d : Int} (h : d % (P : Int) ≠ 0) : (d * iv P d) % (P : Int) = 1 := by
  have h2 := hp.1
  obtain ⟨D, hD⟩ : ∃ D : Nat, d % (P : Int) = D := ⟨(d % (P : Int)).toNat, by have := Int.emod_nonneg d (show (P : Int) ≠ 0 by omega); omega⟩
  have hDP : D < P := by have := Int.emod_lt_of_pos d (show 0 < (P : Int) by omega); omega
  have hf := fermat hp (b := D) (by rw [Nat.mod_eq_of_lt hDP]; omega)
  have e : (d * iv P d) % (P : Int) = ((D * D ^ (P - 2) % P : Nat) : Int) := by
    unfold iv
    rw [hD, show ((P : Int) - 2).toNat = P - 2 by omega, Int.mul_emod, hD, Int.emod_emod_of_dvd _ (Int.dvd_refl _), Int.natCast_emod, Int.natCast_mul, Int.natCast_pow]
    rw [Int.mul_emod (D : Int) ((D : Int) ^ (P - 2)), Int.emod_eq_of_lt (a := (D : Int)) (by omega) (by omega)]
  rw [e, show D * D ^ (P - 2) = D ^ (P - 1) by rw [Nat.mul_comm, ← Nat.pow_succ]; congr 1; omega, hf]; rfl

def code (p : Nat) (q : Pn) : Nat := if q.far = true then 0 else q.x.toNat * p + q.y.toNat + 1

theorem code_lt {P : Nat} {a b : Int} (hc : Cv P a b) {q : Pn} (hq : On P a b q) : code P q < P * P + 1 := by
  unfold code
  rcases hq with ⟨h, hx, hy⟩ | ⟨h, h1, h2, h3, h4, h5⟩
  · rw [if_pos h]; omega
  · rw [if_neg (by simp [h])]
    have e1 : q.x.toNat * P ≤ (P - 1) * P := Nat.mul_le_mul_right _ (by omega)
    have e2 : (P - 1) * P + P = P * P := by
      have := Nat.sub_add_cancel (show 1 ≤ P by have := hc.p5; omega)
      rw [← Nat.succ_mul, Nat.succ_eq_add_one, this]
    omega

theorem code_inj {P : Nat} {a b : Int} (hc : Cv P a b) {q r : Pn} (hq : On P a b q) (hr : On P a b r) (e : code P q = code P r) : q = r := by
  unfold code at e
  rcases hq with ⟨h, hx, hy⟩ | ⟨h, h1, h2, h3, h4, h5⟩
  · rw [if_pos h] at e
    rcases hr with ⟨k, kx, ky⟩ | ⟨k, k1, k2, k3, k4, k5⟩
    · exact Pn.ext' (by omega) (by omega) (by rw [h, k])
    · rw [if_neg (by simp [k])] at e; omega
  · rw [if_neg (by simp [h])] at e
    rcases hr with ⟨k, kx, ky⟩ | ⟨k, k1, k2, k3, k4, k5⟩
    · rw [if_pos k] at e; omega
    · rw [if_neg (by simp [k])] at e
      have e' : q.x.toNat * P + q.y.toNat = r.x.toNat * P + r.y.toNat := by omega
      have hy : q.y.toNat = r.y.toNat := by
        have := congrArg (· % P) e'
        simp only [Nat.mul_add_mod_self_right] at this
        rwa [Nat.mod_eq_of_lt (by omega), Nat.mod_eq_of_lt (by omega)] at this
      have hx : q.x.toNat = r.x.toNat := by
        have hh : q.x.toNat * P = r.x.toNat * P := by omega
        exact Nat.eq_of_mul_eq_mul_right (by have := hc.p5; omega) hh
      exact Pn.ext' (by omega) (by omega) (by rw [h, k])

/-! ### From whole numbers to what they leave -/
section
variable {P : Nat} [NeZero P]

theorem posP : 0 < P := Nat.pos_of_ne_zero (NeZero.ne P)

def cF (x : Int) : Fin P := ⟨(x % (P : Int)).toNat, by
  have h := @posP P _
  have := Int.emod_lt_of_pos x (show 0 < (P : Int) by omega)
  have := Int.emod_nonneg x (show (P : Int) ≠ 0 by omega)
  omega⟩

theorem cF_val (x : Int) : (((cF x : Fin P).val : Nat) : Int) = x % (P : Int) := by
  have h := @posP P _
  have := Int.emod_nonneg x (show (P : Int) ≠ 0 by omega)
  simp only [cF]
  omega

theorem cF_eq {x y : Int} : (cF x : Fin P) = cF y ↔ x % (P : Int) = y % (P : Int) := by
  rw [← Fin.val_inj, ← Int.ofNat_inj, cF_val, cF_val]

theorem cF_add (x y : Int) : (cF (x + y) : Fin P) = cF x + cF y := by
  rw [← Fin.val_inj, ← Int.ofNat_inj, Fin.val_add, Int.natCast_emod, Int.natCast_add, cF_val, cF_val, cF_val, ← Int.add_emod]

theorem cF_mul (x y : Int) : (cF (x * y) : Fin P) = cF x * cF y := by
  rw [← Fin.val_inj, ← Int.ofNat_inj, Fin.val_mul, Int.natCast_emod, Int.natCast_mul, cF_val, cF_val, cF_val, ← Int.mul_emod]

theorem cF_sub (x y : Int) : (cF (x - y) : Fin P) = cF x - cF y := by
  have : (cF x : Fin P) = cF (x - y) + cF y := by rw [← cF_add]; congr 1; omega
  rw [this]; grobner

theorem cF_zero : (cF 0 : Fin P) = 0 := by
  rw [← Fin.val_inj, ← Int.ofNat_inj, cF_val]; simp

theorem cF_neg (x : Int) : (cF (- x) : Fin P) = - cF x := by
  have := @cF_sub P _ 0 x
  rw [Int.zero_sub, cF_zero] at this
  rw [this]; grobner

theorem cF_one : (cF 1 : Fin P) = 1 := by
  rw [← Fin.val_inj]
  show (1 % (P : Int)).toNat = 1 % P
  rw [show (1 : Int) = ((1 : Nat) : Int) from rfl, ← Int.natCast_emod, Int.toNat_natCast]

theorem cF_two : (cF 2 : Fin P) = 2 := by
  have : (cF 2 : Fin P) = cF 1 + cF 1 := by rw [← cF_add]; rfl
  rw [this, cF_one]; grobner

theorem cF_three : (cF 3 : Fin P) = 3 := by
  have : (cF 3 : Fin P) = cF 1 + cF 2 := by rw [← cF_add]; rfl
  rw [this, cF_one, cF_two]; grobner

theorem cF_four : (cF 4 : Fin P) = 4 := by
  have : (cF 4 : Fin P) = cF 1 + cF 3 := by rw [← cF_add]; rfl
  rw [this, cF_one, cF_three]; grobner

theorem cF_27 : (cF 27 : Fin P) = 27 := by
  have : (cF 27 : Fin P) = cF 3 * (cF 3 * cF 3) := by rw [← cF_mul, ← cF_mul]; rfl
  rw [this, cF_three]; grobner

theorem cF_mod (x : Int) : (cF (x % (P : Int)) : Fin P) = cF x := by
  rw [cF_eq, Int.emod_emod_of_dvd _ (Int.dvd_refl _)]

theorem cF_id (x : Int) (h0 : 0 ≤ x) (h1 : x < P) (y : Int) (k0 : 0 ≤ y) (k1 : y < P) (h : (cF x : Fin P) = cF y) : x = y := by
  rw [cF_eq, Int.emod_eq_of_lt h0 h1, Int.emod_eq_of_lt k0 k1] at h; exact h

theorem cF_z {x : Int} : (cF x : Fin P) = 0 ↔ x % (P : Int) = 0 := by
  rw [← cF_zero, cF_eq]; simp

theorem fld_of (hp : Pr P) : Fld P := by
  intro x hx
  have h : (x.val : Int) % (P : Int) ≠ 0 := by
    intro e
    rw [Int.emod_eq_of_lt (by omega) (by have := x.isLt; omega)] at e
    apply hx
    rw [← Fin.val_inj]
    show x.val = 0 % P
    rw [Nat.zero_mod]; omega
  refine ⟨cF (iv P x.val), ?_⟩
  have e : x = cF (x.val : Int) := by
    rw [← Fin.val_inj, ← Int.ofNat_inj, cF_val, Int.emod_eq_of_lt (by omega) (by have := x.isLt; omega)]
  rw [e, ← cF_mul, ← cF_one, cF_eq, ← e, iv_ok hp h, Int.emod_eq_of_lt (by omega) (by have := hp.1; omega)]

def phi (q : Pn) : Pt P := if q.far = true then none else some (cF q.x, cF q.y)

theorem cu_of {a b : Int} (h : Cv P a b) : Cu (cF a : Fin P) (cF b) where
  fld := fld_of h.pr
  two := by
    rw [← cF_two]
    intro e
    rw [cF_z, Int.emod_eq_of_lt (by omega) (by have := h.p5; omega)] at e
    omega
  dis := by
    intro e
    apply h.dis
    rw [← cF_z (P := P)]
    simp only [cF_add, cF_mul, cF_four, cF_27]
    exact e

theorem phi_on {a b : Int} {q : Pn} (h : On P a b q) : OnF (cF a : Fin P) (cF b) (phi q) := by
  rcases h with ⟨h, _, _⟩ | ⟨h, h1, h2, h3, h4, h5⟩
  · rw [phi, if_pos h]; trivial
  · rw [phi, if_neg (by simp [h])]
    simp only [OnF]
    have e : (cF (q.x * q.x * q.x + a * q.x + b - q.y * q.y) : Fin P) = 0 := cF_z.2 h5
    simp only [cF_add, cF_mul, cF_sub] at e
    grobner

theorem phi_inj {a b : Int} {q r : Pn} (h : On P a b q) (k : On P a b r) (e : (phi q : Pt P) = phi r) : q = r := by
  rcases h with ⟨h, hx, hy⟩ | ⟨h, h1, h2, h3, h4, h5⟩
  · rcases k with ⟨k, kx, ky⟩ | ⟨k, k1, k2, k3, k4, k5⟩
    · exact Pn.ext' (by rw [hx, kx]) (by rw [hy, ky]) (by rw [h, k])
    · rw [phi, phi, if_pos h, if_neg (by simp [k])] at e; cases e
  · rcases k with ⟨k, kx, ky⟩ | ⟨k, k1, k2, k3, k4, k5⟩
    · rw [phi, phi, if_pos k, if_neg (by simp [h])] at e; cases e
    · rw [phi, phi, if_neg (by simp [h]), if_neg (by simp [k])] at e
      simp only [Option.some.injEq, Prod.mk.injEq] at e
      exact Pn.ext' (cF_id _ h1 h2 _ k1 k2 e.1) (cF_id _ h3 h4 _ k3 k4 e.2) (by rw [h, k])

/-- What the slope leaves. -/
theorem slo_k (hp : Pr P) {u d : Int} (h : d % (P : Int) ≠ 0) : (cF ((u * iv P d) % (P : Int)) : Fin P) * cF d = cF u := by
  have e := iv_ok hp h
  have e2 : (cF (d * iv P d) : Fin P) = 1 := by rw [← cF_one, cF_eq, e, Int.emod_eq_of_lt (by omega) (by have := hp.1; omega)]
  rw [cF_mul] at e2
  rw [cF_mod, cF_mul]
  grobner

theorem phi_add {a b : Int} (hc : Cv P a b) {q r : Pn} (hq : On P a b q) (hr : On P a b r) : Ad (cF a : Fin P) (phi q) (phi r) (phi (padd P a q r)) := by
  have hQ := phi_on hq
  have hR := phi_on hr
  have hC := cu_of hc
  rcases hq with ⟨h, hx, hy⟩ | ⟨h, h1, h2, h3, h4, h5⟩
  · simp only [padd, if_pos h]
    rw [phi, if_pos h]; rfl
  have hf : ¬ q.far = true := by simp [h]
  rcases hr with ⟨k, hx, hy⟩ | ⟨k, k1, k2, k3, k4, k5⟩
  · simp only [padd, if_neg hf, if_pos k]
    rw [phi, phi, if_neg hf, if_pos k]; rfl
  have kf : ¬ r.far = true := by simp [k]
  simp only [padd, if_neg hf, if_neg kf]
  have hcf : ∀ x y : Int, x % (P : Int) = 0 ↔ (cF x : Fin P) = 0 := fun x _ => cF_z.symm
  rw [phi, if_neg hf] at hQ
  rw [phi, if_neg kf] at hR
  rw [show (phi q : Pt P) = some (cF q.x, cF q.y) by rw [phi, if_neg hf], show (phi r : Pt P) = some (cF r.x, cF r.y) by rw [phi, if_neg kf]]
  simp only [Ad]
  by_cases ho : q.x = r.x ∧ (q.y + r.y) % (P : Int) = 0
  · rw [if_pos ho]
    left
    refine ⟨⟨by rw [ho.1], by rw [← cF_add]; exact cF_z.2 ho.2⟩, rfl⟩
  · rw [if_neg ho]
    right
    have hno : ¬ Opp (cF q.x : Fin P) (cF q.y) (cF r.x) (cF r.y) := by
      rintro ⟨e1, e2⟩
      exact ho ⟨cF_id _ h1 h2 _ k1 k2 e1, by rw [← cF_add] at e2; exact cF_z.1 e2⟩
    refine ⟨hno, cF (slo P a q r), ?_, ?_⟩
    · simp only [OnF] at hQ hR
      by_cases hx : q.x = r.x
      · rw [slo, if_pos hx]
        have hy : (cF q.y : Fin P) = cF r.y := by
          apply same_y hC.fld hQ (by rw [hx]; exact hR)
          intro e
          exact hno ⟨by rw [hx], e⟩
        have hd : (2 * q.y) % (P : Int) ≠ 0 := by
          intro e
          apply ho
          refine ⟨hx, ?_⟩
          rw [← cF_z (P := P)] at e ⊢
          rw [cF_add, ← hy]
          rw [cF_mul, cF_two] at e
          rw [← e]; grobner
        have e := slo_k hc.pr (u := 3 * q.x * q.x + a) hd
        simp only [cF_add, cF_mul, cF_two, cF_three] at e
        constructor
        · rw [hx, hy]; grobner
        · rw [← hx, ← hy]
          clear hQ hR
          grobner
      · rw [slo, if_neg hx]
        have hd : (r.x - q.x) % (P : Int) ≠ 0 := by
          intro e
          apply hx
          apply cF_id (P := P) _ h1 h2 _ k1 k2
          rw [← cF_z (P := P), cF_sub] at e
          grobner
        have e := slo_k hc.pr (u := r.y - q.y) hd
        have hd2 : (cF r.x : Fin P) - cF q.x ≠ 0 := by rw [← cF_sub]; intro e; exact hd (cF_z.1 e)
        generalize (cF (((r.y - q.y) * iv (P : Int) (r.x - q.x)) % (P : Int)) : Fin P) = l at e ⊢
        simp only [cF_sub] at e
        constructor
        · exact e.symm
        · have := hC.fld.zero (x := (cF r.x : Fin P) - cF q.x) (y := l * (cF q.y + cF r.y) - (cF q.x * cF q.x + cF q.x * cF r.x + cF r.x * cF r.x + cF a)) (by
            generalize (cF r.x : Fin P) = x2 at *
            generalize (cF q.x : Fin P) = x1 at *
            generalize (cF r.y : Fin P) = y2 at *
            generalize (cF q.y : Fin P) = y1 at *
            have t : (x2 - x1) * (l * (y1 + y2)) = (y2 - y1) * (y1 + y2) := by clear hQ hR; grobner
            clear e
            grobner) hd2
          clear e hQ hR
          grobner
    · rw [phi, if_neg (by simp [padK])]
      simp only [padK, cF_mod, cF_sub, cF_mul]

theorem padd_on {a b : Int} (hc : Cv P a b) {q r : Pn} (hq : On P a b q) (hr : On P a b r) : On P a b (padd P a q r) := by
  have h := (phi_add hc hq hr).on (phi_on hq) (phi_on hr)
  have hP : (P : Int) ≠ 0 := by have := hc.p5; omega
  have hP' : 0 < (P : Int) := by have := hc.p5; omega
  unfold padd at h ⊢
  by_cases h1 : q.far = true
  · rw [if_pos h1]; exact hr
  rw [if_neg h1] at h ⊢
  by_cases h2 : r.far = true
  · rw [if_pos h2]; exact hq
  rw [if_neg h2] at h ⊢
  by_cases h3 : q.x = r.x ∧ (q.y + r.y) % (P : Int) = 0
  · rw [if_pos h3]; exact .inl ⟨rfl, rfl, rfl⟩
  rw [if_neg h3] at h ⊢
  rw [phi, if_neg (by simp [padK])] at h
  simp only [OnF] at h
  refine .inr ⟨rfl, Int.emod_nonneg _ hP, Int.emod_lt_of_pos _ hP', Int.emod_nonneg _ hP, Int.emod_lt_of_pos _ hP', ?_⟩
  rw [← cF_z (P := P)]
  simp only [cF_sub, cF_add, cF_mul]
  generalize (cF (padK (↑P) (slo (↑P) a q r) q r).x : Fin P) = X at *
  generalize (cF (padK (↑P) (slo (↑P) a q r) q r).y : Fin P) = Y at *
  grobner

theorem far_on (p a b : Int) : On p a b farP := .inl ⟨rfl, rfl, rfl⟩

theorem padd_far (p a : Int) (q : Pn) : padd p a farP q = q := by simp [padd, farP]

theorem far_of {p a b : Int} {q : Pn} (h : On p a b q) (hf : q.far = true) : q = farP := by
  rcases h with ⟨_, h1, h2⟩ | ⟨h, _⟩
  · exact Pn.ext' h1 h2 hf
  · rw [h] at hf; cases hf

theorem padd_comm {a b : Int} (hc : Cv P a b) {q r : Pn} (hq : On P a b q) (hr : On P a b r) : padd P a q r = padd P a r q :=
  phi_inj (padd_on hc hq hr) (padd_on hc hr hq) ((phi_add hc hq hr).uniq (fld_of hc.pr) (phi_add hc hr hq).comm)

theorem padd_assoc {a b : Int} (hc : Cv P a b) {q r s : Pn} (hq : On P a b q) (hr : On P a b r) (hs : On P a b s) :
    padd P a (padd P a q r) s = padd P a q (padd P a r s) :=
  have h1 := padd_on hc hq hr
  have h2 := padd_on hc hr hs
  phi_inj (padd_on hc h1 hs) (padd_on hc hq h2)
    (assoc (cu_of hc) (phi_on hq) (phi_on hr) (phi_on hs) (phi_add hc hq hr) (phi_add hc h1 hs) (phi_add hc hr hs) (phi_add hc hq h2))

theorem pneg_on {a b : Int} (hc : Cv P a b) {q : Pn} (hq : On P a b q) : On P a b (pneg P q) := by
  have hP : (P : Int) ≠ 0 := by have := hc.p5; omega
  have hP' : 0 < (P : Int) := by have := hc.p5; omega
  rcases hq with ⟨h, hx, hy⟩ | ⟨h, h1, h2, h3, h4, h5⟩
  · exact .inl ⟨h, hx, by simp [pneg, hy]⟩
  · refine .inr ⟨h, h1, h2, Int.emod_nonneg _ hP, Int.emod_lt_of_pos _ hP', ?_⟩
    rw [← cF_z (P := P)] at h5 ⊢
    simp only [pneg, cF_sub, cF_add, cF_mul, cF_mod, cF_neg] at h5 ⊢
    rw [← h5]; grobner

theorem padd_neg {a b : Int} (hc : Cv P a b) {q : Pn} (hq : On P a b q) : padd P a q (pneg P q) = farP := by
  rcases hq with ⟨h, hx, hy⟩ | ⟨h, h1, h2, h3, h4, h5⟩
  · rw [padd, if_pos h]
    exact Pn.ext' hx (by simp [pneg, hy, farP]) h
  · rw [padd, if_neg (by simp [h]), if_neg (by simp [pneg, h]), if_pos]
    refine ⟨rfl, ?_⟩
    simp only [pneg]
    rw [← cF_z (P := P), cF_add, cF_mod, cF_neg]; grobner

theorem padd_far' {a b : Int} (hc : Cv P a b) {q : Pn} (hq : On P a b q) : padd P a q farP = q := by
  rw [padd_comm hc hq (far_on _ _ _), padd_far]

theorem mu_on {a b : Int} (hc : Cv P a b) {q : Pn} (hq : On P a b q) : ∀ n, On P a b (mu P a q n)
  | 0 => far_on _ _ _
  | n + 1 => padd_on hc (mu_on hc hq n) hq

theorem mu_add {a b : Int} (hc : Cv P a b) {q : Pn} (hq : On P a b q) (m : Nat) : ∀ n, mu P a q (m + n) = padd P a (mu P a q m) (mu P a q n)
  | 0 => by rw [Nat.add_zero, mu, padd_far' hc (mu_on hc hq m)]
  | n + 1 => by
    rw [← Nat.add_assoc, mu, mu_add hc hq m n, padd_assoc hc (mu_on hc hq m) (mu_on hc hq n) hq]; rfl

/-- What may be struck. -/
theorem padd_cancel {a b : Int} (hc : Cv P a b) {q r s : Pn} (hq : On P a b q) (hr : On P a b r) (hs : On P a b s) (h : padd P a q s = padd P a r s) : q = r := by
  have e : padd P a (padd P a q s) (pneg P s) = padd P a (padd P a r s) (pneg P s) := by rw [h]
  have hn := pneg_on hc hs
  rw [padd_assoc hc hq hs hn, padd_assoc hc hr hs hn, padd_neg hc hs, padd_far' hc hq, padd_far' hc hr] at e
  exact e

/-- The order. -/
def Od (p a : Int) (q : Pn) (k : Nat) : Prop := 0 < k ∧ mu p a q k = farP ∧ ∀ j, 0 < j → j < k → mu p a q j ≠ farP

theorem od_ex {a b : Int} (hc : Cv P a b) {q : Pn} (hq : On P a b q) : ∃ k, Od P a q k ∧ k ≤ P * P + 1 := by
  -- two multiples are the same
  have hpg : ∃ i j, i < j ∧ j < P * P + 2 ∧ mu P a q i = mu P a q j := by
    apply Classical.byContradiction
    intro hno
    have hinj : ∀ i j, i < j → j < P * P + 2 → code P (mu P a q i) ≠ code P (mu P a q j) := by
      intro i j hij hj e
      exact hno ⟨i, j, hij, hj, code_inj hc (mu_on hc hq i) (mu_on hc hq j) e⟩
    obtain ⟨i, hi, e⟩ := pigeon (P * P + 2) (fun i => code P (mu P a q i)) (fun i _ => by have := code_lt hc (mu_on hc hq i); omega) hinj (P * P + 1) (by omega)
    have := code_lt hc (mu_on hc hq i)
    omega
  obtain ⟨i, j, hij, hj, e⟩ := hpg
  have hz : mu P a q (j - i) = farP := by
    have h1 := mu_add hc hq (j - i) i
    rw [Nat.sub_add_cancel (Nat.le_of_lt hij), ← e] at h1
    refine (padd_cancel hc (far_on P a b) (mu_on hc hq _) (mu_on hc hq i) ?_).symm
    rw [padd_far, ← h1]
  -- the least one
  have hleast : ∀ n, 0 < n → mu P a q n = farP → ∃ k, Od P a q k ∧ k ≤ n := by
    intro n
    induction n using Nat.strongRecOn with
    | _ n ih =>
      intro hn hm
      by_cases h : ∃ m, 0 < m ∧ m < n ∧ mu P a q m = farP
      · obtain ⟨m, h1, h2, h3⟩ := h
        obtain ⟨k, hk, hkm⟩ := ih m h2 h1 h3
        exact ⟨k, hk, by omega⟩
      · exact ⟨n, ⟨hn, hm, fun m h1 h2 h3 => h ⟨m, h1, h2, h3⟩⟩, Nat.le_refl _⟩
  obtain ⟨k, h1, h2⟩ := hleast (j - i) (by omega) hz
  exact ⟨k, h1, by omega⟩

theorem mu_mul {a b : Int} (hc : Cv P a b) {q : Pn} (hq : On P a b q) {k : Nat} (h : mu P a q k = farP) : ∀ n, mu P a q (k * n) = farP
  | 0 => rfl
  | n + 1 => by rw [Nat.mul_succ, mu_add hc hq, mu_mul hc hq h n, h, padd_far]

theorem mu_mod {a b : Int} (hc : Cv P a b) {q : Pn} (hq : On P a b q) {k : Nat} (h : mu P a q k = farP) (n : Nat) : mu P a q n = mu P a q (n % k) := by
  have e := Nat.div_add_mod n k
  conv => lhs; rw [← e]
  rw [mu_add hc hq, mu_mul hc hq h, padd_far]

/-- A multiple by whatever whole number. -/
def mz (p a : Int) (q : Pn) (z : Int) : Pn := if 0 ≤ z then mu p a q z.toNat else mu p a (pneg p q) (- z).toNat

theorem mu_neg {a b : Int} (hc : Cv P a b) {q : Pn} (hq : On P a b q) : ∀ n, padd P a (mu P a (pneg P q) n) (mu P a q n) = farP
  | 0 => by simp [mu, padd_far]
  | n + 1 => by
    have hn := pneg_on hc hq
    have ih := mu_neg hc hq n
    have m1 := mu_on hc hn n
    have m2 := mu_on hc hq n
    rw [mu, mu, padd_comm hc m2 hq, padd_assoc hc m1 hn (padd_on hc hq m2), ← padd_assoc hc hn hq m2, padd_comm hc hn hq, padd_neg hc hq, padd_far, ih]

theorem mz_mod {a b : Int} (hc : Cv P a b) {q : Pn} (hq : On P a b q) {k : Nat} (h : Od P a q k) (z : Int) : mz P a q z = mu P a q (z % (k : Int)).toNat := by
  have hk := h.1
  unfold mz
  by_cases hz : 0 ≤ z
  · rw [if_pos hz, mu_mod hc hq h.2.1]
    congr 1
    obtain ⟨Z, rfl⟩ : ∃ Z : Nat, z = Z := ⟨z.toNat, by omega⟩
    rw [← Int.natCast_emod, Int.toNat_natCast, Int.toNat_natCast]
  · rw [if_neg hz]
    obtain ⟨Z, rfl⟩ : ∃ Z : Nat, z = - (Z : Int) := ⟨(- z).toNat, by omega⟩
    have hZ : (- (- (Z : Int))).toNat = Z := by omega
    rw [hZ]
    have r0 := Int.emod_nonneg (- (Z : Int)) (show (k : Int) ≠ 0 by omega)
    obtain ⟨R, hR⟩ : ∃ R : Nat, (- (Z : Int)) % (k : Int) = R := ⟨((- (Z : Int)) % (k : Int)).toNat, by omega⟩
    rw [hR]
    have hd : k ∣ R + Z := by
      have : (k : Int) ∣ ((R + Z : Nat) : Int) := by
        rw [Int.natCast_add, ← hR]
        have := Int.emod_add_mul_ediv (- (Z : Int)) k
        exact ⟨- ((- (Z : Int)) / k), by rw [Int.mul_neg]; omega⟩
      exact Int.ofNat_dvd.1 this
    obtain ⟨t, ht⟩ := hd
    refine padd_cancel hc (mu_on hc (pneg_on hc hq) _) (mu_on hc hq _) (mu_on hc hq Z) ?_
    rw [mu_neg hc hq, Int.toNat_natCast, ← mu_add hc hq, ht, mu_mul hc hq h.2.1]

theorem mz_add {a b : Int} (hc : Cv P a b) {q : Pn} (hq : On P a b q) (m n : Int) : padd P a (mz P a q m) (mz P a q n) = mz P a q (m + n) := by
  obtain ⟨k, hk, _⟩ := od_ex hc hq
  have hk0 : (k : Int) ≠ 0 := by have := hk.1; omega
  rw [mz_mod hc hq hk, mz_mod hc hq hk, mz_mod hc hq hk, ← mu_add hc hq, mu_mod hc hq hk.2.1]
  congr 1
  have m0 := Int.emod_nonneg m hk0
  have n0 := Int.emod_nonneg n hk0
  have e : ((((m % (k : Int)).toNat + (n % (k : Int)).toNat) % k : Nat) : Int) = (m + n) % (k : Int) := by
    rw [Int.natCast_emod, Int.natCast_add, Int.toNat_of_nonneg m0, Int.toNat_of_nonneg n0, ← Int.add_emod]
  omega

theorem mz_on {a b : Int} (hc : Cv P a b) {q : Pn} (hq : On P a b q) (z : Int) : On P a b (mz P a q z) := by
  unfold mz
  split
  · exact mu_on hc hq _
  · exact mu_on hc (pneg_on hc hq) _

/-- Twice as often of half as much. -/
theorem mu_double {a b : Int} (hc : Cv P a b) {q : Pn} (hq : On P a b q) (n : Nat) : mu P a (padd P a q q) n = mu P a q (2 * n) := by
  induction n with
  | zero => rfl
  | succ n ih =>
    rw [mu, ih, show 2 * (n + 1) = 2 * n + 2 by omega, mu_add hc hq]
    simp [mu, padd_far]
end
end EC
end Go.Proofs.YtbeceimopamllaaDoor
end
