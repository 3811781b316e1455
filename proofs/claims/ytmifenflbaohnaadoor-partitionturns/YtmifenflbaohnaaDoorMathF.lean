/- Plain facts: primes, orders, Lucas' and Pratt's theorem, Fermat's and Miller's. -/
set_option linter.unusedVariables false
set_option maxRecDepth 100000
namespace Go.Proofs.YtmifenflbaohnaaDoor

/-- A prime. -/
def Pr (n : Nat) : Prop := 2 ≤ n ∧ ∀ d, d ∣ n → d = 1 ∨ d = n

theorem pr_divisor (n : Nat) (h : 2 ≤ n) : ∃ p, Pr p ∧ p ∣ n := by
  induction n using Nat.strongRecOn with
  | ind n ih =>
    by_cases hp : ∃ d, d ∣ n ∧ d ≠ 1 ∧ d ≠ n
    · obtain ⟨d, hd, h1, hn⟩ := hp
      have hle : d ≤ n := Nat.le_of_dvd (by omega) hd
      have h0 : d ≠ 0 := by rintro rfl; have := Nat.eq_zero_of_zero_dvd hd; omega
      obtain ⟨p, hp, hpd⟩ := ih d (by omega) (by omega)
      exact ⟨p, hp, Nat.dvd_trans hpd hd⟩
    · refine ⟨n, ⟨h, fun d hd => ?_⟩, Nat.dvd_refl _⟩
      by_cases h1 : d = 1
      · exact .inl h1
      · by_cases h2 : d = n
        · exact .inr h2
        · exact absurd ⟨d, hd, h1, h2⟩ hp

theorem pr_mul {p a b : Nat} (hp : Pr p) (h : p ∣ a * b) : p ∣ a ∨ p ∣ b := by
  rcases hp.2 (Nat.gcd p a) (Nat.gcd_dvd_left ..) with hg | hg
  · exact .inr (Nat.Coprime.dvd_of_dvd_mul_left hg h)
  · refine .inl ?_
    have := Nat.gcd_dvd_right p a
    rwa [hg] at this

theorem pr_pow {p a : Nat} (hp : Pr p) (k : Nat) (h : p ∣ a ^ k) : p ∣ a := by
  induction k with
  | zero =>
    rw [Nat.pow_zero] at h
    have := Nat.le_of_dvd (by decide) h
    have := hp.1
    omega
  | succ k ih =>
    rw [Nat.pow_succ] at h
    rcases pr_mul hp h with h | h
    · exact ih h
    · exact h

/-! ### Orders -/

theorem pow_mod_one {a n N : Nat} (hn : 1 < n) (h : a ^ N % n = 1) (k : Nat) : a ^ (N * k) % n = 1 := by
  rw [Nat.pow_mul, Nat.pow_mod, h, Nat.one_pow, Nat.mod_eq_of_lt hn]

/-- a is invertible: what a^i and a^j leave in common may be divided away. -/
theorem pow_cancel {a n N i j : Nat} (hn : 1 < n) (hN : 0 < N) (h : a ^ N % n = 1) (hij : i ≤ j) (he : a ^ i % n = a ^ j % n) : a ^ (j - i) % n = 1 := by
  have h1 : a ^ (j - i) % n = a ^ (j - i) * a ^ (N * i) % n := by
    rw [Nat.mul_mod, pow_mod_one hn h, Nat.mul_one, Nat.mod_mod]
  have hle : i ≤ N * i := Nat.le_mul_of_pos_left i hN
  have h2 : a ^ (j - i) * a ^ (N * i) = a ^ j * a ^ (N * i - i) := by
    rw [← Nat.pow_add, ← Nat.pow_add]; congr 1; omega
  rw [h1, h2, Nat.mul_mod, ← he, ← Nat.mul_mod, ← Nat.pow_add, show i + (N * i - i) = N * i by omega]
  exact pow_mod_one hn h i

/-- The order of a: the least power that leaves 1; it divides every such power. -/
theorem order_dvd {a n d k : Nat} (hn : 1 < n) (hd : 0 < d) (h : a ^ d % n = 1) (hl : ∀ e, 0 < e → e < d → a ^ e % n ≠ 1) (hk : a ^ k % n = 1) : d ∣ k := by
  have h1 : a ^ k = a ^ (d * (k / d)) * a ^ (k % d) := by
    rw [← Nat.pow_add, Nat.div_add_mod]
  have h2 : a ^ (k % d) % n = 1 := by
    have h3 : a ^ k % n = a ^ (k % d) % n := by
      rw [h1, Nat.mul_mod, pow_mod_one hn h, Nat.one_mul, Nat.mod_mod]
    omega
  by_cases h0 : k % d = 0
  · exact Nat.dvd_of_mod_eq_zero h0
  · exact absurd h2 (hl _ (by omega) (Nat.mod_lt _ hd))

theorem order_least {a n N : Nat} (hN : 0 < N) (h : a ^ N % n = 1) : ∃ d, 0 < d ∧ d ≤ N ∧ a ^ d % n = 1 ∧ ∀ e, 0 < e → e < d → a ^ e % n ≠ 1 := by
  induction N using Nat.strongRecOn with
  | ind N ih =>
    by_cases hx : ∃ e, 0 < e ∧ e < N ∧ a ^ e % n = 1
    · obtain ⟨e, h0, hlt, he⟩ := hx
      obtain ⟨d, h1, h2, h3, h4⟩ := ih e hlt h0 he
      exact ⟨d, h1, by omega, h3, h4⟩
    · exact ⟨N, hN, Nat.le_refl _, h, fun e h0 hlt he => hx ⟨e, h0, hlt, he⟩⟩

/-- (Lucas) Where no power by a prime less leaves 1, no lesser power does. -/
theorem lucas {a n N : Nat} (hn : 1 < n) (hN : 0 < N) (h : a ^ N % n = 1) (hq : ∀ q, Pr q → q ∣ N → a ^ (N / q) % n ≠ 1) : ∀ e, 0 < e → e < N → a ^ e % n ≠ 1 := by
  obtain ⟨d, h0, hle, hd, hl⟩ := order_least hN h
  obtain ⟨m, rfl⟩ := order_dvd hn h0 hd hl h
  by_cases hm : m = 1
  · subst hm; simpa using hl
  · have hm0 : m ≠ 0 := by rintro rfl; simp at hN
    obtain ⟨q, hp, k, rfl⟩ := pr_divisor m (by omega)
    refine absurd ?_ (hq q hp ⟨d * k, by rw [Nat.mul_left_comm]⟩)
    rw [show d * (q * k) = q * (d * k) by rw [Nat.mul_left_comm], Nat.mul_div_cancel_left _ (by have := hp.1; omega)]
    exact pow_mod_one hn hd k

/-! ### Pigeons -/

theorem pigeon (N : Nat) : ∀ f : Nat → Nat, (∀ i, i < N → f i < N) → (∀ i j, i < j → j < N → f i ≠ f j) → ∀ b, b < N → ∃ i, i < N ∧ f i = b := by
  induction N with
  | zero => intro f _ _ b hb; omega
  | succ N ih =>
    intro f hf hi b hb
    by_cases hlast : ∃ i, i < N + 1 ∧ f i = N
    · obtain ⟨k, hk, hkN⟩ := hlast
      -- what is at k and at N is swapped
      have hg : ∀ i, i < N → (if i = k then f N else f i) < N := by
        intro i hlt
        split
        · have h1 := hf N (by omega)
          have h2 : f N ≠ N := by
            intro h
            rcases Nat.lt_or_ge k N with h3 | h3
            · exact hi k N h3 (by omega) (by omega)
            · omega
          omega
        · have h1 := hf i (by omega)
          have h2 : f i ≠ N := by
            intro h
            rcases Nat.lt_trichotomy i k with h3 | h3 | h3
            · exact hi i k h3 hk (by omega)
            · contradiction
            · exact hi k i h3 (by omega) (by omega)
          omega
      have hgi : ∀ i j, i < j → j < N → (if i = k then f N else f i) ≠ (if j = k then f N else f j) := by
        intro i j hij hj
        split <;> split
        · omega
        · exact fun h => hi j N (by omega) (by omega) h.symm
        · exact hi i N (by omega) (by omega)
        · exact hi i j hij (by omega)
      by_cases hbN : b = N
      · exact ⟨k, hk, by omega⟩
      · obtain ⟨i, hlt, he⟩ := ih (fun i => if i = k then f N else f i) hg hgi b (by omega)
        split at he
        · exact ⟨N, by omega, he⟩
        · exact ⟨i, by omega, he⟩
    · exfalso
      have h1 : ∀ i, i < N + 1 → f i < N := by
        intro i hlt
        have h1 := hf i hlt
        have h2 : f i ≠ N := fun h => hlast ⟨i, hlt, h⟩
        omega
      rcases Nat.eq_zero_or_pos N with h0 | h0
      · have := h1 0 (by omega); omega
      · obtain ⟨i, hlt, he⟩ := ih f (fun i hlt => h1 i (by omega)) (fun i j h h' => hi i j h (by omega)) (f N) (h1 N (by omega))
        exact hi i N hlt (by omega) he

/-- All that n leaves but 0 is left by a power of a. -/
theorem powers_all {a n : Nat} (hn : 1 < n) (h : a ^ (n - 1) % n = 1) (hl : ∀ e, 0 < e → e < n - 1 → a ^ e % n ≠ 1) (b : Nat) (hb : 0 < b) (hbn : b < n) : ∃ i, i < n - 1 ∧ a ^ i % n = b := by
  have hpos : ∀ i, a ^ i % n ≠ 0 := by
    intro i h0
    have h1 : a ^ ((n - 1) * i) % n = 1 := pow_mod_one hn h i
    rw [Nat.mul_comm, Nat.pow_mul, Nat.pow_mod, h0, Nat.zero_pow (by omega), Nat.zero_mod] at h1
    omega
  obtain ⟨i, hi, he⟩ := pigeon (n - 1) (fun i => a ^ i % n - 1)
    (fun i hi => by have := hpos i; have := Nat.mod_lt (a ^ i) (show n > 0 by omega); show a ^ i % n - 1 < n - 1; omega)
    (fun i j hij hj => by
      intro he
      have h1 := hpos i
      have h2 := hpos j
      exact hl (j - i) (by omega) (by omega) (pow_cancel hn (by omega) h (by omega) (by omega)))
    (b - 1) (by omega)
  have := hpos i
  exact ⟨i, hi, by omega⟩

theorem prime_of_powers {a n : Nat} (hn : 1 < n) (h : a ^ (n - 1) % n = 1) (hl : ∀ e, 0 < e → e < n - 1 → a ^ e % n ≠ 1) : Pr n := by
  refine ⟨hn, fun d hd => ?_⟩
  by_cases h1 : d = 1
  · exact .inl h1
  by_cases h2 : d = n
  · exact .inr h2
  exfalso
  have hle : d ≤ n := Nat.le_of_dvd (by omega) hd
  have h0 : d ≠ 0 := by rintro rfl; have := Nat.eq_zero_of_zero_dvd hd; omega
  obtain ⟨i, hi, he⟩ := powers_all hn h hl d (by omega) (by omega)
  have h3 : d ∣ a ^ i := by
    rw [← Nat.div_add_mod (a ^ i) n, he]
    exact Nat.dvd_add (Nat.dvd_trans hd (Nat.dvd_mul_right ..)) (Nat.dvd_refl _)
  have h4 : d ∣ a ^ (n - 1) := by
    rw [show n - 1 = i + (n - 1 - i) by omega, Nat.pow_add]
    exact Nat.dvd_trans h3 (Nat.dvd_mul_right ..)
  rw [← Nat.div_add_mod (a ^ (n - 1)) n, h] at h4
  have h5 : d ∣ 1 := (Nat.dvd_add_right (Nat.dvd_trans hd (Nat.dvd_mul_right ..))).mp h4
  have := Nat.le_of_dvd (by decide) h5
  omega

/-- (Fermat) -/
theorem fermat_of_powers {a n : Nat} (hn : 1 < n) (h : a ^ (n - 1) % n = 1) (hl : ∀ e, 0 < e → e < n - 1 → a ^ e % n ≠ 1) (b : Nat) (hb : 0 < b) (hbn : b < n) : b ^ (n - 1) % n = 1 := by
  obtain ⟨i, hi, he⟩ := powers_all hn h hl b hb hbn
  rw [← he, ← Nat.pow_mod, ← Nat.pow_mul, Nat.mul_comm]
  exact pow_mod_one hn h i

/-- A square root of 1, left by a prime. -/
theorem root_one {n y : Nat} (hp : Pr n) (hy : y < n) (h : y * y % n = 1) : y = 1 ∨ y = n - 1 := by
  have h2 := hp.1
  have hy0 : y ≠ 0 := by rintro rfl; simp at h
  have h3 : n ∣ (y - 1) * (y + 1) := by
    have e : (y - 1) * (y + 1) = y * y - 1 := by
      obtain ⟨z, rfl⟩ : ∃ z, y = z + 1 := ⟨y - 1, by omega⟩
      simp only [Nat.add_sub_cancel]
      rw [show (z + 1) * (z + 1) = z * (z + 1 + 1) + 1 by grind]
      omega
    rw [e]
    have := Nat.div_add_mod (y * y) n
    exact ⟨y * y / n, by omega⟩
  rcases pr_mul hp h3 with h4 | h4
  · have := Nat.eq_zero_of_dvd_of_lt h4 (by omega); omega
  · have := Nat.le_of_dvd (by omega) h4; omega

/-- (Miller) Of a prime, what comes behind squarings to 1 begins with 1 or meets -1. -/
theorem miller {n b d : Nat} (hp : Pr n) : ∀ s, b ^ (d * 2 ^ s) % n = 1 → b ^ d % n = 1 ∨ ∃ i, i < s ∧ b ^ (d * 2 ^ i) % n = n - 1 := by
  intro s
  induction s with
  | zero => intro h; simp at h; exact .inl h
  | succ s ih =>
    intro h
    have hlt : b ^ (d * 2 ^ s) % n < n := Nat.mod_lt _ (by have := hp.1; omega)
    have e : b ^ (d * 2 ^ s) % n * (b ^ (d * 2 ^ s) % n) % n = 1 := by
      rw [← Nat.mul_mod, ← Nat.pow_add, ← h]
      congr 2
      rw [Nat.pow_succ, ← Nat.mul_assoc]; omega
    rcases root_one hp hlt e with h1 | h1
    · rcases ih h1 with h2 | ⟨i, hi, h2⟩
      · exact .inl h2
      · exact .inr ⟨i, by omega, h2⟩
    · exact .inr ⟨s, by omega, h1⟩
end Go.Proofs.YtmifenflbaohnaaDoor
