
section
set_option linter.unusedVariables false
set_option maxRecDepth 100000
namespace Go.Proofs.YtnkjadpmigpneaaGreatDoor
def Pr (n : Nat) : Prop := 2 ≤ n ∧ ∀ d, d ∣ n → d = 1 ∨ d = n
theorem pr_divisor (n : Nat) (h : 2 ≤ n) : ∃ p, Pr p ∧ p ∣ n := by
  induction n using Nat.strongRecOn with
  | ind n ih =>
    by_cases hp : ∃ d, d ∣ n ∧ d ≠ 1 ∧ d ≠ n
    · obtain ⟨d, hd, h1, hn⟩ := hp
      have hle : d ≤ n := Nat.le_of_dvd (by omega) hd
      have h0 : d ≠ 0 := by rintro rfl; have := Nat.eq_zero_of_zero_dvd hd; omega
      obtain ⟨p, hp, hpd⟩ := ih d (by omega) (by omega)
      exact ⟨p, hp, Nat.dvd_trans hpd hd⟩
    · refine ⟨n, ⟨h, fun d hd => ?_⟩, Nat.dvd_refl _⟩
      by_cases h1 : d = 1
      · exact .inl h1
      · by_cases h2 : d = n
        · exact .inr h2
        · exact absurd ⟨d, hd, h1, h2⟩ hp
theorem pr_mul {p a b : Nat} (hp : Pr p) (h : p ∣ a * b) : p ∣ a ∨ p ∣ b := by
  rcases hp.2 (Nat.gcd p a) (Nat.gcd_dvd_left ..) with hg | hg
  · exact .inr (Nat.Coprime.dvd_of_dvd_mul_left hg h)
  · refine .inl ?_
    have := Nat.gcd_dvd_right p a
    rwa [hg] at this
theorem pow_mod_one {a n N : Nat} (hn : 1 < n) (h : a ^ N % n = 1) (k : Nat) : a ^ (N * k) % n = 1 := by
  rw [Nat.pow_mul, Nat.pow_mod, h, Nat.one_pow, Nat.mod_eq_of_lt hn]
theorem order_dvd {a n d k : Nat} (hn : 1 < n) (hd : 0 < d) (h : a ^ d % n = 1) (hl : ∀ e, 0 < e → e < d → a ^ e % n ≠ 1) (hk : a ^ k % n = 1) : d ∣ k := by
  have h1 : a ^ k = a ^ (d * (k / d)) * a ^ (k % d) := by
    rw [← Nat.pow_add, Nat.div_add_mod]
  have h2 : a ^ (k % d) % n = 1 := by
    have h3 : a ^ k % n = a ^ (k % d) % n := by
      rw [h1, Nat.mul_mod, pow_mod_one hn h, Nat.one_mul, Nat.mod_mod]
    omega
  by_cases h0 : k % d = 0
  · exact Nat.dvd_of_mod_eq_zero h0
  · exact absurd h2 (hl _ (by omega) (Nat.mod_lt _ hd))
theorem pigeon (N : Nat) : ∀ f : Nat → Nat, (∀ i, i < N → f i < N) → (∀ i j, i < j → j < N → f i ≠ f j) → ∀ b, b < N → ∃ i, i < N ∧ f i = b := by
  induction N with
  | zero => intro f _ _ b hb; omega
  | succ N ih =>
    intro f hf hi b hb
    by_cases hlast : ∃ i, i < N + 1 ∧ f i = N
    · obtain ⟨k, hk, hkN⟩ := hlast
      -- what is at k and at N is swapped
      have hg : ∀ i, i < N → (if i = k then f N else f i) < N := by
        intro i hlt
        split
        · have h1 := hf N (by omega)
          have h2 : f N ≠ N := by
            intro h
            rcases Nat.lt_or_ge k N with h3 | h3
            · exact hi k N h3 (by omega) (by omega)
            · omega
          omega
        · have h1 := hf i (by omega)
          have h2 : f i ≠ N := by
            intro h
            rcases Nat.lt_trichotomy i k with h3 | h3 | h3
            · exact hi i k h3 hk (by omega)
            · contradiction
            · exact hi k i h3 (by omega) (by omega)
          omega
      have hgi : ∀ i j, i < j → j < N → (if i = k then f N else f i) ≠ (if j = k then f N else f j) := by
        intro i j hij hj
        split <;> split
        · omega
        · exact fun h => hi j N (by omega) (by omega) h.symm
        · exact hi i N (by omega) (by omega)
        · exact hi i j hij (by omega)
      by_cases hbN : b = N
      · exact ⟨k, hk, by omega⟩
      · obtain ⟨i, hlt, he⟩ := ih (fun i => if i = k then f N else f i) hg hgi b (by omega)
        split at he
        · exact ⟨N, by omega, he⟩
        · exact ⟨i, by omega, he⟩
    · exfalso
      have h1 : ∀ i, i < N + 1 → f i < N := by
        intro i hlt
        have h1 := hf i hlt
        have h2 : f i ≠ N := fun h => hlast ⟨i, hlt, h⟩
        omega
      rcases Nat.eq_zero_or_pos N with h0 | h0
      · have := h1 0 (by omega); omega
      · obtain ⟨i, hlt, he⟩ := ih f (fun i hlt => h1 i (by omega)) (fun i j h h' => hi i j h (by omega)) (f N) (h1 N (by omega))
        exact hi i N hlt (by omega) he
theorem root_one {n y : Nat} (hp : Pr n) (hy : y < n) (h : y * y % n = 1) : y = 1 ∨ y = n - 1 := by
  have h2 := hp.1
  have hy0 : y ≠ 0 := by rintro rfl; simp at h
  have h3 : n ∣ (y - 1) * (y + 1) := by
    have e : (y - 1) * (y + 1) = y * y - 1 := by
      obtain ⟨z, rfl⟩ : ∃ z, y = z + 1 := ⟨y - 1, by omega⟩
      simp only [Nat.add_sub_cancel]
      rw [show (z + 1) * (z + 1) = z * (z + 1 + 1) + 1 by grind]
      omega
    rw [e]
    have := Nat.div_add_mod (y * y) n
    exact ⟨y * y / n, by omega⟩
  rcases pr_mul hp h3 with h4 | h4
  · have := Nat.eq_zero_of_dvd_of_lt h4 (by omega); omega
  · have := Nat.le_of_dvd (by omega) h4; omega
theorem miller {n b d : Nat} (hp : Pr n) : ∀ s, b ^ (d * 2 ^ s) % n = 1 → b ^ d % n = 1 ∨ ∃ i, i < s ∧ b ^ (d * 2 ^ i) % n = n - 1 := by
  intro s
  induction s with
  | zero => intro h; simp at h; exact .inl h
  | succ s ih =>
    intro h
    have hlt : b ^ (d * 2 ^ s) % n < n := Nat.mod_lt _ (by have := hp.1; omega)
    have e : b ^ (d * 2 ^ s) % n * (b ^ (d * 2 ^ s) % n) % n = 1 := by
      rw [← Nat.mul_mod, ← Nat.pow_add, ← h]
      congr 2
      rw [Nat.pow_succ, ← Nat.mul_assoc]; omega
    rcases root_one hp hlt e with h1 | h1
    · rcases ih h1 with h2 | ⟨i, hi, h2⟩
      · exact .inl h2
      · exact .inr ⟨i, by omega, h2⟩
    · exact .inr ⟨s, by omega, h1⟩
end Go.Proofs.YtnkjadpmigpneaaGreatDoor
end

section
set_option linter.unusedVariables false
set_option maxRecDepth 100000
namespace Go.Proofs.YtnkjadpmigpneaaGreatDoor
def pd (g : Nat → Nat) : Nat → Nat
  | 0 => 1
  | n + 1 => pd g n * g n
theorem pd_cong {g h : Nat → Nat} : ∀ N, (∀ i, i < N → g i = h i) → pd g N = pd h N := by
  intro N
  induction N with
  | zero => intro _; rfl
  | succ N ih => intro e; rw [pd, pd, ih (fun i hi => e i (by omega)), e N (by omega)]
theorem pd_upd (g : Nat → Nat) (k v : Nat) : ∀ N, k < N → pd g N * v = pd (fun i => if i = k then v else g i) N * g k := by
  intro N
  induction N with
  | zero => intro h; omega
  | succ N ih =>
    intro h
    rw [pd, pd]
    by_cases hk : k = N
    · subst hk
      rw [if_pos rfl, pd_cong (h := fun i => if i = k then v else g i) k (fun i hi => by rw [if_neg (by omega)])]
      rw [Nat.mul_assoc, Nat.mul_assoc, Nat.mul_comm (g k) v]
    · rw [if_neg (by omega), Nat.mul_right_comm, ih (by omega), Nat.mul_right_comm]
theorem pd_perm : ∀ (N : Nat) (f : Nat → Nat), (∀ i, i < N → f i < N) → (∀ i j, i < j → j < N → f i ≠ f j) → ∀ g : Nat → Nat, pd (fun i => g (f i)) N = pd g N := by
  intro N
  induction N with
  | zero => intro f _ _ g; rfl
  | succ N ih =>
    intro f hf hi g
    obtain ⟨k, hk, hkN⟩ := pigeon (N + 1) f hf hi N (by omega)
    by_cases hkn : k = N
    · subst hkn
      have h1 : ∀ i, i < k → f i < k := fun i h => by
        have := hf i (by omega)
        have := hi i k h (by omega)
        omega
      rw [pd, pd, ih f h1 (fun i j h h' => hi i j h (by omega)) g, hkN]
    · have h1 : ∀ i, i < N → (if i = k then f N else f i) < N := by
        intro i h
        split
        · have := hf N (by omega)
          have := hi k N (by omega) (by omega)
          omega
        · have := hf i (by omega)
          rcases Nat.lt_trichotomy i k with h3 | h3 | h3
          · have := hi i k h3 hk; omega
          · contradiction
          · have := hi k i h3 (by omega); omega
      have h2 : ∀ i j, i < j → j < N → (if i = k then f N else f i) ≠ (if j = k then f N else f j) := by
        intro i j hij hj
        split <;> split
        · omega
        · exact fun h => hi j N (by omega) (by omega) h.symm
        · exact hi i N (by omega) (by omega)
        · exact hi i j hij (by omega)
      have h3 := ih _ h1 h2 g
      rw [pd, pd, ← h3, pd_upd (fun i => g (f i)) k (g (f N)) N (by omega), hkN]
      congr 1
      refine pd_cong N (fun i h => ?_)
      split <;> rfl
theorem pd_mod (b p : Nat) : ∀ N, pd (fun i => b * (i + 1) % p) N % p = b ^ N * pd (fun i => i + 1) N % p := by
  intro N
  induction N with
  | zero => simp [pd]
  | succ N ih =>
    rw [pd, pd, Nat.mul_mod, ih, Nat.mod_mod, ← Nat.mul_mod, Nat.pow_succ]
    congr 1
    simp only [Nat.mul_assoc, Nat.mul_left_comm]
theorem pd_free {p : Nat} (hp : Pr p) : ∀ N, N < p → ¬ p ∣ pd (fun i => i + 1) N := by
  intro N
  induction N with
  | zero => intro _ h; have := Nat.le_of_dvd (by decide) h; have := hp.1; simp [pd] at *; omega
  | succ N ih =>
    intro hN h
    rw [pd] at h
    rcases pr_mul hp h with h | h
    · exact ih (by omega) h
    · have := Nat.le_of_dvd (by omega) h; omega
theorem fermat {p b : Nat} (hp : Pr p) (hb : b % p ≠ 0) : b ^ (p - 1) % p = 1 := by
  have h2 := hp.1
  have hnd : ¬ p ∣ b := fun h => hb (Nat.mod_eq_zero_of_dvd h)
  have hne : ∀ i, i < p - 1 → b * (i + 1) % p ≠ 0 := by
    intro i hi h0
    rcases pr_mul hp (Nat.dvd_of_mod_eq_zero h0) with h | h
    · exact hnd h
    · have := Nat.le_of_dvd (by omega) h; omega
  have hlt : ∀ i, b * (i + 1) % p < p := fun i => Nat.mod_lt _ (by omega)
  have hperm := pd_perm (p - 1) (fun i => b * (i + 1) % p - 1) (fun i hi => by have := hne i hi; have := hlt i; show b * (i + 1) % p - 1 < p - 1; omega)
    (fun i j hij hj he => by
      have h1 := hne i (by omega)
      have h3 := hne j hj
      have he : b * (i + 1) % p - 1 = b * (j + 1) % p - 1 := he
      have h4 : b * (i + 1) % p = b * (j + 1) % p := by omega
      have h5 : p ∣ b * (j + 1) - b * (i + 1) := Nat.dvd_of_mod_eq_zero (Nat.sub_mod_eq_zero_of_mod_eq h4.symm)
      rw [← Nat.mul_sub] at h5
      rcases pr_mul hp h5 with h | h
      · exact hnd h
      · have := Nat.le_of_dvd (by omega) h; omega) (fun i => i + 1)
  rw [pd_cong (h := fun i => b * (i + 1) % p) (p - 1) (fun i hi => by have := hne i hi; show b * (i + 1) % p - 1 + 1 = _; omega)] at hperm
  have hm := pd_mod b p (p - 1)
  rw [hperm] at hm
  obtain ⟨G, hG⟩ : ∃ G, G = pd (fun i => i + 1) (p - 1) := ⟨_, rfl⟩
  have hfree := pd_free hp (p - 1) (by omega)
  rw [← hG] at hm hfree
  have hpos : 0 < b ^ (p - 1) := Nat.pow_pos (by rcases Nat.eq_zero_or_pos b with h | h; · subst h; simp at hb
                                                 · exact h)
  have h5 : p ∣ b ^ (p - 1) * G - 1 * G := Nat.dvd_of_mod_eq_zero (Nat.sub_mod_eq_zero_of_mod_eq (by rw [Nat.one_mul]; exact hm.symm))
  rw [← Nat.sub_mul] at h5
  rcases pr_mul hp h5 with h | h
  · obtain ⟨c, hc⟩ := h
    have : b ^ (p - 1) = p * c + 1 := by omega
    rw [this, Nat.mul_add_mod, Nat.mod_eq_of_lt (by omega)]
  · exact absurd h hfree
theorem prime_passes {n b t d : Nat} (hp : Pr n) (hb : b % n ≠ 0) (hd : n - 1 = 2 ^ t * d) : b ^ d % n = 1 ∨ ∃ i, i < t ∧ b ^ (d * 2 ^ i) % n = n - 1 :=
  miller hp t (by rw [Nat.mul_comm, ← hd]; exact fermat hp hb)
def pv : List Int → Int → Int
  | [], _ => 0
  | a :: l, x => a + x * pv l x
def dv : List Int → Int → Int
  | [], _ => 0
  | _ :: l, x => pv l x + x * dv l x
def dl : Nat → List Int → List Int
  | _, [] => []
  | k, a :: l => (k : Int) * a :: dl (k + 1) l
end Go.Proofs.YtnkjadpmigpneaaGreatDoor
end
