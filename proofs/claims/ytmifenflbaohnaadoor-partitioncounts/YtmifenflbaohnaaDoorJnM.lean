import Derived.Test.YtmifenflbaohnaaDoorRows
section
/- Plain facts: partitions: how often a number stands in a list, how many are at least k, the first fault. -/
set_option linter.unusedSimpArgs false
set_option linter.unusedVariables false
set_option maxRecDepth 100000
namespace Go.Proofs.YtmifenflbaohnaaDoor
namespace PT

def cnt (l : List Int) (n : Int) : Nat := l.countP fun x => x == n
def tge (l : List Int) (k : Int) : Nat := l.countP fun x => decide (k ≤ x)
theorem take_s {l : List Int} {i : Nat} (h : i < l.length) : l.take (i + 1) = l.take i ++ [l.getD i 0] := by
  rw [List.take_succ_eq_append_getElem h, List.getD_eq_getElem?_getD, List.getElem?_eq_getElem h]; rfl
theorem cnt_take {l : List Int} {n : Int} {i : Nat} (h : i < l.length) : cnt (l.take (i + 1)) n = cnt (l.take i) n + (if l.getD i 0 = n then 1 else 0) := by
  unfold cnt
  rw [take_s h, List.countP_append, List.countP_singleton]
  congr 1
  by_cases e : l.getD i 0 = n <;> simp [e]
theorem cnt_le (l : List Int) (n : Int) (i : Nat) : cnt (l.take i) n ≤ i := by
  unfold cnt
  exact Nat.le_trans List.countP_le_length (by simp; omega)
theorem tge_take {l : List Int} {k : Int} {i : Nat} (h : i < l.length) : tge (l.take (i + 1)) k = tge (l.take i) k + (if k ≤ l.getD i 0 then 1 else 0) := by
  unfold tge
  rw [take_s h, List.countP_append, List.countP_singleton]
  congr 1
  by_cases e : k ≤ l.getD i 0 <;> simp [e]
theorem tge_le (l : List Int) (k : Int) (i : Nat) : tge (l.take i) k ≤ i := by
  unfold tge
  exact Nat.le_trans List.countP_le_length (by simp; omega)
theorem tge_mono (l : List Int) {k j : Int} (h : k ≤ j) : tge l j ≤ tge l k := by
  unfold tge
  exact List.countP_mono_left (fun x _ hx => by simp at hx ⊢; omega)
/-- The first fault from the i-th entry on: p is the entry ahead, s the sum so far. -/
def pfr : Nat → Int → Int → List Int → Int × Int
  | _, _, _, [] => (0, 0)
  | i, p, s, x :: r => if x < 1 ∨ 2000 < x then (3, i) else if 0 < i ∧ p < x then (6, i) else if 2000 < s + x then (9, i) else pfr (i + 1) x (s + x) r
def pf (l : List Int) : Int × Int := if 1000 < l.length then (2, 0) else pfr 0 0 0 l
/-- What stands ahead of the i-th entry. -/
def prv (l : List Int) (i : Nat) : Int := if i = 0 then 0 else l.getD (i - 1) 0
theorem drop_s {l : List Int} {i : Nat} (h : i < l.length) : l.drop i = l.getD i 0 :: l.drop (i + 1) := by
  rw [List.drop_eq_getElem_cons h, List.getD_eq_getElem?_getD, List.getElem?_eq_getElem h]; rfl
theorem prv_s (l : List Int) (i : Nat) : prv l (i + 1) = l.getD i 0 := by unfold prv; rw [if_neg (by omega)]; rfl
theorem sum_s {l : List Int} {i : Nat} (h : i < l.length) : (l.take (i + 1)).sum = (l.take i).sum + l.getD i 0 := by
  rw [take_s h]; simp
/-- No fault up to i. -/
def At (l : List Int) (i : Nat) : Prop := pfr 0 0 0 l = pfr i (prv l i) (l.take i).sum (l.drop i) ∧ 0 ≤ (l.take i).sum ∧ (l.take i).sum ≤ 2000
theorem At.zero (l : List Int) : At l 0 := ⟨rfl, by simp, by simp⟩
theorem At.step {l : List Int} {i : Nat} (h : At l i) (hi : i < l.length) (h1 : 1 ≤ l.getD i 0) (h2 : l.getD i 0 ≤ 2000) (h3 : ¬ (0 < i ∧ prv l i < l.getD i 0)) (h4 : (l.take i).sum + l.getD i 0 ≤ 2000) : At l (i + 1) := by
  obtain ⟨a, b, c⟩ := h
  refine ⟨?_, by rw [sum_s hi]; omega, by rw [sum_s hi]; exact h4⟩
  rw [a, drop_s hi, pfr, if_neg (by omega), if_neg h3, if_neg (by omega), prv_s, sum_s hi]
theorem At.fin {l : List Int} (h : At l l.length) : pfr 0 0 0 l = (0, 0) := by
  rw [h.1, List.drop_length]; rfl
theorem At.f3 {l : List Int} {i : Nat} (h : At l i) (hi : i < l.length) (hb : l.getD i 0 < 1 ∨ 2000 < l.getD i 0) : pfr 0 0 0 l = (3, (i : Int)) := by
  rw [h.1, drop_s hi, pfr, if_pos hb]
theorem At.f6 {l : List Int} {i : Nat} (h : At l i) (hi : i < l.length) (hb : ¬ (l.getD i 0 < 1 ∨ 2000 < l.getD i 0)) (h3 : 0 < i ∧ prv l i < l.getD i 0) : pfr 0 0 0 l = (6, (i : Int)) := by
  rw [h.1, drop_s hi, pfr, if_neg hb, if_pos h3]
theorem At.f9 {l : List Int} {i : Nat} (h : At l i) (hi : i < l.length) (hb : ¬ (l.getD i 0 < 1 ∨ 2000 < l.getD i 0)) (h3 : ¬ (0 < i ∧ prv l i < l.getD i 0)) (h4 : 2000 < (l.take i).sum + l.getD i 0) : pfr 0 0 0 l = (9, (i : Int)) := by
  rw [h.1, drop_s hi, pfr, if_neg hb, if_neg h3, if_pos h4]

end PT
end Go.Proofs.YtmifenflbaohnaaDoor
end

section
/- Plain facts: primes, orders, Lucas' and Pratt's theorem, Fermat's and Miller's. -/
set_option linter.unusedVariables false
set_option maxRecDepth 100000
namespace Go.Proofs.YtmifenflbaohnaaDoor

/-- A prime. -/
def Pr (n : Nat) : Prop := 2 ≤ n ∧ ∀ d, d ∣ n → d = 1 ∨ d = n

theorem pr_divisor (n : Nat) (h : 2 ≤ n) : ∃ p, Pr p ∧ p ∣ n := by
  induction n using Nat.strongRecOn with
  | ind n ih =>
    by_cases hp : ∃ d, d ∣ n ∧ d ≠ 1 ∧ d ≠ n
    · obtain ⟨d, hd, h1, hn⟩ := hp
      have hle : d ≤ n := Nat.le_of_dvd (by omega) hd
      have h0 : d ≠ 0 := by rintro rfl; have := Nat.eq_zero_of_zero_dvd hd; omega
      obtain ⟨p, hp, hpd⟩ := ih d (by omega) (by omega)
      exact ⟨p, hp, Nat.dvd_trans hpd hd⟩
    · refine ⟨n, ⟨h, fun d hd => ?_⟩, Nat.dvd_refl _⟩
      by_cases h1 : d = 1
      · exact .inl h1
      · by_cases h2 : d = n
        · exact .inr h2
        · exact absurd ⟨d, hd, h1, h2⟩ hp

theorem pr_mul {p a b : Nat} (hp : Pr p) (h : p ∣ a * b) : p ∣ a ∨ p ∣ b := by
  rcases hp.2 (Nat.gcd p a) (Nat.gcd_dvd_left ..) with hg | hg
  · exact .inr (Nat.Coprime.dvd_of_dvd_mul_left hg h)
  · refine .inl ?_
    have := Nat.gcd_dvd_right p a
    rwa [hg] at this

theorem pr_pow {p a : Nat} (hp : Pr p) (k : Nat) (h : p ∣ a ^ k) : p ∣ a := by
  induction k with
  | zero =>
    rw [Nat.pow_zero] at h
    have := Nat.le_of_dvd (by decide) h
    have := hp.1
    omega
  | succ k ih =>
    rw [Nat.pow_succ] at h
    rcases pr_mul hp h with h | h
    · exact ih h
    · exact h

/-! ### Orders -/

theorem pow_mod_one {a n N : Nat} (hn : 1 < n) (h : a ^ N % n = 1) (k : Nat) : a ^ (N * k) % n = 1 := by
  rw [Nat.pow_mul, Nat.pow_mod, h, Nat.one_pow, Nat.mod_eq_of_lt hn]

/-- a is invertible: what a^i and a^j leave in common may be divided away. -/
theorem pow_cancel {a n N i j : Nat} (hn : 1 < n) (hN : 0 < N) (h : a ^ N % n = 1) (hij : i ≤ j) (he : a ^ i % n = a ^ j % n) : a ^ (j - i) % n = 1 := by
  have h1 : a ^ (j - i) % n = a ^ (j - i) * a ^ (N * i) % n := by
    rw [Nat.mul_mod, pow_mod_one hn h, Nat.mul_one, Nat.mod_mod]
  have hle : i ≤ N * i := Nat.le_mul_of_pos_left i hN
  have h2 : a ^ (j - i) * a ^ (N * i) = a ^ j * a ^ (N * i - i) := by
    rw [← Nat.pow_add, ← Nat.pow_add]; congr 1; omega
  rw [h1, h2, Nat.mul_mod, ← he, ← Nat.mul_mod, ← Nat.pow_add, show i + (N * i - i) = N * i by omega]
  exact pow_mod_one hn h i

/-- The order of a: the least power that leaves 1; it divides every such power. -/
theorem order_dvd {a n d k : Nat} (hn : 1 < n) (hd : 0 < d) (h : a ^ d % n = 1) (hl : ∀ e, 0 < e → e < d → a ^ e % n ≠ 1) (hk : a ^ k % n = 1) : d ∣ k := by
  have h1 : a ^ k = a ^ (d * (k / d)) * a ^ (k % d) := by
    rw [← Nat.pow_add, Nat.div_add_mod]
  have h2 : a ^ (k % d) % n = 1 := by
    have h3 : a ^ k % n = a ^ (k % d) % n := by
      rw [h1, Nat.mul_mod, pow_mod_one hn h, Nat.one_mul, Nat.mod_mod]
    omega
  by_cases h0 : k % d = 0
  · exact Nat.dvd_of_mod_eq_zero h0
  · exact absurd h2 (hl _ (by omega) (Nat.mod_lt _ hd))

theorem order_least {a n N : Nat} (hN : 0 < N) (h : a ^ N % n = 1) : ∃ d, 0 < d ∧ d ≤ N ∧ a ^ d % n = 1 ∧ ∀ e, 0 < e → e < d → a ^ e % n ≠ 1 := by
  induction N using Nat.strongRecOn with
  | ind N ih =>
    by_cases hx : ∃ e, 0 < e ∧ e < N ∧ a ^ e % n = 1
    · obtain ⟨e, h0, hlt, he⟩ := hx
      obtain ⟨d, h1, h2, h3, h4⟩ := ih e hlt h0 he
      exact ⟨d, h1, by omega, h3, h4⟩
    · exact ⟨N, hN, Nat.le_refl _, h, fun e h0 hlt he => hx ⟨e, h0, hlt, he⟩⟩

/-- (Lucas) Where no power by a prime less leaves 1, no lesser power does. -/
theorem lucas {a n N : Nat} (hn : 1 < n) (hN : 0 < N) (h : a ^ N % n = 1) (hq : ∀ q, Pr q → q ∣ N → a ^ (N / q) % n ≠ 1) : ∀ e, 0 < e → e < N → a ^ e % n ≠ 1 := by
  obtain ⟨d, h0, hle, hd, hl⟩ := order_least hN h
  obtain ⟨m, rfl⟩ := order_dvd hn h0 hd hl h
  by_cases hm : m = 1
  · subst hm; simpa using hl
  · have hm0 : m ≠ 0 := by rintro rfl; simp at hN
    obtain ⟨q, hp, k, rfl⟩ := pr_divisor m (by omega)
    refine absurd ?_ (hq q hp ⟨d * k, by rw [Nat.mul_left_comm]⟩)
    rw [show d * (q * k) = q * (d * k) by rw [Nat.mul_left_comm], Nat.mul_div_cancel_left _ (by have := hp.1; omega)]
    exact pow_mod_one hn hd k

/-! ### Pigeons -/

theorem pigeon (N : Nat) : ∀ f : Nat → Nat, (∀ i, i < N → f i < N) → (∀ i j, i < j → j < N → f i ≠ f j) → ∀ b, b < N → ∃ i, i < N ∧ f i = b := by
  induction N with
  | zero => intro f _ _ b hb; omega
  | succ N ih =>
    intro f hf hi b hb
    by_cases hlast : ∃ i, i < N + 1 ∧ f i = N
    · obtain ⟨k, hk, hkN⟩ := hlast
      -- what is at k and at N is swapped
      have hg : ∀ i, i < N → (if i = k then f N else f i) < N := by
        intro i hlt
        split
        · have h1 := hf N (by omega)
          have h2 : f N ≠ N := by
            intro h
            rcases Nat.lt_or_ge k N with h3 | h3
            · exact hi k N h3 (by omega) (by omega)
            · omega
          omega
        · have h1 := hf i (by omega)
          have h2 : f i ≠ N := by
            intro h
            rcases Nat.lt_trichotomy i k with h3 | h3 | h3
            · exact hi i k h3 hk (by omega)
            · contradiction
            · exact hi k i h3 (by omega) (by omega)
          omega
      have hgi : ∀ i j, i < j → j < N → (if i = k then f N else f i) ≠ (if j = k then f N else f j) := by
        intro i j hij hj
        split <;> split
        · omega
        · exact fun h => hi j N (by omega) (by omega) h.symm
        · exact hi i N (by omega) (by omega)
        · exact hi i j hij (by omega)
      by_cases hbN : b = N
      · exact ⟨k, hk, by omega⟩
      · obtain ⟨i, hlt, he⟩ := ih (fun i => if i = k then f N else f i) hg hgi b (by omega)
        split at he
        · exact ⟨N, by omega, he⟩
        · exact ⟨i, by omega, he⟩
    · exfalso
      have h1 : ∀ i, i < N + 1 → f i < N := by
        intro i hlt
        have h1 := hf i hlt
        have h2 : f i ≠ N := fun h => hlast ⟨i, hlt, h⟩
        omega
      rcases Nat.eq_zero_or_pos N with h0 | h0
      · have := h1 0 (by omega); omega
      · obtain ⟨i, hlt, he⟩ := ih f (fun i hlt => h1 i (by omega)) (fun i j h h' => hi i j h (by omega)) (f N) (h1 N (by omega))
        exact hi i N hlt (by omega) he

/-- All that n leaves but 0 is left by a power of a. -/
theorem powers_all {a n : Nat} (hn : 1 < n) (h : a ^ (n - 1) % n = 1) (hl : ∀ e, 0 < e → e < n - 1 → a ^ e % n ≠ 1) (b : Nat) (hb : 0 < b) (hbn : b < n) : ∃ i, i < n - 1 ∧ a ^ i % n = b := by
  have hpos : ∀ i, a ^ i % n ≠ 0 := by
    intro i h0
    have h1 : a ^ ((n - 1) * i) % n = 1 := pow_mod_one hn h i
    rw [Nat.mul_comm, Nat.pow_mul, Nat.pow_mod, h0, Nat.zero_pow (by omega), Nat.zero_mod] at h1
    omega
  obtain ⟨i, hi, he⟩ := pigeon (n - 1) (fun i => a ^ i % n - 1)
    (fun i hi => by have := hpos i; have := Nat.mod_lt (a ^ i) (show n > 0 by omega); show a ^ i % n - 1 < n - 1; omega)
    (fun i j hij hj => by
      intro he
      have h1 := hpos i
      have h2 := hpos j
      exact hl (j - i) (by omega) (by omega) (pow_cancel hn (by omega) h (by omega) (by omega)))
    (b - 1) (by omega)
  have := hpos i
  exact ⟨i, hi, by omega⟩

theorem prime_of_powers {a n : Nat} (hn : 1 < n) (h : a ^ (n - 1) % n = 1) (hl : ∀ e, 0 < e → e < n - 1 → a ^ e % n ≠ 1) : Pr n := by
  refine ⟨hn, fun d hd => ?_⟩
  by_cases h1 : d = 1
  · exact .inl h1
  by_cases h2 : d = n
  · exact .inr h2
  exfalso
  have hle : d ≤ n := Nat.le_of_dvd (by omega) hd
  have h0 : d ≠ 0 := by rintro rfl; have := Nat.eq_zero_of_zero_dvd hd; omega
  obtain ⟨i, hi, he⟩ := powers_all hn h hl d (by omega) (by omega)
  have h3 : d ∣ a ^ i := by
    rw [← Nat.div_add_mod (a ^ i) n, he]
    exact Nat.dvd_add (Nat.dvd_trans hd (Nat.dvd_mul_right ..)) (Nat.dvd_refl _)
  have h4 : d ∣ a ^ (n - 1) := by
    rw [show n - 1 = i + (n - 1 - i) by omega, Nat.pow_add]
    exact Nat.dvd_trans h3 (Nat.dvd_mul_right ..)
  rw [← Nat.div_add_mod (a ^ (n - 1)) n, h] at h4
  have h5 : d ∣ 1 := (Nat.dvd_add_right (Nat.dvd_trans hd (Nat.dvd_mul_right ..))).mp h4
  have := Nat.le_of_dvd (by decide) h5
  omega

/-- (Fermat) -/
theorem fermat_of_powers {a n : Nat} (hn : 1 < n) (h : a ^ (n - 1) % n = 1) (hl : ∀ e, 0 < e → e < n - 1 → a ^ e % n ≠ 1) (b : Nat) (hb : 0 < b) (hbn : b < n) : b ^ (n - 1) % n = 1 := by
  obtain ⟨i, hi, he⟩ := powers_all hn h hl b hb hbn
  rw [← he, ← Nat.pow_mod, ← Nat.pow_mul, Nat.mul_comm]
  exact pow_mod_one hn h i

/-- A square root of 1, left by a prime. -/
theorem root_one {n y : Nat} (hp : Pr n) (hy : y < n) (h : y * y % n = 1) : y = 1 ∨ y = n - 1 := by
  have h2 := hp.1
  have hy0 : y ≠ 0 := by rintro rfl; simp at h
  have h3 : n ∣ (y - 1) * (y + 1) := by
    have e : (y - 1) * (y + 1) = y * y - 1 := by
      obtain ⟨z, rfl⟩ : ∃ z, y = z + 1 := ⟨y - 1, by omega⟩
      simp only [Nat.add_sub_cancel]
      rw [show (z + 1) * (z + 1) = z * (z + 1 + 1) + 1 by grind]
      omega
    rw [e]
    have := Nat.div_add_mod (y * y) n
    exact ⟨y * y / n, by omega⟩
  rcases pr_mul hp h3 with h4 | h4
  · have := Nat.eq_zero_of_dvd_of_lt h4 (by omega); omega
  · have := Nat.le_of_dvd (by omega) h4; omega

/-- (Miller) Of a prime, what comes behind squarings to 1 begins with 1 or meets -1. -/
theorem miller {n b d : Nat} (hp : Pr n) : ∀ s, b ^ (d * 2 ^ s) % n = 1 → b ^ d % n = 1 ∨ ∃ i, i < s ∧ b ^ (d * 2 ^ i) % n = n - 1 := by
  intro s
  induction s with
  | zero => intro h; simp at h; exact .inl h
  | succ s ih =>
    intro h
    have hlt : b ^ (d * 2 ^ s) % n < n := Nat.mod_lt _ (by have := hp.1; omega)
    have e : b ^ (d * 2 ^ s) % n * (b ^ (d * 2 ^ s) % n) % n = 1 := by
      rw [← Nat.mul_mod, ← Nat.pow_add, ← h]
      congr 2
      rw [Nat.pow_succ, ← Nat.mul_assoc]; omega
    rcases root_one hp hlt e with h1 | h1
    · rcases ih h1 with h2 | ⟨i, hi, h2⟩
      · exact .inl h2
      · exact .inr ⟨i, by omega, h2⟩
    · exact .inr ⟨s, by omega, h1⟩
end Go.Proofs.YtmifenflbaohnaaDoor
end

section
/- Plain facts: Fermat's theorem of every prime; powers and polynomials a little beside; Hensel's step. -/
set_option linter.unusedVariables false
set_option maxRecDepth 100000
namespace Go.Proofs.YtmifenflbaohnaaDoor

/-! ### Products over a rearrangement; Fermat's theorem -/

def pd (g : Nat → Nat) : Nat → Nat
  | 0 => 1
  | n + 1 => pd g n * g n

theorem pd_cong {g h : Nat → Nat} : ∀ N, (∀ i, i < N → g i = h i) → pd g N = pd h N := by
  intro N
  induction N with
  | zero => intro _; rfl
  | succ N ih => intro e; rw [pd, pd, ih (fun i hi => e i (by omega)), e N (by omega)]

theorem pd_upd (g : Nat → Nat) (k v : Nat) : ∀ N, k < N → pd g N * v = pd (fun i => if i = k then v else g i) N * g k := by
  intro N
  induction N with
  | zero => intro h; omega
  | succ N ih =>
    intro h
    rw [pd, pd]
    by_cases hk : k = N
    · subst hk
      rw [if_pos rfl, pd_cong (h := fun i => if i = k then v else g i) k (fun i hi => by rw [if_neg (by omega)])]
      rw [Nat.mul_assoc, Nat.mul_assoc, Nat.mul_comm (g k) v]
    · rw [if_neg (by omega), Nat.mul_right_comm, ih (by omega), Nat.mul_right_comm]

theorem pd_perm : ∀ (N : Nat) (f : Nat → Nat), (∀ i, i < N → f i < N) → (∀ i j, i < j → j < N → f i ≠ f j) → ∀ g : Nat → Nat, pd (fun i => g (f i)) N = pd g N := by
  intro N
  induction N with
  | zero => intro f _ _ g; rfl
  | succ N ih =>
    intro f hf hi g
    obtain ⟨k, hk, hkN⟩ := pigeon (N + 1) f hf hi N (by omega)
    by_cases hkn : k = N
    · subst hkn
      have h1 : ∀ i, i < k → f i < k := fun i h => by
        have := hf i (by omega)
        have := hi i k h (by omega)
        omega
      rw [pd, pd, ih f h1 (fun i j h h' => hi i j h (by omega)) g, hkN]
    · have h1 : ∀ i, i < N → (if i = k then f N else f i) < N := by
        intro i h
        split
        · have := hf N (by omega)
          have := hi k N (by omega) (by omega)
          omega
        · have := hf i (by omega)
          rcases Nat.lt_trichotomy i k with h3 | h3 | h3
          · have := hi i k h3 hk; omega
          · contradiction
          · have := hi k i h3 (by omega); omega
      have h2 : ∀ i j, i < j → j < N → (if i = k then f N else f i) ≠ (if j = k then f N else f j) := by
        intro i j hij hj
        split <;> split
        · omega
        · exact fun h => hi j N (by omega) (by omega) h.symm
        · exact hi i N (by omega) (by omega)
        · exact hi i j hij (by omega)
      have h3 := ih _ h1 h2 g
      rw [pd, pd, ← h3, pd_upd (fun i => g (f i)) k (g (f N)) N (by omega), hkN]
      congr 1
      refine pd_cong N (fun i h => ?_)
      split <;> rfl

theorem pd_mod (b p : Nat) : ∀ N, pd (fun i => b * (i + 1) % p) N % p = b ^ N * pd (fun i => i + 1) N % p := by
  intro N
  induction N with
  | zero => simp [pd]
  | succ N ih =>
    rw [pd, pd, Nat.mul_mod, ih, Nat.mod_mod, ← Nat.mul_mod, Nat.pow_succ]
    congr 1
    simp only [Nat.mul_assoc, Nat.mul_left_comm]

theorem pd_free {p : Nat} (hp : Pr p) : ∀ N, N < p → ¬ p ∣ pd (fun i => i + 1) N := by
  intro N
  induction N with
  | zero => intro _ h; have := Nat.le_of_dvd (by decide) h; have := hp.1; simp [pd] at *; omega
  | succ N ih =>
    intro hN h
    rw [pd] at h
    rcases pr_mul hp h with h | h
    · exact ih (by omega) h
    · have := Nat.le_of_dvd (by omega) h; omega

/-- (Fermat) -/
theorem fermat {p b : Nat} (hp : Pr p) (hb : b % p ≠ 0) : b ^ (p - 1) % p = 1 := by
  have h2 := hp.1
  have hnd : ¬ p ∣ b := fun h => hb (Nat.mod_eq_zero_of_dvd h)
  have hne : ∀ i, i < p - 1 → b * (i + 1) % p ≠ 0 := by
    intro i hi h0
    rcases pr_mul hp (Nat.dvd_of_mod_eq_zero h0) with h | h
    · exact hnd h
    · have := Nat.le_of_dvd (by omega) h; omega
  have hlt : ∀ i, b * (i + 1) % p < p := fun i => Nat.mod_lt _ (by omega)
  have hperm := pd_perm (p - 1) (fun i => b * (i + 1) % p - 1) (fun i hi => by have := hne i hi; have := hlt i; show b * (i + 1) % p - 1 < p - 1; omega)
    (fun i j hij hj he => by
      have h1 := hne i (by omega)
      have h3 := hne j hj
      have he : b * (i + 1) % p - 1 = b * (j + 1) % p - 1 := he
      have h4 : b * (i + 1) % p = b * (j + 1) % p := by omega
      have h5 : p ∣ b * (j + 1) - b * (i + 1) := Nat.dvd_of_mod_eq_zero (Nat.sub_mod_eq_zero_of_mod_eq h4.symm)
      rw [← Nat.mul_sub] at h5
      rcases pr_mul hp h5 with h | h
      · exact hnd h
      · have := Nat.le_of_dvd (by omega) h; omega) (fun i => i + 1)
  rw [pd_cong (h := fun i => b * (i + 1) % p) (p - 1) (fun i hi => by have := hne i hi; show b * (i + 1) % p - 1 + 1 = _; omega)] at hperm
  have hm := pd_mod b p (p - 1)
  rw [hperm] at hm
  obtain ⟨G, hG⟩ : ∃ G, G = pd (fun i => i + 1) (p - 1) := ⟨_, rfl⟩
  have hfree := pd_free hp (p - 1) (by omega)
  rw [← hG] at hm hfree
  have hpos : 0 < b ^ (p - 1) := Nat.pow_pos (by rcases Nat.eq_zero_or_pos b with h | h; · subst h; simp at hb
                                                 · exact h)
  have h5 : p ∣ b ^ (p - 1) * G - 1 * G := Nat.dvd_of_mod_eq_zero (Nat.sub_mod_eq_zero_of_mod_eq (by rw [Nat.one_mul]; exact hm.symm))
  rw [← Nat.sub_mul] at h5
  rcases pr_mul hp h5 with h | h
  · obtain ⟨c, hc⟩ := h
    have : b ^ (p - 1) = p * c + 1 := by omega
    rw [this, Nat.mul_add_mod, Nat.mod_eq_of_lt (by omega)]
  · exact absurd h hfree

theorem fermat_all {p : Nat} (hp : Pr p) (b : Nat) : b ^ p % p = b % p := by
  have h2 := hp.1
  obtain ⟨q, rfl⟩ : ∃ q, p = q + 1 := ⟨p - 1, by omega⟩
  by_cases hb : b % (q + 1) = 0
  · rw [Nat.pow_succ, Nat.mul_mod, hb]; simp
  · have := fermat hp hb
    rw [Nat.add_sub_cancel] at this
    rw [Nat.pow_succ, Nat.mul_mod, this, Nat.one_mul, Nat.mod_mod]

/-- (Miller) An odd prime passes. -/
theorem prime_passes {n b t d : Nat} (hp : Pr n) (hb : b % n ≠ 0) (hd : n - 1 = 2 ^ t * d) : b ^ d % n = 1 ∨ ∃ i, i < t ∧ b ^ (d * 2 ^ i) % n = n - 1 :=
  miller hp t (by rw [Nat.mul_comm, ← hd]; exact fermat hp hb)

/-! ### Powers and polynomials a little beside -/

theorem pow_beside (v h : Int) : ∀ m : Nat, ∃ c : Int, (v + h) ^ (m + 1) = v ^ (m + 1) + ((m : Int) + 1) * v ^ m * h + h * h * c := by
  intro m
  induction m with
  | zero => exact ⟨0, by simp [Int.pow_succ]⟩
  | succ m ih =>
    obtain ⟨c, hc⟩ := ih
    refine ⟨v * c + ((m : Int) + 1) * v ^ m + h * c, ?_⟩
    rw [Int.pow_succ, hc, Int.pow_succ v (m + 1), Int.pow_succ v m]
    push_cast
    grind

theorem pow_lift {u v : Int} {p j : Nat} (hp : 1 ≤ p) (hj : 1 ≤ j) (h : ((p : Int) ^ j) ∣ u - v) : ((p : Int) ^ (j + 1)) ∣ u ^ p - v ^ p := by
  obtain ⟨t, ht⟩ := h
  obtain ⟨m, rfl⟩ : ∃ m, p = m + 1 := ⟨p - 1, by omega⟩
  obtain ⟨i, rfl⟩ : ∃ i, j = i + 1 := ⟨j - 1, by omega⟩
  obtain ⟨P, hP⟩ : ∃ P : Int, P = ((m + 1 : Nat) : Int) := ⟨_, rfl⟩
  rw [← hP] at ht ⊢
  obtain ⟨c, hc⟩ := pow_beside v (P ^ (i + 1) * t) m
  have hu : u = v + P ^ (i + 1) * t := by omega
  have hP' : (m : Int) + 1 = P := by rw [hP]; simp
  rw [hu, hc, hP']
  refine ⟨v ^ m * t + P ^ i * t * t * c, ?_⟩
  rw [Int.pow_succ P (i + 1), Int.pow_succ P i]
  grind

/-- (Euler) A power's power leaves the same. -/
theorem teich_fix {p : Nat} (hp : Pr p) (a : Int) (ha : (p : Int) ∣ a ^ p - a) : ∀ k : Nat, 1 ≤ k → ((p : Int) ^ k) ∣ a ^ (p ^ k) - a ^ (p ^ (k - 1)) := by
  intro k hk
  induction k with
  | zero => omega
  | succ k ih =>
    by_cases h0 : k = 0
    · subst h0; simpa [Int.pow_succ] using ha
    · have h := pow_lift (by have := hp.1; omega) (by omega) (ih (by omega))
      rw [← Int.pow_mul, ← Int.pow_mul, ← Nat.pow_succ, ← Nat.pow_succ, show (k - 1).succ = k by omega] at h
      exact h

def pv : List Int → Int → Int
  | [], _ => 0
  | a :: l, x => a + x * pv l x
def dv : List Int → Int → Int
  | [], _ => 0
  | _ :: l, x => pv l x + x * dv l x

theorem pv_beside (l : List Int) (x h : Int) : ∃ c, pv l (x + h) = pv l x + dv l x * h + h * h * c := by
  induction l with
  | nil => exact ⟨0, by simp [pv, dv]⟩
  | cons a l ih =>
    obtain ⟨c, hc⟩ := ih
    refine ⟨x * c + dv l x + h * c, ?_⟩
    simp only [pv, dv, hc]
    grind

theorem pv_same (l : List Int) {x y m : Int} (h : m ∣ x - y) : m ∣ pv l x - pv l y := by
  induction l with
  | nil => simp [pv]
  | cons a l ih =>
    obtain ⟨s, hs⟩ := h
    obtain ⟨t, ht⟩ := ih
    refine ⟨s * pv l x + y * t, ?_⟩
    simp only [pv]
    grind

theorem dv_same (l : List Int) {x y m : Int} (h : m ∣ x - y) : m ∣ dv l x - dv l y := by
  induction l with
  | nil => simp [dv]
  | cons a l ih =>
    obtain ⟨r, hr⟩ := pv_same l h
    obtain ⟨s, hs⟩ := h
    obtain ⟨t, ht⟩ := ih
    refine ⟨r + s * dv l x + y * t, ?_⟩
    simp only [dv]
    grind

/-- The numbers of the derivative, from place k on. -/
def dl : Nat → List Int → List Int
  | _, [] => []
  | k, a :: l => (k : Int) * a :: dl (k + 1) l

theorem pv_dl (l : List Int) (x : Int) : ∀ k : Nat, pv (dl k l) x = (k : Int) * pv l x + x * dv l x := by
  induction l with
  | nil => intro k; simp [dl, pv, dv]
  | cons a l ih =>
    intro k
    simp only [dl, pv, dv, ih]
    push_cast
    grind

theorem dv_dl (a : Int) (l : List Int) (x : Int) : dv (a :: l) x = pv (dl 1 l) x := by
  rw [pv_dl]; simp [dv]

theorem pv_congr (m : Int) (x : Int) : ∀ l l' : List Int, l.length = l'.length → (∀ i, i < l.length → m ∣ l.getD i 0 - l'.getD i 0) → m ∣ pv l x - pv l' x := by
  intro l
  induction l with
  | nil => intro l' h _; cases l' with
    | nil => simp [pv]
    | cons _ _ => simp at h
  | cons a l ih =>
    intro l' h he
    cases l' with
    | nil => simp at h
    | cons b l' =>
      obtain ⟨s, hs⟩ := ih l' (by simpa using h) (fun i hi => by have := he (i + 1) (by simp; omega); simpa using this)
      have h0 := he 0 (by simp)
      simp at h0
      obtain ⟨t, ht⟩ := h0
      refine ⟨t + x * s, ?_⟩
      simp only [pv]
      grind

theorem pv_drop (l : List Int) (x : Int) (k : Nat) (hk : k < l.length) : pv (l.drop k) x = l.getD k 0 + x * pv (l.drop (k + 1)) x := by
  rw [List.drop_eq_getElem_cons hk, pv, List.getD_eq_getElem?_getD, List.getElem?_eq_getElem hk]; rfl

theorem pv_take (x : Int) : ∀ (l : List Int) (i : Nat), i < l.length → pv (l.take (i + 1)) x = pv (l.take i) x + l.getD i 0 * x ^ i := by
  intro l
  induction l with
  | nil => intro i h; simp at h
  | cons a l ih =>
    intro i h
    cases i with
    | zero => simp [pv]
    | succ i =>
      have := ih i (by simpa using h)
      simp only [List.take_succ_cons, pv, List.getD_cons_succ] at this ⊢
      rw [this, Int.pow_succ]
      grind

theorem dv_take (x : Int) : ∀ (l : List Int) (i : Nat), 1 ≤ i → i < l.length → dv (l.take (i + 1)) x = dv (l.take i) x + l.getD i 0 * i * x ^ (i - 1) := by
  intro l
  induction l with
  | nil => intro i _ h; simp at h
  | cons a l ih =>
    intro i h1 h
    obtain ⟨i, rfl⟩ : ∃ j, i = j + 1 := ⟨i - 1, by omega⟩
    have h' : i < l.length := by simpa using h
    have hp := pv_take x l i h'
    simp only [List.take_succ_cons, dv, List.getD_cons_succ, Nat.add_sub_cancel]
    by_cases h0 : i = 0
    · subst h0
      rw [hp]
      cases l with
      | nil => simp at h'
      | cons b l => simp [dv, pv]
    · have hd := ih i (by omega) h'
      obtain ⟨r, rfl⟩ : ∃ r, i = r + 1 := ⟨i - 1, by omega⟩
      rw [hp, hd, Nat.add_sub_cancel, Int.pow_succ]
      push_cast
      grind

/-- (Hensel) One step. -/
theorem hensel_step {l : List Int} {j : Nat} {P x x0 v y : Int} (hj : 1 ≤ j) (hx : P ∣ x - x0) (hr : (P ^ j) ∣ pv l x) (hv : P ∣ dv l x0 * v - 1)
    (hy : (P ^ (j + 1)) ∣ y - (x - pv l x * v)) : P ∣ y - x0 ∧ (P ^ (j + 1)) ∣ pv l y := by
  obtain ⟨i, rfl⟩ : ∃ i, j = i + 1 := ⟨j - 1, by omega⟩
  have hd := dv_same l hx
  obtain ⟨t, ht⟩ := hr
  obtain ⟨c, hc⟩ := pv_beside l x (-(pv l x * v))
  obtain ⟨z, hz⟩ := hx
  obtain ⟨s, hs⟩ := hv
  obtain ⟨r, hrr⟩ := hd
  have hsame := pv_same l hy
  obtain ⟨q, hq⟩ := hy
  obtain ⟨g, hg⟩ := hsame
  rw [Int.pow_succ P (i + 1), Int.pow_succ P i] at hq hg ⊢
  rw [Int.pow_succ P i] at ht
  constructor
  · exact ⟨z + P ^ i * P * q - P ^ i * t * v, by grind⟩
  · have e : x - pv l x * v = x + -(pv l x * v) := by omega
    rw [e] at hg
    obtain ⟨A, hA⟩ : ∃ A, A = pv l x := ⟨_, rfl⟩
    obtain ⟨D, hD⟩ : ∃ D, D = dv l x := ⟨_, rfl⟩
    rw [← hA, ← hD] at hc
    rw [← hD] at hrr
    rw [← hA] at ht hg
    rw [hc] at hg
    obtain ⟨E, hE⟩ : ∃ E, E = dv l x0 := ⟨_, rfl⟩
    rw [← hE] at hrr hs
    obtain ⟨Y, hY⟩ : ∃ Y, Y = pv l y := ⟨_, rfl⟩
    rw [← hY] at hg ⊢
    clear hc hA hD hE hY e hq
    obtain ⟨Q, hQ⟩ : ∃ Q, Q = P ^ i := ⟨_, rfl⟩
    rw [← hQ] at ht hg ⊢
    have hdv : D * v = 1 + P * (s + r * v) := by grind
    refine ⟨g - t * (s + r * v) + Q * t * t * v * v * c, ?_⟩
    have e1 : Y = Q * P * P * g + (A + D * -(A * v) + -(A * v) * -(A * v) * c) := by omega
    rw [e1, ht]
    have e2 : Q * P * t + D * -(Q * P * t * v) = Q * P * t * (1 - D * v) := by grind
    rw [e2, hdv]
    grind

end Go.Proofs.YtmifenflbaohnaaDoor
end
