import Derived.Lib.ItoaNum
section
/- Plain facts: primes, orders, Lucas' and Pratt's theorem, Fermat's and Miller's. -/
set_option linter.unusedVariables false
set_option maxRecDepth 100000
namespace Go.Proofs.YtcnfhndejkngkaaGreatDoor

/-- A prime. -/
def Pr (n : Nat) : Prop := 2 ≤ n ∧ ∀ d, d ∣ n → d = 1 ∨ d = n

theorem pr_divisor (n : Nat) (h : 2 ≤ n) : ∃ p, Pr p ∧ p ∣ n := by
  induction n using Nat.strongRecOn with
  | ind n ih =>
    by_cases hp : ∃ d, d ∣ n ∧ d ≠ 1 ∧ d ≠ n
    · obtain ⟨d, hd, h1, hn⟩ := hp
      have hle : d ≤ n := Nat.le_of_dvd (by omega) hd
      have h0 : d ≠ 0 := by rintro rfl; have := Nat.eq_zero_of_zero_dvd hd; omega
      obtain ⟨p, hp, hpd⟩ := ih d (by omega) (by omega)
      exact ⟨p, hp, Nat.dvd_trans hpd hd⟩
    · refine ⟨n, ⟨h, fun d hd => ?_⟩, Nat.dvd_refl _⟩
      by_cases h1 : d = 1
      · exact .inl h1
      · by_cases h2 : d = n
        · exact .inr h2
        · exact absurd ⟨d, hd, h1, h2⟩ hp

theorem pr_mul {p a b : Nat} (hp : Pr p) (h : p ∣ a * b) : p ∣ a ∨ p ∣ b := by
  rcases hp.2 (Nat.gcd p a) (Nat.gcd_dvd_left ..) with hg | hg
  · exact .inr (Nat.Coprime.dvd_of_dvd_mul_left hg h)
  · refine .inl ?_
    have := Nat.gcd_dvd_right p a
    rwa [hg] at this

theorem pr_pow {p a : Nat} (hp : Pr p) (k : Nat) (h : p ∣ a ^ k) : p ∣ a := by
  induction k with
  | zero =>
    rw [Nat.pow_zero] at h
    have := Nat.le_of_dvd (by decide) h
    have := hp.1
    omega
  | succ k ih =>
    rw [Nat.pow_succ] at h
    rcases pr_mul hp h with h | h
    · exact ih h
    · exact h

/-! ### Orders -/

theorem pow_mod_one {a n N : Nat} (hn : 1 < n) (h : a ^ N % n = 1) (k : Nat) : a ^ (N * k) % n = 1 := by
  rw [Nat.pow_mul, Nat.pow_mod, h, Nat.one_pow, Nat.mod_eq_of_lt hn]

/-- a is invertible: what a^i and a^j leave in common may be divided away. -/
theorem pow_cancel {a n N i j : Nat} (hn : 1 < n) (hN : 0 < N) (h : a ^ N % n = 1) (hij : i ≤ j) (he : a ^ i % n = a ^ j % n) : a ^ (j - i) % n = 1 := by
  have h1 : a ^ (j - i) % n = a ^ (j - i) * a ^ (N * i) % n := by
    rw [Nat.mul_mod, pow_mod_one hn h, Nat.mul_one, Nat.mod_mod]
  have hle : i ≤ N * i := Nat.le_mul_of_pos_left i hN
  have h2 : a ^ (j - i) * a ^ (N * i) = a ^ j * a ^ (N * i - i) := by
    rw [← Nat.pow_add, ← Nat.pow_add]; congr 1; omega
  rw [h1, h2, Nat.mul_mod, ← he, ← Nat.mul_mod, ← Nat.pow_add, show i + (N * i - i) = N * i by omega]
  exact pow_mod_one hn h i

/-- The order of a: the least power that leaves 1; it divides every such power. -/
theorem order_dvd {a n d k : Nat} (hn : 1 < n) (hd : 0 < d) (h : a ^ d % n = 1) (hl : ∀ e, 0 < e → e < d → a ^ e % n ≠ 1) (hk : a ^ k % n = 1) : d ∣ k := by
  have h1 : a ^ k = a ^ (d * (k / d)) * a ^ (k % d) := by
    rw [← Nat.pow_add, Nat.div_add_mod]
  have h2 : a ^ (k % d) % n = 1 := by
    have h3 : a ^ k % n = a ^ (k % d) % n := by
      rw [h1, Nat.mul_mod, pow_mod_one hn h, Nat.one_mul, Nat.mod_mod]
    omega
  by_cases h0 : k % d = 0
  · exact Nat.dvd_of_mod_eq_zero h0
  · exact absurd h2 (hl _ (by omega) (Nat.mod_lt _ hd))

theorem order_least {a n N : Nat} (hN : 0 < N) (h : a ^ N % n = 1) : ∃ d, 0 < d ∧ d ≤ N ∧ a ^ d % n = 1 ∧ ∀ e, 0 < e → e < d → a ^ e % n ≠ 1 := by
  induction N using Nat.strongRecOn with
  | ind N ih =>
    by_cases hx : ∃ e, 0 < e ∧ e < N ∧ a ^ e % n = 1
    · obtain ⟨e, h0, hlt, he⟩ := hx
      obtain ⟨d, h1, h2, h3, h4⟩ := ih e hlt h0 he
      exact ⟨d, h1, by omega, h3, h4⟩
    · exact ⟨N, hN, Nat.le_refl _, h, fun e h0 hlt he => hx ⟨e, h0, hlt, he⟩⟩

/-- (Lucas) Where no power by a prime less leaves 1, no lesser power does. -/
theorem lucas {a n N : Nat} (hn : 1 < n) (hN : 0 < N) (h : a ^ N % n = 1) (hq : ∀ q, Pr q → q ∣ N → a ^ (N / q) % n ≠ 1) : ∀ e, 0 < e → e < N → a ^ e % n ≠ 1 := by
  obtain ⟨d, h0, hle, hd, hl⟩ := order_least hN h
  obtain ⟨m, rfl⟩ := order_dvd hn h0 hd hl h
  by_cases hm : m = 1
  · subst hm; simpa using hl
  · have hm0 : m ≠ 0 := by rintro rfl; simp at hN
    obtain ⟨q, hp, k, rfl⟩ := pr_divisor m (by omega)
    refine absurd ?_ (hq q hp ⟨d * k, by rw [Nat.mul_left_comm]⟩)
    rw [show d * (q * k) = q * (d * k) by rw [Nat.mul_left_comm], Nat.mul_div_cancel_left _ (by have := hp.1; omega)]
    exact pow_mod_one hn hd k

/-! ### Pigeons -/

theorem pigeon (N : Nat) : ∀ f : Nat → Nat, (∀ i, i < N → f i < N) → (∀ i j, i < j → j < N → f i ≠ f j) → ∀ b, b < N → ∃ i, i < N ∧ f i = b := by
  induction N with
  | zero => intro f _ _ b hb; omega
  | succ N ih =>
    intro f hf hi b hb
    by_cases hlast : ∃ i, i < N + 1 ∧ f i = N
    · obtain ⟨k, hk, hkN⟩ := hlast
      -- what is at k and at N is swapped
      have hg : ∀ i, i < N → (if i = k then f N else f i) < N := by
        intro i hlt
        split
        · have h1 := hf N (by omega)
          have h2 : f N ≠ N := by
            intro h
            rcases Nat.lt_or_ge k N with h3 | h3
            · exact hi k N h3 (by omega) (by omega)
            · omega
          omega
        · have h1 := hf i (by omega)
          have h2 : f i ≠ N := by
            intro h
            rcases Nat.lt_trichotomy i k with h3 | h3 | h3
            · exact hi i k h3 hk (by omega)
            · contradiction
            · exact hi k i h3 (by omega) (by omega)
          omega
      have hgi : ∀ i j, i < j → j < N → (if i = k then f N else f i) ≠ (if j = k then f N else f j) := by
        intro i j hij hj
        split <;> split
        · omega
        · exact fun h => hi j N (by omega) (by omega) h.symm
        · exact hi i N (by omega) (by omega)
        · exact hi i j hij (by omega)
      by_cases hbN : b = N
      · exact ⟨k, hk, by omega⟩
      · obtain ⟨i, hlt, he⟩ := ih (fun i => if i = k then f N else f i) hg hgi b (by omega)
        split at he
        · exact ⟨N, by omega, he⟩
        · exact ⟨i, by omega, he⟩
    · exfalso
      have h1 : ∀ i, i < N + 1 → f i < N := by
        intro i hlt
        have h1 := hf i hlt
        have h2 : f i ≠ N := fun h => hlast ⟨i, hlt, h⟩
        omega
      rcases Nat.eq_zero_or_pos N with h0 | h0
      · have := h1 0 (by omega); omega
      · obtain ⟨i, hlt, he⟩ := ih f (fun i hlt => h1 i (by omega)) (fun i j h h' => hi i j h (by omega)) (f N) (h1 N (by omega))
        exact hi i N hlt (by omega) he

/-- All that n leaves but 0 is left by a power of a. -/
theorem powers_all {a n : Nat} (hn : 1 < n) (h : a ^ (n - 1) % n = 1) (hl : ∀ e, 0 < e → e < n - 1 → a ^ e % n ≠ 1) (b : Nat) (hb : 0 < b) (hbn : b < n) : ∃ i, i < n - 1 ∧ a ^ i % n = b := by
  have hpos : ∀ i, a ^ i % n ≠ 0 := by
    intro i h0
    have h1 : a ^ ((n - 1) * i) % n = 1 := pow_mod_one hn h i
    rw [Nat.mul_comm, Nat.pow_mul, Nat.pow_mod, h0, Nat.zero_pow (by omega), Nat.zero_mod] at h1
    omega
  obtain ⟨i, hi, he⟩ := pigeon (n - 1) (fun i => a ^ i % n - 1)
    (fun i hi => by have := hpos i; have := Nat.mod_lt (a ^ i) (show n > 0 by omega); show a ^ i % n - 1 < n - 1; omega)
    (fun i j hij hj => by
      intro he
      have h1 := hpos i
      have h2 := hpos j
      exact hl (j - i) (by omega) (by omega) (pow_cancel hn (by omega) h (by omega) (by omega)))
    (b - 1) (by omega)
  have := hpos i
  exact ⟨i, hi, by omega⟩

theorem prime_of_powers {a n : Nat} (hn : 1 < n) (h : a ^ (n - 1) % n = 1) (hl : ∀ e, 0 < e → e < n - 1 → a ^ e % n ≠ 1) : Pr n := by
  refine ⟨hn, fun d hd => ?_⟩
  by_cases h1 : d = 1
  · exact .inl h1
  by_cases h2 : d = n
  · exact .inr h2
  exfalso
  have hle : d ≤ n := Nat.le_of_dvd (by omega) hd
  have h0 : d ≠ 0 := by rintro rfl; have := Nat.eq_zero_of_zero_dvd hd; omega
  obtain ⟨i, hi, he⟩ := powers_all hn h hl d (by omega) (by omega)
  have h3 : d ∣ a ^ i := by
    rw [← Nat.div_add_mod (a ^ i) n, he]
    exact Nat.dvd_add (Nat.dvd_trans hd (Nat.dvd_mul_right ..)) (Nat.dvd_refl _)
  have h4 : d ∣ a ^ (n - 1) := by
    rw [show n - 1 = i + (n - 1 - i) by omega, Nat.pow_add]
    exact Nat.dvd_trans h3 (Nat.dvd_mul_right ..)
  rw [← Nat.div_add_mod (a ^ (n - 1)) n, h] at h4
  have h5 : d ∣ 1 := (Nat.dvd_add_right (Nat.dvd_trans hd (Nat.dvd_mul_right ..))).mp h4
  have := Nat.le_of_dvd (by decide) h5
  omega

/-- (Fermat) -/
theorem fermat_of_powers {a n : Nat} (hn : 1 < n) (h : a ^ (n - 1) % n = 1) (hl : ∀ e, 0 < e → e < n - 1 → a ^ e % n ≠ 1) (b : Nat) (hb : 0 < b) (hbn : b < n) : b ^ (n - 1) % n = 1 := by
  obtain ⟨i, hi, he⟩ := powers_all hn h hl b hb hbn
  rw [← he, ← Nat.pow_mod, ← Nat.pow_mul, Nat.mul_comm]
  exact pow_mod_one hn h i

/-- A square root of 1, left by a prime. -/
theorem root_one {n y : Nat} (hp : Pr n) (hy : y < n) (h : y * y % n = 1) : y = 1 ∨ y = n - 1 := by
  have h2 := hp.1
  have hy0 : y ≠ 0 := by rintro rfl; simp at h
  have h3 : n ∣ (y - 1) * (y + 1) := by
    have e : (y - 1) * (y + 1) = y * y - 1 := by
      obtain ⟨z, rfl⟩ : ∃ z, y = z + 1 := ⟨y - 1, by omega⟩
      simp only [Nat.add_sub_cancel]
      rw [show (z + 1) * (z + 1) = z * (z + 1 + 1) + 1 by grind]
      omega
    rw [e]
    have := Nat.div_add_mod (y * y) n
    exact ⟨y * y / n, by omega⟩
  rcases pr_mul hp h3 with h4 | h4
  · have := Nat.eq_zero_of_dvd_of_lt h4 (by omega); omega
  · have := Nat.le_of_dvd (by omega) h4; omega

/-- (Miller) Of a prime, what comes behind squarings to 1 begins with 1 or meets -1. -/
theorem miller {n b d : Nat} (hp : Pr n) : ∀ s, b ^ (d * 2 ^ s) % n = 1 → b ^ d % n = 1 ∨ ∃ i, i < s ∧ b ^ (d * 2 ^ i) % n = n - 1 := by
  intro s
  induction s with
  | zero => intro h; simp at h; exact .inl h
  | succ s ih =>
    intro h
    have hlt : b ^ (d * 2 ^ s) % n < n := Nat.mod_lt _ (by have := hp.1; omega)
    have e : b ^ (d * 2 ^ s) % n * (b ^ (d * 2 ^ s) % n) % n = 1 := by
      rw [← Nat.mul_mod, ← Nat.pow_add, ← h]
      congr 2
      rw [Nat.pow_succ, ← Nat.mul_assoc]; omega
    rcases root_one hp hlt e with h1 | h1
    · rcases ih h1 with h2 | ⟨i, hi, h2⟩
      · exact .inl h2
      · exact .inr ⟨i, by omega, h2⟩
    · exact .inr ⟨s, by omega, h1⟩
end Go.Proofs.YtcnfhndejkngkaaGreatDoor
end

section
/- Plain facts for frac.Decimal: the digits of a division, and where they come again. -/
set_option linter.unusedSimpArgs false
set_option linter.unusedVariables false
set_option maxRecDepth 100000
namespace Go.Proofs.YtcnfhndejkngkaaGreatDoor
namespace DC
/-- The rests of a division, digit by digit. -/
def rs (u d : Nat) : Nat → Nat
  | 0 => u % d
  | j + 1 => rs u d j * 10 % d
def dg (u d j : Nat) : Nat := rs u d j * 10 / d
theorem rs_lt {u d : Nat} (hd : 0 < d) : ∀ j, rs u d j < d
  | 0 => Nat.mod_lt _ hd
  | _ + 1 => Nat.mod_lt _ hd
theorem dg_lt {u d : Nat} (hd : 0 < d) (j : Nat) : dg u d j < 10 := by
  have h := rs_lt (u := u) hd j
  unfold dg
  rw [Nat.div_lt_iff_lt_mul hd]
  omega
/-- A rest that ends the digits: nought, or one that was there. -/
def ends (u d j : Nat) : Bool := rs u d j == 0 || (List.range j).any fun i => rs u d i == rs u d j
theorem ends_iff (u d j : Nat) : ends u d j = true ↔ rs u d j = 0 ∨ ∃ i, i < j ∧ rs u d i = rs u d j := by
  unfold ends
  rw [Bool.or_eq_true, List.any_eq_true]
  constructor
  · rintro (h | ⟨i, h1, h2⟩)
    · exact .inl (by simpa using h)
    · exact .inr ⟨i, by simpa using h1, by simpa using h2⟩
  · rintro (h | ⟨i, h1, h2⟩)
    · exact .inl (by simpa using h)
    · exact .inr ⟨i, by simpa using h1, by simpa using h2⟩
/-- Nothing has ended yet. -/
def on (u d j : Nat) : Prop := ∀ i, i < j → ends u d i = false
theorem on_lt {u d j : Nat} (hd : 0 < d) (h : on u d j) : j < d := by
  rcases Nat.lt_or_ge j d with h1 | h1
  · exact h1
  · obtain ⟨i, h2, h3⟩ := pigeon d (rs u d) (fun i _ => rs_lt hd i) (fun i k h2 h3 e => by
      have h4 := h k (by omega)
      rw [(ends_iff u d k).2 (.inr ⟨i, h2, e⟩)] at h4
      exact absurd h4 (by decide)) 0 hd
    have h4 := h i (by omega)
    rw [(ends_iff u d i).2 (.inl h3)] at h4
    exact absurd h4 (by decide)
theorem on_ne {u d j i k : Nat} (h : on u d j) (h1 : i < k) (h2 : k < j) : rs u d i ≠ rs u d k := fun e => by
  have h4 := h k h2
  rw [(ends_iff u d k).2 (.inr ⟨i, h1, e⟩)] at h4
  exact absurd h4 (by decide)
/-- The first place whose rest ends the digits. -/
def stp (u d : Nat) : Nat → Nat → Nat
  | 0, j => j
  | f + 1, j => if ends u d j then j else stp u d f (j + 1)
theorem stp_is {u d : Nat} (hd : 0 < d) : ∀ f j, on u d j → d ≤ f + j → on u d (stp u d f j) ∧ ends u d (stp u d f j) = true
  | 0, j, h, hf => by have := on_lt hd h; omega
  | f + 1, j, h, hf => by
    unfold stp
    by_cases e : ends u d j = true
    · rw [if_pos e]; exact ⟨h, e⟩
    · rw [if_neg e]
      refine stp_is hd f (j + 1) (fun i hi => ?_) (by omega)
      by_cases e2 : i = j
      · subst e2; simpa using e
      · exact h i (by omega)
def stop (u d : Nat) : Nat := stp u d d 0
theorem stop_is {u d : Nat} (hd : 0 < d) : on u d (stop u d) ∧ ends u d (stop u d) = true := stp_is hd d 0 (fun i hi => by omega) (by omega)
theorem stop_uniq {u d n : Nat} (hd : 0 < d) (h1 : on u d n) (h2 : ends u d n = true) : n = stop u d := by
  obtain ⟨h3, h4⟩ := stop_is (u := u) hd
  rcases Nat.lt_trichotomy n (stop u d) with h | h | h
  · have := h3 n h; rw [h2] at this; exact absurd this (by decide)
  · exact h
  · have := h1 _ h; rw [h4] at this; exact absurd this (by decide)
/-- The digits' text. -/
def dtl (u d : Nat) (j : Nat) : List UInt8 := (List.range j).map fun i => UInt8.ofNat (48 + dg u d i)
theorem dtl_succ (u d j : Nat) : dtl u d (j + 1) = dtl u d j ++ [UInt8.ofNat (48 + dg u d j)] := by simp [dtl, List.range_succ]
theorem dtl_len (u d j : Nat) : (dtl u d j).length = j := by simp [dtl]
theorem dtl_take {u d i j : Nat} (h : i ≤ j) : (dtl u d j).take i = dtl u d i := by
  unfold dtl
  rw [← List.map_take, List.take_range, Nat.min_eq_left h]
/-- The place where the last rest was first. -/
def back (u d : Nat) : Nat := ((List.range (stop u d)).find? fun i => rs u d i == rs u d (stop u d)).getD 0
theorem back_is {u d k : Nat} (hd : 0 < d) (h1 : k < stop u d) (h2 : rs u d k = rs u d (stop u d)) : back u d = k := by
  have h3 := (stop_is (u := u) hd).1
  unfold back
  have : ((List.range (stop u d)).find? fun i => rs u d i == rs u d (stop u d)) = some k := by
    rw [List.find?_eq_some_iff_append]
    refine ⟨by simpa using h2, List.range k, (List.range (stop u d - k - 1)).map (fun i => k + 1 + i), ?_, ?_⟩
    · have : stop u d = k + (stop u d - k - 1 + 1) := by omega
      conv => lhs; rw [this, List.range_add]
      rw [List.range_succ_eq_map, List.map_cons]
      simp [Function.comp_def]
      omega
    · intro i hi
      have hi : i < k := by simpa using hi
      have := on_ne h3 hi h1
      rw [h2] at this
      simpa using this
  rw [this]
  rfl
/-- The text behind the whole part. -/
def tail (u d : Nat) : List UInt8 :=
  if u % d = 0 then [] else 46 :: (if rs u d (stop u d) = 0 then dtl u d (stop u d) else dtl u d (back u d) ++ 40 :: (dtl u d (stop u d)).drop (back u d) ++ [41])
/-- A fraction in decimal. -/
def text (x : Int) (d : Nat) : List UInt8 := (if x < 0 then [45] else []) ++ Lib.decDigits (x.natAbs / d) ++ tail x.natAbs d
end DC
end Go.Proofs.YtcnfhndejkngkaaGreatDoor
end

section
/- Plain facts on whole numbers: Euclid's way with its cofactors, signs and bounds. Nothing of the program. -/
set_option linter.unusedSimpArgs false
set_option maxRecDepth 100000
namespace Go.Proofs.YtcnfhndejkngkaaGreatDoor.MathA

theorem gcd_step (a b : Int) : Int.gcd b (a.tmod b) = Int.gcd a b := by
  unfold Int.gcd
  rw [Int.natAbs_tmod, Nat.gcd_comm b.natAbs, ← Nat.gcd_rec, Nat.gcd_comm]

theorem natAbs_tmod_lt (a b : Int) (hb : b ≠ 0) : (a.tmod b).natAbs < b.natAbs := by
  rw [Int.natAbs_tmod]; exact Nat.mod_lt _ (by omega)

/-- The state of the loop: what it started from, and the signs. -/
structure Eu (A B a b u v nu nv : Int) : Prop where
  lin : a = u * A + v * B
  lin2 : b = nu * A + nv * B
  st : ∃ (p r t s : Int) (α β U N V M : Nat), (p = 1 ∨ p = -1) ∧ (r = 1 ∨ r = -1) ∧ (t = 1 ∨ t = -1) ∧ (s = 1 ∨ s = -1) ∧
    a = p * α ∧ b = r * β ∧ u = -(p * r * t) * U ∧ nu = t * N ∧ v = -(p * r * s) * V ∧ nv = s * M ∧
    α * N + β * U = B.natAbs ∧ α * M + β * V = A.natAbs ∧ Nat.gcd α β = Int.gcd A B ∧
    U ≤ 1000000000000000000 ∧ N ≤ 1000000000000000000 ∧ V ≤ 1000000000000000000 ∧ M ≤ 1000000000000000000 ∧
    α ≤ 1000000000000000000 ∧ β ≤ 1000000000000000000 ∧ ((N = 0 ∧ U = 1 ∧ 0 < β) ∨ (β < α ∧ 1 ≤ N ∧ (β = 0 → U < N)))

theorem sgn_form (x : Int) : ∃ p : Int, (p = 1 ∨ p = -1) ∧ x = p * (x.natAbs : Nat) := by
  by_cases h : 0 ≤ x
  · exact ⟨1, Or.inl rfl, by omega⟩
  · exact ⟨-1, Or.inr rfl, by omega⟩

theorem eu_start (A B : Int) (hA : A.natAbs ≤ 1000000000000000000) (hB : B.natAbs ≤ 1000000000000000000) (hb : B ≠ 0) : Eu A B A B 1 0 0 1 := by
  refine ⟨by omega, by omega, ?_⟩
  obtain ⟨p, hp, ep⟩ := sgn_form A
  obtain ⟨r, hr, er⟩ := sgn_form B
  refine ⟨p, r, -(p * r), 1, A.natAbs, B.natAbs, 1, 0, 0, 1, hp, hr, ?_, Or.inl rfl, ep, er, ?_, by simp, by simp, by simp, by omega, by omega, rfl, by omega, by omega, by omega, by omega, hA, hB, Or.inl ⟨rfl, rfl, by omega⟩⟩
  · rcases hp with rfl | rfl <;> rcases hr with rfl | rfl <;> decide
  · rcases hp with rfl | rfl <;> rcases hr with rfl | rfl <;> decide

theorem tdiv_sgn (p r : Int) (α β : Nat) (hp : p = 1 ∨ p = -1) (hr : r = 1 ∨ r = -1) : (p * α).tdiv (r * β) = p * r * ((α / β : Nat) : Int) := by
  have e : (α : Int).tdiv (β : Int) = ((α / β : Nat) : Int) := (Int.ofNat_tdiv α β).symm
  rcases hp with rfl | rfl <;> rcases hr with rfl | rfl <;> simp [Int.neg_tdiv, Int.tdiv_neg, -Int.natCast_ediv, e]

theorem div_bound (α β K : Nat) (h : α ≤ K) : α / β * β ≤ K := Nat.le_trans (Nat.div_mul_le_self α β) h

/-- One round. -/
theorem eu_step {A B a b u v nu nv : Int} (hA : A.natAbs ≤ 1000000000000000000) (hB : B.natAbs ≤ 1000000000000000000) (h : Eu A B a b u v nu nv) (hb : b ≠ 0) :
    Eu A B b (a - a.tdiv b * b) nu nv (u - a.tdiv b * nu) (v - a.tdiv b * nv) ∧
    (a - a.tdiv b * b).natAbs < b.natAbs ∧
    (a.tdiv b).natAbs ≤ 1000000000000000000 ∧ (a.tdiv b * b).natAbs ≤ 1000000000000000000 ∧ (a.tdiv b * nu).natAbs ≤ 1000000000000000000 ∧ (a.tdiv b * nv).natAbs ≤ 1000000000000000000 := by
  obtain ⟨l1, l2, p, r, t, s, α, β, U, N, V, M, hp, hr, ht, hs, ea, eb, eu, enu, ev, env, i1, i2, ig, bU, bN, bV, bM, bα, bβ, hd⟩ := h
  have hβ : 0 < β := by
    rcases Nat.eq_zero_or_pos β with h0 | h0
    · subst h0; simp at eb; exact absurd eb hb
    · exact h0
  have q1 : a.tdiv b = p * r * ((α / β : Nat) : Int) := by rw [ea, eb]; exact tdiv_sgn p r α β hp hr
  have hmod : α % β < β := Nat.mod_lt _ hβ
  have hdm : β * (α / β) + α % β = α := Nat.div_add_mod α β
  generalize hq : α / β = q at *
  generalize hρ : α % β = ρ at *
  -- the new cofactors
  have j1 : β * (U + q * N) + ρ * N = B.natAbs := by
    rw [← i1, ← hdm]; simp only [Nat.mul_add, Nat.add_mul, Nat.mul_assoc, Nat.mul_comm, Nat.mul_left_comm]; omega
  have j2 : β * (V + q * M) + ρ * M = A.natAbs := by
    rw [← i2, ← hdm]; simp only [Nat.mul_add, Nat.add_mul, Nat.mul_assoc, Nat.mul_comm, Nat.mul_left_comm]; omega
  have k1 : U + q * N ≤ B.natAbs := by
    have : 1 * (U + q * N) ≤ β * (U + q * N) := Nat.mul_le_mul_right _ hβ
    omega
  have k2 : V + q * M ≤ A.natAbs := by
    have : 1 * (V + q * M) ≤ β * (V + q * M) := Nat.mul_le_mul_right _ hβ
    omega
  have kq : q ≤ α := by
    have : 1 * q ≤ β * q := Nat.mul_le_mul_right _ hβ
    omega
  have e1 : a.tdiv b * b = p * ((q * β : Nat) : Int) := by
    rw [q1, eb]; rcases hp with rfl | rfl <;> rcases hr with rfl | rfl <;> simp [Int.neg_mul, Int.mul_neg]
  have e2 : a.tdiv b * nu = p * r * t * ((q * N : Nat) : Int) := by
    rw [q1, enu]; rcases hp with rfl | rfl <;> rcases hr with rfl | rfl <;> rcases ht with rfl | rfl <;> simp [Int.neg_mul, Int.mul_neg]
  have e3 : a.tdiv b * nv = p * r * s * ((q * M : Nat) : Int) := by
    rw [q1, env]; rcases hp with rfl | rfl <;> rcases hr with rfl | rfl <;> rcases hs with rfl | rfl <;> simp [Int.neg_mul, Int.mul_neg]
  have e4 : a - a.tdiv b * b = p * (ρ : Int) := by
    rw [e1, ea]; have : (α : Int) = ((q * β : Nat) : Int) + ρ := by rw [← hdm, Nat.mul_comm β q]; omega
    rw [this]; rcases hp with rfl | rfl <;> omega
  refine ⟨⟨l2, ?_, r, p, -(p * r * t), -(p * r * s), β, ρ, N, U + q * N, M, V + q * M, hr, hp, ?_, ?_, eb, e4, ?_, ?_, ?_, ?_, j1, j2, ?_, bN, by omega, bM, by omega, bβ, by omega, ?_⟩, ?_, ?_, ?_, ?_, ?_⟩
  · have x1 : (u - a.tdiv b * nu) * A + (v - a.tdiv b * nv) * B = (u * A + v * B) - a.tdiv b * (nu * A + nv * B) := by
      simp only [Int.sub_mul, Int.mul_add, Int.mul_assoc]; omega
    rw [x1, ← l1, ← l2]
  · rcases hp with rfl | rfl <;> rcases hr with rfl | rfl <;> rcases ht with rfl | rfl <;> decide
  · rcases hp with rfl | rfl <;> rcases hr with rfl | rfl <;> rcases hs with rfl | rfl <;> decide
  · rw [enu]; rcases hp with rfl | rfl <;> rcases hr with rfl | rfl <;> rcases ht with rfl | rfl <;> simp [Int.neg_mul, Int.mul_neg]
  · rw [e2, eu]; rcases hp with rfl | rfl <;> rcases hr with rfl | rfl <;> rcases ht with rfl | rfl <;> omega
  · rw [env]; rcases hp with rfl | rfl <;> rcases hr with rfl | rfl <;> rcases hs with rfl | rfl <;> simp [Int.neg_mul, Int.mul_neg]
  · rw [e3, ev]; rcases hp with rfl | rfl <;> rcases hr with rfl | rfl <;> rcases hs with rfl | rfl <;> omega
  · rw [← ig, ← hρ, Nat.gcd_comm β, ← Nat.gcd_rec, Nat.gcd_comm]
  · right
    rcases hd with ⟨h1, h2, h3⟩ | ⟨h1, h2, h3⟩
    · subst h1 h2
      exact ⟨hmod, by omega, fun _ => by omega⟩
    · refine ⟨hmod, ?_, fun h0 => ?_⟩
      · have : 1 ≤ q := by
          rcases Nat.eq_zero_or_pos q with hz | hz
          · subst hz; omega
          · exact hz
        have : 1 * N ≤ q * N := Nat.mul_le_mul_right _ this
        omega
      · have : 2 ≤ q := by
          rcases Nat.lt_or_ge q 2 with hz | hz
          · have : q = 0 ∨ q = 1 := by omega
            rcases this with h | h <;> subst h <;> omega
          · exact hz
        have : 2 * N ≤ q * N := Nat.mul_le_mul_right _ this
        omega
  · rw [e4, eb]; rcases hp with rfl | rfl <;> rcases hr with rfl | rfl <;> omega
  · rw [q1]; rcases hp with rfl | rfl <;> rcases hr with rfl | rfl <;> omega
  · have : q * β ≤ α := by rw [Nat.mul_comm]; omega
    rw [e1]; rcases hp with rfl | rfl <;> omega
  · rw [e2]; rcases hp with rfl | rfl <;> rcases hr with rfl | rfl <;> rcases ht with rfl | rfl <;> omega
  · rw [e3]; rcases hp with rfl | rfl <;> rcases hr with rfl | rfl <;> rcases hs with rfl | rfl <;> omega

theorem eu_bounds {A B a b u v nu nv : Int} (h : Eu A B a b u v nu nv) :
    a.natAbs ≤ 1000000000000000000 ∧ b.natAbs ≤ 1000000000000000000 ∧ u.natAbs ≤ 1000000000000000000 ∧ v.natAbs ≤ 1000000000000000000 ∧ nu.natAbs ≤ 1000000000000000000 ∧ nv.natAbs ≤ 1000000000000000000 := by
  obtain ⟨_, _, p, r, t, s, α, β, U, N, V, M, hp, hr, ht, hs, ea, eb, eu, enu, ev, env, _, _, _, bU, bN, bV, bM, bα, bβ, _⟩ := h
  rw [ea, eb, eu, enu, ev, env]
  rcases hp with rfl | rfl <;> rcases hr with rfl | rfl <;> rcases ht with rfl | rfl <;> rcases hs with rfl | rfl <;> omega

/-- At the end: the greatest divisor, and a cofactor that is small. -/
theorem eu_end {A B a u v nu nv : Int} (hB : B ≠ 0) (h : Eu A B a 0 u v nu nv) :
    a.natAbs = Int.gcd A B ∧ u.natAbs < B.natAbs / Int.gcd A B ∧ a = u * A + v * B ∧ 0 < Int.gcd A B := by
  have hg : 0 < Int.gcd A B := Int.gcd_pos_of_ne_zero_right _ hB
  obtain ⟨l1, _, p, r, t, s, α, β, U, N, V, M, hp, hr, ht, hs, ea, eb, eu, enu, ev, env, i1, i2, ig, bU, bN, bV, bM, bα, bβ, hd⟩ := h
  have hβ : β = 0 := by rcases hr with rfl | rfl <;> omega
  subst hβ
  simp only [Nat.gcd_zero_right] at ig
  have hd' : U < N := by
    rcases hd with ⟨_, _, h3⟩ | ⟨_, _, h3⟩
    · omega
    · exact h3 rfl
  refine ⟨?_, ?_, l1, hg⟩
  · rw [ea, ← ig]; rcases hp with rfl | rfl <;> omega
  · have : B.natAbs / Int.gcd A B = N := by
      rw [← ig, ← i1]; simp only [Nat.zero_mul, Nat.add_zero]
      exact Nat.mul_div_cancel_left _ (by omega)
    rw [this, eu]; rcases hp with rfl | rfl <;> rcases hr with rfl | rfl <;> rcases ht with rfl | rfl <;> omega

end Go.Proofs.YtcnfhndejkngkaaGreatDoor.MathA
end
