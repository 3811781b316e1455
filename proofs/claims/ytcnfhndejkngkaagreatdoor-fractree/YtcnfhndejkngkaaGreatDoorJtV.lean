import Derived.Lib.ItoaNum
import Derived.Test.YtcnfhndejkngkaaGreatDoorRows
import Derived.Test.YtcnfhndejkngkaaGreatDoorJtF
import Derived.Test.YtcnfhndejkngkaaGreatDoorJtT
import Derived.Test.YtcnfhndejkngkaaGreatDoorJtL
import Derived.Deep.LoopGhost
import Derived.Test.YtcnfhndejkngkaaGreatDoorTxB
import Derived.Test.YtcnfhndejkngkaaGreatDoorJtM
import Derived.BigQuiet
section
/- Plain facts: primes, orders, Lucas' and Pratt's theorem, Fermat's and Miller's. -/
set_option linter.unusedVariables false
set_option maxRecDepth 100000
namespace Go.Proofs.YtcnfhndejkngkaaGreatDoor

/-- A prime. -/
def Pr (n : Nat) : Prop := 2 ≤ n ∧ ∀ d, d ∣ n → d = 1 ∨ d = n

theorem pr_divisor (n : Nat) (h : 2 ≤ n) : ∃ p, Pr p ∧ p ∣ n := by
  induction n using Nat.strongRecOn with
  | ind n ih =>
    by_cases hp : ∃ d, d ∣ n ∧ d ≠ 1 ∧ d ≠ n
    · obtain ⟨d, hd, h1, hn⟩ := hp
      have hle : d ≤ n := Nat.le_of_dvd (by omega) hd
      have h0 : d ≠ 0 := by rintro rfl; have := Nat.eq_zero_of_zero_dvd hd; omega
      obtain ⟨p, hp, hpd⟩ := ih d (by omega) (by omega)
      exact ⟨p, hp, Nat.dvd_trans hpd hd⟩
    · refine ⟨n, ⟨h, fun d hd => ?_⟩, Nat.dvd_refl _⟩
      by_cases h1 : d = 1
      · exact .inl h1
      · by_cases h2 : d = n
        · exact .inr h2
        · exact absurd ⟨d, hd, h1, h2⟩ hp

theorem pr_mul {p a b : Nat} (hp : Pr p) (h : p ∣ a * b) : p ∣ a ∨ p ∣ b := by
  rcases hp.2 (Nat.gcd p a) (Nat.gcd_dvd_left ..) with hg | hg
  · exact .inr (Nat.Coprime.dvd_of_dvd_mul_left hg h)
  · refine .inl ?_
    have := Nat.gcd_dvd_right p a
    rwa [hg] at this

theorem pr_pow {p a : Nat} (hp : Pr p) (k : Nat) (h : p ∣ a ^ k) : p ∣ a := by
  induction k with
  | zero =>
    rw [Nat.pow_zero] at h
    have := Nat.le_of_dvd (by decide) h
    have := hp.1
    omega
  | succ k ih =>
    rw [Nat.pow_succ] at h
    rcases pr_mul hp h with h | h
    · exact ih h
    · exact h

/-! ### Orders -/

theorem pow_mod_one {a n N : Nat} (hn : 1 < n) (h : a ^ N % n = 1) (k : Nat) : a ^ (N * k) % n = 1 := by
  rw [Nat.pow_mul, Nat.pow_mod, h, Nat.one_pow, Nat.mod_eq_of_lt hn]

/-- a is invertible: what a^i and a^j leave in common may be divided away. -/
theorem pow_cancel {a n N i j : Nat} (hn : 1 < n) (hN : 0 < N) (h : a ^ N % n = 1) (hij : i ≤ j) (he : a ^ i % n = a ^ j % n) : a ^ (j - i) % n = 1 := by
  have h1 : a ^ (j - i) % n = a ^ (j - i) * a ^ (N * i) % n := by
    rw [Nat.mul_mod, pow_mod_one hn h, Nat.mul_one, Nat.mod_mod]
  have hle : i ≤ N * i := Nat.le_mul_of_pos_left i hN
  have h2 : a ^ (j - i) * a ^ (N * i) = a ^ j * a ^ (N * i - i) := by
    rw [← Nat.pow_add, ← Nat.pow_add]; congr 1; omega
  rw [h1, h2, Nat.mul_mod, ← he, ← Nat.mul_mod, ← Nat.pow_add, show i + (N * i - i) = N * i by omega]
  exact pow_mod_one hn h i

/-- The order of a: the least power that leaves 1; it divides every such power. -/
theorem order_dvd {a n d k : Nat} (hn : 1 < n) (hd : 0 < d) (h : a ^ d % n = 1) (hl : ∀ e, 0 < e → e < d → a ^ e % n ≠ 1) (hk : a ^ k % n = 1) : d ∣ k := by
  have h1 : a ^ k = a ^ (d * (k / d)) * a ^ (k % d) := by
    rw [← Nat.pow_add, Nat.div_add_mod]
  have h2 : a ^ (k % d) % n = 1 := by
    have h3 : a ^ k % n = a ^ (k % d) % n := by
      rw [h1, Nat.mul_mod, pow_mod_one hn h, Nat.one_mul, Nat.mod_mod]
    omega
  by_cases h0 : k % d = 0
  · exact Nat.dvd_of_mod_eq_zero h0
  · exact absurd h2 (hl _ (by omega) (Nat.mod_lt _ hd))

theorem order_least {a n N : Nat} (hN : 0 < N) (h : a ^ N % n = 1) : ∃ d, 0 < d ∧ d ≤ N ∧ a ^ d % n = 1 ∧ ∀ e, 0 < e → e < d → a ^ e % n ≠ 1 := by
  induction N using Nat.strongRecOn with
  | ind N ih =>
    by_cases hx : ∃ e, 0 < e ∧ e < N ∧ a ^ e % n = 1
    · obtain ⟨e, h0, hlt, he⟩ := hx
      obtain ⟨d, h1, h2, h3, h4⟩ := ih e hlt h0 he
      exact ⟨d, h1, by omega, h3, h4⟩
    · exact ⟨N, hN, Nat.le_refl _, h, fun e h0 hlt he => hx ⟨e, h0, hlt, he⟩⟩

/-- (Lucas) Where no power by a prime less leaves 1, no lesser power does. -/
theorem lucas {a n N : Nat} (hn : 1 < n) (hN : 0 < N) (h : a ^ N % n = 1) (hq : ∀ q, Pr q → q ∣ N → a ^ (N / q) % n ≠ 1) : ∀ e, 0 < e → e < N → a ^ e % n ≠ 1 := by
  obtain ⟨d, h0, hle, hd, hl⟩ := order_least hN h
  obtain ⟨m, rfl⟩ := order_dvd hn h0 hd hl h
  by_cases hm : m = 1
  · subst hm; simpa using hl
  · have hm0 : m ≠ 0 := by rintro rfl; simp at hN
    obtain ⟨q, hp, k, rfl⟩ := pr_divisor m (by omega)
    refine absurd ?_ (hq q hp ⟨d * k, by rw [Nat.mul_left_comm]⟩)
    rw [show d * (q * k) = q * (d * k) by rw [Nat.mul_left_comm], Nat.mul_div_cancel_left _ (by have := hp.1; omega)]
    exact pow_mod_one hn hd k

/-! ### Pigeons -/

theorem pigeon (N : Nat) : ∀ f : Nat → Nat, (∀ i, i < N → f i < N) → (∀ i j, i < j → j < N → f i ≠ f j) → ∀ b, b < N → ∃ i, i < N ∧ f i = b := by
  induction N with
  | zero => intro f _ _ b hb; omega
  | succ N ih =>
    intro f hf hi b hb
    by_cases hlast : ∃ i, i < N + 1 ∧ f i = N
    · obtain ⟨k, hk, hkN⟩ := hlast
      -- what is at k and at N is swapped
      have hg : ∀ i, i < N → (if i = k then f N else f i) < N := by
        intro i hlt
        split
        · have h1 := hf N (by omega)
          have h2 : f N ≠ N := by
            intro h
            rcases Nat.lt_or_ge k N with h3 | h3
            · exact hi k N h3 (by omega) (by omega)
            · omega
          omega
        · have h1 := hf i (by omega)
          have h2 : f i ≠ N := by
            intro h
            rcases Nat.lt_trichotomy i k with h3 | h3 | h3
            · exact hi i k h3 hk (by omega)
            · contradiction
            · exact hi k i h3 (by omega) (by omega)
          omega
      have hgi : ∀ i j, i < j → j < N → (if i = k then f N else f i) ≠ (if j = k then f N else f j) := by
        intro i j hij hj
        split <;> split
        · omega
        · exact fun h => hi j N (by omega) (by omega) h.symm
        · exact hi i N (by omega) (by omega)
        · exact hi i j hij (by omega)
      by_cases hbN : b = N
      · exact ⟨k, hk, by omega⟩
      · obtain ⟨i, hlt, he⟩ := ih (fun i => if i = k then f N else f i) hg hgi b (by omega)
        split at he
        · exact ⟨N, by omega, he⟩
        · exact ⟨i, by omega, he⟩
    · exfalso
      have h1 : ∀ i, i < N + 1 → f i < N := by
        intro i hlt
        have h1 := hf i hlt
        have h2 : f i ≠ N := fun h => hlast ⟨i, hlt, h⟩
        omega
      rcases Nat.eq_zero_or_pos N with h0 | h0
      · have := h1 0 (by omega); omega
      · obtain ⟨i, hlt, he⟩ := ih f (fun i hlt => h1 i (by omega)) (fun i j h h' => hi i j h (by omega)) (f N) (h1 N (by omega))
        exact hi i N hlt (by omega) he

/-- All that n leaves but 0 is left by a power of a. -/
theorem powers_all {a n : Nat} (hn : 1 < n) (h : a ^ (n - 1) % n = 1) (hl : ∀ e, 0 < e → e < n - 1 → a ^ e % n ≠ 1) (b : Nat) (hb : 0 < b) (hbn : b < n) : ∃ i, i < n - 1 ∧ a ^ i % n = b := by
  have hpos : ∀ i, a ^ i % n ≠ 0 := by
    intro i h0
    have h1 : a ^ ((n - 1) * i) % n = 1 := pow_mod_one hn h i
    rw [Nat.mul_comm, Nat.pow_mul, Nat.pow_mod, h0, Nat.zero_pow (by omega), Nat.zero_mod] at h1
    omega
  obtain ⟨i, hi, he⟩ := pigeon (n - 1) (fun i => a ^ i % n - 1)
    (fun i hi => by have := hpos i; have := Nat.mod_lt (a ^ i) (show n > 0 by omega); show a ^ i % n - 1 < n - 1; omega)
    (fun i j hij hj => by
      intro he
      have h1 := hpos i
      have h2 := hpos j
      exact hl (j - i) (by omega) (by omega) (pow_cancel hn (by omega) h (by omega) (by omega)))
    (b - 1) (by omega)
  have := hpos i
  exact ⟨i, hi, by omega⟩

theorem prime_of_powers {a n : Nat} (hn : 1 < n) (h : a ^ (n - 1) % n = 1) (hl : ∀ e, 0 < e → e < n - 1 → a ^ e % n ≠ 1) : Pr n := by
  refine ⟨hn, fun d hd => ?_⟩
  by_cases h1 : d = 1
  · exact .inl h1
  by_cases h2 : d = n
  · exact .inr h2
  exfalso
  have hle : d ≤ n := Nat.le_of_dvd (by omega) hd
  have h0 : d ≠ 0 := by rintro rfl; have := Nat.eq_zero_of_zero_dvd hd; omega
  obtain ⟨i, hi, he⟩ := powers_all hn h hl d (by omega) (by omega)
  have h3 : d ∣ a ^ i := by
    rw [← Nat.div_add_mod (a ^ i) n, he]
    exact Nat.dvd_add (Nat.dvd_trans hd (Nat.dvd_mul_right ..)) (Nat.dvd_refl _)
  have h4 : d ∣ a ^ (n - 1) := by
    rw [show n - 1 = i + (n - 1 - i) by omega, Nat.pow_add]
    exact Nat.dvd_trans h3 (Nat.dvd_mul_right ..)
  rw [← Nat.div_add_mod (a ^ (n - 1)) n, h] at h4
  have h5 : d ∣ 1 := (Nat.dvd_add_right (Nat.dvd_trans hd (Nat.dvd_mul_right ..))).mp h4
  have := Nat.le_of_dvd (by decide) h5
  omega

/-- (Fermat) -/
theorem fermat_of_powers {a n : Nat} (hn : 1 < n) (h : a ^ (n - 1) % n = 1) (hl : ∀ e, 0 < e → e < n - 1 → a ^ e % n ≠ 1) (b : Nat) (hb : 0 < b) (hbn : b < n) : b ^ (n - 1) % n = 1 := by
  obtain ⟨i, hi, he⟩ := powers_all hn h hl b hb hbn
  rw [← he, ← Nat.pow_mod, ← Nat.pow_mul, Nat.mul_comm]
  exact pow_mod_one hn h i

/-- A square root of 1, left by a prime. -/
theorem root_one {n y : Nat} (hp : Pr n) (hy : y < n) (h : y * y % n = 1) : y = 1 ∨ y = n - 1 := by
  have h2 := hp.1
  have hy0 : y ≠ 0 := by rintro rfl; simp at h
  have h3 : n ∣ (y - 1) * (y + 1) := by
    have e : (y - 1) * (y + 1) = y * y - 1 := by
      obtain ⟨z, rfl⟩ : ∃ z, y = z + 1 := ⟨y - 1, by omega⟩
      simp only [Nat.add_sub_cancel]
      rw [show (z + 1) * (z + 1) = z * (z + 1 + 1) + 1 by grind]
      omega
    rw [e]
    have := Nat.div_add_mod (y * y) n
    exact ⟨y * y / n, by omega⟩
  rcases pr_mul hp h3 with h4 | h4
  · have := Nat.eq_zero_of_dvd_of_lt h4 (by omega); omega
  · have := Nat.le_of_dvd (by omega) h4; omega

/-- (Miller) Of a prime, what comes behind squarings to 1 begins with 1 or meets -1. -/
theorem miller {n b d : Nat} (hp : Pr n) : ∀ s, b ^ (d * 2 ^ s) % n = 1 → b ^ d % n = 1 ∨ ∃ i, i < s ∧ b ^ (d * 2 ^ i) % n = n - 1 := by
  intro s
  induction s with
  | zero => intro h; simp at h; exact .inl h
  | succ s ih =>
    intro h
    have hlt : b ^ (d * 2 ^ s) % n < n := Nat.mod_lt _ (by have := hp.1; omega)
    have e : b ^ (d * 2 ^ s) % n * (b ^ (d * 2 ^ s) % n) % n = 1 := by
      rw [← Nat.mul_mod, ← Nat.pow_add, ← h]
      congr 2
      rw [Nat.pow_succ, ← Nat.mul_assoc]; omega
    rcases root_one hp hlt e with h1 | h1
    · rcases ih h1 with h2 | ⟨i, hi, h2⟩
      · exact .inl h2
      · exact .inr ⟨i, by omega, h2⟩
    · exact .inr ⟨s, by omega, h1⟩
end Go.Proofs.YtcnfhndejkngkaaGreatDoor
end

section
/- Plain facts for frac.Decimal: the digits of a division, and where they come again. -/
set_option linter.unusedSimpArgs false
set_option linter.unusedVariables false
set_option maxRecDepth 100000
namespace Go.Proofs.YtcnfhndejkngkaaGreatDoor
namespace DC
/-- The rests of a division, digit by digit. -/
def rs (u d : Nat) : Nat → Nat
  | 0 => u % d
  | j + 1 => rs u d j * 10 % d
def dg (u d j : Nat) : Nat := rs u d j * 10 / d
theorem rs_lt {u d : Nat} (hd : 0 < d) : ∀ j, rs u d j < d
  | 0 => Nat.mod_lt _ hd
  | _ + 1 => Nat.mod_lt _ hd
theorem dg_lt {u d : Nat} (hd : 0 < d) (j : Nat) : dg u d j < 10 := by
  have h := rs_lt (u := u) hd j
  unfold dg
  rw [Nat.div_lt_iff_lt_mul hd]
  omega
/-- A rest that ends the digits: nought, or one that was there. -/
def ends (u d j : Nat) : Bool := rs u d j == 0 || (List.range j).any fun i => rs u d i == rs u d j
theorem ends_iff (u d j : Nat) : ends u d j = true ↔ rs u d j = 0 ∨ ∃ i, i < j ∧ rs u d i = rs u d j := by
  unfold ends
  rw [Bool.or_eq_true, List.any_eq_true]
  constructor
  · rintro (h | ⟨i, h1, h2⟩)
    · exact .inl (by simpa using h)
    · exact .inr ⟨i, by simpa using h1, by simpa using h2⟩
  · rintro (h | ⟨i, h1, h2⟩)
    · exact .inl (by simpa using h)
    · exact .inr ⟨i, by simpa using h1, by simpa using h2⟩
/-- Nothing has ended yet. -/
def on (u d j : Nat) : Prop := ∀ i, i < j → ends u d i = false
theorem on_lt {u d j : Nat} (hd : 0 < d) (h : on u d j) : j < d := by
  rcases Nat.lt_or_ge j d with h1 | h1
  · exact h1
  · obtain ⟨i, h2, h3⟩ := pigeon d (rs u d) (fun i _ => rs_lt hd i) (fun i k h2 h3 e => by
      have h4 := h k (by omega)
      rw [(ends_iff u d k).2 (.inr ⟨i, h2, e⟩)] at h4
      exact absurd h4 (by decide)) 0 hd
    have h4 := h i (by omega)
    rw [(ends_iff u d i).2 (.inl h3)] at h4
    exact absurd h4 (by decide)
theorem on_ne {u d j i k : Nat} (h : on u d j) (h1 : i < k) (h2 : k < j) : rs u d i ≠ rs u d k := fun e => by
  have h4 := h k h2
  rw [(ends_iff u d k).2 (.inr ⟨i, h1, e⟩)] at h4
  exact absurd h4 (by decide)
/-- The first place whose rest ends the digits. -/
def stp (u d : Nat) : Nat → Nat → Nat
  | 0, j => j
  | f + 1, j => if ends u d j then j else stp u d f (j + 1)
theorem stp_is {u d : Nat} (hd : 0 < d) : ∀ f j, on u d j → d ≤ f + j → on u d (stp u d f j) ∧ ends u d (stp u d f j) = true
  | 0, j, h, hf => by have := on_lt hd h; omega
  | f + 1, j, h, hf => by
    unfold stp
    by_cases e : ends u d j = true
    · rw [if_pos e]; exact ⟨h, e⟩
    · rw [if_neg e]
      refine stp_is hd f (j + 1) (fun i hi => ?_) (by omega)
      by_cases e2 : i = j
      · subst e2; simpa using e
      · exact h i (by omega)
def stop (u d : Nat) : Nat := stp u d d 0
theorem stop_is {u d : Nat} (hd : 0 < d) : on u d (stop u d) ∧ ends u d (stop u d) = true := stp_is hd d 0 (fun i hi => by omega) (by omega)
theorem stop_uniq {u d n : Nat} (hd : 0 < d) (h1 : on u d n) (h2 : ends u d n = true) : n = stop u d := by
  obtain ⟨h3, h4⟩ := stop_is (u := u) hd
  rcases Nat.lt_trichotomy n (stop u d) with h | h | h
  · have := h3 n h; rw [h2] at this; exact absurd this (by decide)
  · exact h
  · have := h1 _ h; rw [h4] at this; exact absurd this (by decide)
/-- The digits' text. -/
def dtl (u d : Nat) (j : Nat) : List UInt8 := (List.range j).map fun i => UInt8.ofNat (48 + dg u d i)
theorem dtl_succ (u d j : Nat) : dtl u d (j + 1) = dtl u d j ++ [UInt8.ofNat (48 + dg u d j)] := by simp [dtl, List.range_succ]
theorem dtl_len (u d j : Nat) : (dtl u d j).length = j := by simp [dtl]
theorem dtl_take {u d i j : Nat} (h : i ≤ j) : (dtl u d j).take i = dtl u d i := by
  unfold dtl
  rw [← List.map_take, List.take_range, Nat.min_eq_left h]
/-- The place where the last rest was first. -/
def back (u d : Nat) : Nat := ((List.range (stop u d)).find? fun i => rs u d i == rs u d (stop u d)).getD 0
theorem back_is {u d k : Nat} (hd : 0 < d) (h1 : k < stop u d) (h2 : rs u d k = rs u d (stop u d)) : back u d = k := by
  have h3 := (stop_is (u := u) hd).1
  unfold back
  have : ((List.range (stop u d)).find? fun i => rs u d i == rs u d (stop u d)) = some k := by
    rw [List.find?_eq_some_iff_append]
    refine ⟨by simpa using h2, List.range k, (List.range (stop u d - k - 1)).map (fun i => k + 1 + i), ?_, ?_⟩
    · have : stop u d = k + (stop u d - k - 1 + 1) := by omega
      conv => lhs; rw [this, List.range_add]
      rw [List.range_succ_eq_map, List.map_cons]
      simp [Function.comp_def]
      omega
    · intro i hi
      have hi : i < k := by simpa using hi
      have := on_ne h3 hi h1
      rw [h2] at this
      simpa using this
  rw [this]
  rfl
/-- The text behind the whole part. -/
def tail (u d : Nat) : List UInt8 :=
  if u % d = 0 then [] else 46 :: (if rs u d (stop u d) = 0 then dtl u d (stop u d) else dtl u d (back u d) ++ 40 :: (dtl u d (stop u d)).drop (back u d) ++ [41])
/-- A fraction in decimal. -/
def text (x : Int) (d : Nat) : List UInt8 := (if x < 0 then [45] else []) ++ Lib.decDigits (x.natAbs / d) ++ tail x.natAbs d
end DC
end Go.Proofs.YtcnfhndejkngkaaGreatDoor
end

section
/- Plain facts: how many partitions a number has, by parts of at most k. -/
set_option linter.unusedSimpArgs false
set_option linter.unusedVariables false
set_option maxRecDepth 100000
namespace Go.Proofs.YtcnfhndejkngkaaGreatDoor
namespace PT

/-- Partitions of m into parts of at most k. -/
def pt : Nat → Nat → Nat
  | 0, m => if m = 0 then 1 else 0
  | k + 1, m => if h : m < k + 1 then pt k m else pt k m + pt (k + 1) (m - (k + 1))
termination_by k m => (k, m)
theorem pt_lt {k m : Nat} (h : m < k + 1) : pt (k + 1) m = pt k m := by rw [pt, dif_pos h]
theorem pt_ge {k m : Nat} (h : k + 1 ≤ m) : pt (k + 1) m = pt k m + pt (k + 1) (m - (k + 1)) := by rw [pt, dif_neg (by omega)]
theorem pt_null (m : Nat) : pt 0 m = if m = 0 then 1 else 0 := by rw [pt]
theorem pt_bd : ∀ k m, pt k m + 2 ^ (m - min k m) ≤ 2 ^ m + 1 := by
  intro k
  induction k with
  | zero =>
    intro m
    rw [pt_null]
    split
    · next h => subst h; decide
    · rw [show m - min 0 m = m by omega]; omega
  | succ k ih =>
    intro m
    induction m using Nat.strongRecOn with
    | ind m ihm =>
      by_cases h : m < k + 1
      · rw [pt_lt h]
        have := ih m
        rw [show m - min k m = 0 by omega] at this
        rw [show m - min (k + 1) m = 0 by omega]
        exact this
      · rw [pt_ge (by omega)]
        have h1 := ih m
        have h2 := ihm (m - (k + 1)) (by omega)
        rw [show m - min k m = m - (k + 1) + 1 by omega, Nat.pow_succ] at h1
        rw [show m - min (k + 1) m = m - (k + 1) by omega]
        have h3 : 1 ≤ 2 ^ (m - (k + 1) - min (k + 1) (m - (k + 1))) := Nat.one_le_two_pow
        omega
theorem pt_le (k m : Nat) : pt k m ≤ 2 ^ m := by
  have := pt_bd k m
  have : 1 ≤ 2 ^ (m - min k m) := Nat.one_le_two_pow
  omega
/-- The row while the parts of k + 1 are put in: up to m they are. -/
def ptr (k m j : Nat) : Nat := if j < m then pt (k + 1) j else pt k j
theorem ptr_start (k j : Nat) : ptr k (k + 1) j = pt k j := by
  unfold ptr; split
  · exact pt_lt (by omega)
  · rfl
theorem ptr_step {k m j : Nat} (h : k + 1 ≤ m) : ptr k (m + 1) j = if j = m then ptr k m m + ptr k m (m - (k + 1)) else ptr k m j := by
  by_cases e : j = m
  · subst e
    rw [if_pos rfl]
    unfold ptr
    rw [if_pos (by omega), if_neg (by omega), if_pos (by omega)]
    exact pt_ge h
  · rw [if_neg e]
    unfold ptr
    by_cases h2 : j < m
    · rw [if_pos h2, if_pos (by omega)]
    · rw [if_neg h2, if_neg (by omega)]
theorem ptr_end {k m j : Nat} (h : j < m) : ptr k m j = pt (k + 1) j := by unfold ptr; rw [if_pos h]
theorem ptr_le (k m j : Nat) : ptr k m j ≤ 2 ^ j := by unfold ptr; split <;> exact pt_le _ _

end PT
end Go.Proofs.YtcnfhndejkngkaaGreatDoor
end

section
/- A region that draws its order: by what holds in each of its states. -/
set_option linter.unusedSimpArgs false
set_option linter.unusedVariables false
set_option maxRecDepth 100000
namespace Go.Proofs.YtcnfhndejkngkaaGreatDoor
open Go.RowKit

section
variable {P : Program} {ops : Array Oper} {Q : Exit → Act → World → Prop} {md : Region.Mode} {S : World → Prop}

/-- What is asked of one operation in one state. -/
def StepG (P : Program) (ops : Array Oper) (Q : Exit → Act → World → Prop) (S : World → Prop) (g : Nat) (I : Nat → Array Bool → Act → World → Prop) (n : Nat) (l : Array Bool) (a : Act) (w : World) (i : Nat) : Prop :=
  ∃ o, ops[i]? = some o ∧ ∀ K' : Act → World → Prop, Hid (∀ a w, (l.getD g false = false → i ≠ g → S w) → I n (l.setIfInBounds i true) a w → K' a w) → if Region.wanted o (yielded ops a.tmps) = true then Oper.wp P o a w K' Q else K' (a.put o.dst undef) w

theorem wpAnyG_inv {g : Nat} (I : Nat → Array Bool → Act → World → Prop)
    (h : ∀ n l a w, I n l a w → (Region.ready md ops l = [] ∧ Q .normal a w) ∨ (∃ m L, n = m + 1 ∧ Region.ready md ops l = L ∧ L ≠ [] ∧ ∀ i ∈ L, StepG P ops Q S g I m l a w i)) :
    ∀ n l a w, I n l a w → wpAnyG P md ops Q S g n l a w := by
  intro n
  induction n with
  | zero =>
    intro l a w hi
    rcases h 0 l a w hi with h1 | ⟨m, L, h1, _⟩
    · exact h1
    · omega
  | succ n ih =>
    intro l a w hi
    rcases h (n + 1) l a w hi with ⟨h1, h2⟩ | ⟨m, L, h1, h2, h3, h4⟩
    · exact wpAnyG_done h1 h2 _
    · obtain rfl : n = m := by omega
      refine ⟨fun h0 => (h3 (h2.symm.trans h0)).elim, fun i hi' => ?_⟩
      rw [h2] at hi'
      obtain ⟨o, ho, hs⟩ := h4 i hi'
      exact wpOp_step ho fun K' hK => hs K' (fun a w h1 h2 => hK a w ⟨h1, ih _ _ _ h2⟩)
end
end Go.Proofs.YtcnfhndejkngkaaGreatDoor
end

section
/- The reference: PartitionsMany. Written by mkpt.py. -/
set_option linter.unusedSimpArgs false
set_option linter.unusedVariables false
set_option maxRecDepth 100000
namespace Go.Proofs.YtcnfhndejkngkaaGreatDoor
open Go.RowKit

theorem Tryz.infoPt : (Tryz.prog.info? 39).map (fun i => (i.zero, i.size, i.bytes)) = some (some (.pointer none), 1, 8) := by kernel_rfl
theorem cl_of_makeP {w w' : World} {n : Nat} (h : w'.ownsRow w.heap.size 39 1 (.slice (some ⟨w.heap.size, 0, none⟩) n n) n (madeCells #[Value.pointer none] n).toList) : Cl w.heap.size (List.replicate n (.pointer none)) 39 w' := by
  obtain ⟨h1, h2 | ⟨g, cap, cur, e1, e2, e3, e4, e5, e6, e7⟩⟩ := h
  · obtain ⟨h2, rfl⟩ := h2
    simp at h2
  · simp at e1
    obtain ⟨rfl, rfl⟩ := e1
    unfold Cl
    rw [e3]
    have : cur.toList = (madeCells #[Value.pointer none] n).toList := by
      rw [← e7, List.take_of_length_le (by simp; omega)]
    have e8 : cur = madeCells #[Value.pointer none] n := Array.toList_inj.1 this
    rw [e8]
    congr 2
    apply Array.ext
    · simp [madeCells]
    · intro i h1 h2
      simp [madeCells, Nat.mod_one]
def vcells (m : Nat) (c : Nat → Value) : List Value := (List.range m).map c
theorem vcells_len (m : Nat) (c : Nat → Value) : (vcells m c).length = m := by simp [vcells]
theorem vcells_at {m i : Nat} (c : Nat → Value) (h : i < m) : (vcells m c)[i]? = some (c i) := by simp [vcells, h]
theorem vcells_rep (m : Nat) (v : Value) : List.replicate m v = vcells m (fun _ => v) := by
  apply List.ext_getElem?
  intro i
  by_cases h : i < m
  · rw [vcells_at _ h, List.getElem?_replicate, if_pos h]
  · rw [List.getElem?_eq_none (by simp; omega), List.getElem?_eq_none (by rw [vcells_len]; omega)]
theorem vcells_set {m j : Nat} (c : Nat → Value) (v : Value) (h : j < m) : (vcells m c).set j v = vcells m (fun i => if i = j then v else c i) := by
  apply List.ext_getElem?
  intro i
  rw [List.getElem?_set]
  by_cases hj : j = i
  · subst hj
    rw [if_pos rfl, vcells_at _ h, vcells_len, if_pos h, if_pos rfl]
  · rw [if_neg hj]
    by_cases hi : i < m
    · rw [vcells_at _ hi, vcells_at _ hi, if_neg (fun e => hj e.symm)]
    · rw [List.getElem?_eq_none (by rw [vcells_len]; omega), List.getElem?_eq_none (by rw [vcells_len]; omega)]
/-- A number stays where a row of pointers is written. -/
theorem BigAt.setQ {W : World} {g b j : Nat} {C : List Value} {x : Int} (hC : Cl g C 39 W) (h : BigAt W b x) (v : Value) : BigAt (W.setCell ⟨g, j, none⟩ v) b x := by
  obtain ⟨s, h1, l, h2, h3⟩ := h
  have hg : W.heap[g]? = some (.cells C.toArray 39 (0, 0)) := hC
  refine ⟨s, ?_, l, ⟨h2.small, ?_⟩, h3⟩
  · rw [Below.heap_setCell _ _ _ _ (by show b ≠ g; intro e; subst e; rw [h1] at hg; simp at hg)]; exact h1
  · rcases h2.shape with h4 | ⟨g', cap, C', h4, h5, h6, h7⟩
    · exact .inl h4
    · refine .inr ⟨g', cap, C', h4, h5, ?_, h7⟩
      rw [Below.heap_setCell _ _ _ _ (by show g' ≠ g; intro e; subst e; rw [h6] at hg; simp at hg)]; exact h6

/-- The row of pointers, the first d of them to the numbers f. -/
structure Pp (w W : World) (g n d : Nat) (c : Nat → Value) (f : Nat → Nat) : Prop where
  row : Cl g (vcells (n + 1) c) 39 W
  num : ∀ j, j < d → ∃ b, c j = .pointer (some ⟨b, 0, none⟩) ∧ BigAt W b (f j : Nat)
  g0 : w.heap.size ≤ g
  k : Below w.heap.size w W
theorem Pp.below {w W W' : World} {g n d : Nat} {c : Nat → Value} {f : Nat → Nat} (h : Pp w W g n d c f) (k : Below W.heap.size W W') : Pp w W' g n d c f :=
  ⟨h.row.below k, fun j hj => by obtain ⟨b, h1, h2⟩ := h.num j hj; exact ⟨b, h1, h2.below k (Nat.le_refl _)⟩, h.g0, h.k.trans (k.mono h.k.size)⟩
/-- A new number is made and its place is written into the row. -/
theorem Pp.set {w W : World} {g n d j b x : Nat} {c : Nat → Value} {f : Nat → Nat} (h : Pp w W g n d c f) (hj : j ≤ n) (hb : BigAt W b (x : Nat)) : Pp w (W.setCell ⟨g, j, none⟩ (.pointer (some ⟨b, 0, none⟩))) g n d (fun i => if i = j then .pointer (some ⟨b, 0, none⟩) else c i) (fun i => if i = j then x else f i) := by
  refine ⟨?_, fun i hi => ?_, h.g0, h.k.setCell h.g0 _⟩
  · rw [← vcells_set _ _ (by omega)]; exact h.row.set j _
  · by_cases e : i = j
    · subst e
      exact ⟨b, if_pos rfl, by rw [if_pos rfl]; exact hb.setQ h.row _⟩
    · obtain ⟨b', h1, h2⟩ := h.num i hi
      exact ⟨b', by rw [if_neg e]; exact h1, by rw [if_neg e]; exact h2.setQ h.row _⟩
theorem Pp.more {w W : World} {g n d : Nat} {c : Nat → Value} {f : Nat → Nat} (h : Pp w W g n d c f) (hd : ∃ b, c d = .pointer (some ⟨b, 0, none⟩) ∧ BigAt W b (f d : Nat)) : Pp w W g n (d + 1) c f :=
  ⟨h.row, fun j hj => by
    by_cases e : j = d
    · subst e; exact hd
    · exact h.num j (by omega), h.g0, h.k⟩
theorem Pp.congr {w W : World} {g n d : Nat} {c : Nat → Value} {f f' : Nat → Nat} (h : Pp w W g n d c f) (e : ∀ j, j < d → f j = f' j) : Pp w W g n d c f' :=
  ⟨h.row, fun j hj => by rw [← e j hj]; exact h.num j hj, h.g0, h.k⟩
theorem two_pwT : (2 : Nat) ^ 2000 < pw 64 := by decide +kernel
theorem ptr_pw {k m j : Nat} (h : j ≤ 2000) : PT.ptr k m j < pw 64 := Nat.lt_of_le_of_lt (PT.ptr_le k m j) (Nat.lt_of_le_of_lt (Nat.pow_le_pow_right (by decide) h) two_pwT)

end Go.Proofs.YtcnfhndejkngkaaGreatDoor
end

section
/- The reference's DecimalOf. -/
set_option linter.unusedSimpArgs false
set_option linter.unusedVariables false
set_option maxRecDepth 100000
namespace Go.Proofs.YtcnfhndejkngkaaGreatDoor
open Go.RowKit LgM

theorem own_setO {B n size : Nat} {w : World} {v : Value} {xs : List Value} {e : TypeId} (h : w.ownsRow B e size v n xs) {p : Addr} (hp : p.block < B) (u : Value) : (w.setCell p u).ownsRow B e size v n xs := by
  refine ⟨h.1, ?_⟩
  rcases h.2 with hn | ⟨g, cap, cur, rfl, hb, hgg, rest⟩
  · exact .inl hn
  · exact .inr ⟨g, cap, cur, rfl, hb, (Below.heap_setCell _ _ _ _ (by intro e; subst e; omega)).trans hgg, rest⟩
namespace DC
/-- Where a rest was seen, behind n digits. -/
def sn (u d : Nat) : Nat → Nat → Int
  | 0 => fun _ => -1
  | n + 1 => fun i => if i = rs u d n then (n : Int) else sn u d n i
theorem sn_or (u d : Nat) : ∀ n i, (sn u d n i = -1 ∧ ∀ k, k < n → rs u d k ≠ i) ∨ ∃ k : Nat, k < n ∧ sn u d n i = (k : Int) ∧ rs u d k = i
  | 0, i => .inl ⟨rfl, fun k h => by omega⟩
  | n + 1, i => by
    by_cases e : i = rs u d n
    · exact .inr ⟨n, by omega, if_pos e, e.symm⟩
    · have e1 : sn u d (n + 1) i = sn u d n i := if_neg e
      rcases sn_or u d n i with ⟨h1, h2⟩ | ⟨k, h1, h2, h3⟩
      · refine .inl ⟨e1.trans h1, fun k hk => ?_⟩
        by_cases e2 : k = n
        · subst e2; exact fun e3 => e e3.symm
        · exact h2 k (by omega)
      · exact .inr ⟨k, by omega, e1.trans h2, h3⟩
end DC
def icells (N : Nat) (f : Nat → Int) : List Value := vcells N (fun i => .int .i64 (f i))
theorem icells_at {N i : Nat} (f : Nat → Int) (h : i < N) : (icells N f)[i]? = some (.int .i64 (f i)) := vcells_at _ h
theorem icells_set {N j : Nat} (f : Nat → Int) (x : Int) (h : j < N) : (icells N f).set j (.int .i64 x) = icells N (fun i => if i = j then x else f i) := by
  unfold icells
  rw [vcells_set _ _ h]
  congr 1
  funext i
  split <;> simp_all
theorem icells_congr {N : Nat} {f f' : Nat → Int} (h : ∀ i, i < N → f i = f' i) : icells N f = icells N f' := by
  apply List.ext_getElem?
  intro i
  by_cases e : i < N
  · rw [icells_at f e, icells_at f' e, h i e]
  · rw [List.getElem?_eq_none (by unfold icells; rw [vcells_len]; omega), List.getElem?_eq_none (by unfold icells; rw [vcells_len]; omega)]
theorem Tryz.infoIntD : (Tryz.prog.info? 3).map (fun i => (i.zero, i.size, i.bytes)) = some (some (.int .i64 0), 1, 8) := by kernel_rfl
theorem cl_of_makeD {w w' : World} {n : Nat} (h : w'.ownsRow w.heap.size 3 1 (.slice (some ⟨w.heap.size, 0, none⟩) n n) n (madeCells #[Value.int .i64 0] n).toList) : Cl w.heap.size (List.replicate n (.int .i64 0)) 3 w' := by
  obtain ⟨h1, h2 | ⟨g, cap, cur, e1, e2, e3, e4, e5, e6, e7⟩⟩ := h
  · obtain ⟨h2, rfl⟩ := h2
    simp at h2
  · simp at e1
    obtain ⟨rfl, rfl⟩ := e1
    unfold Cl
    rw [e3]
    have : cur.toList = (madeCells #[Value.int .i64 0] n).toList := by
      rw [← e7, List.take_of_length_le (by simp; omega)]
    have e8 : cur = madeCells #[Value.int .i64 0] n := Array.toList_inj.1 this
    rw [e8]
    congr 2
    apply Array.ext
    · simp [madeCells]
    · intro i h1 h2
      simp [madeCells, Nat.mod_one]
theorem own_anyD {B n : Nat} {w : World} {v : Value} {xs : List Value} {e : TypeId} (h : w.ownsRow B e 1 v n xs) : ∃ a cap, v = .slice a n cap := by
  rcases h.2 with ⟨h1, h2⟩ | ⟨g, cap, cur, h1, _⟩
  · exact ⟨none, 0, by rw [h1, h2]⟩
  · exact ⟨_, cap, h1⟩
/-- The row of what was seen; the digits. -/
structure Dq (x y : Int) (N : Nat) (w W : World) (g : Nat) (f : Nat → Int) (v : Value) (n : Nat) (cs : List UInt8) : Prop where
  xs : Cl w.heap.size [.int .i64 x, .int .i64 y] 23 W
  row : Cl g (icells N f) 3 W
  dig : W.ownsRow (g + 1) 5 1 v n (u8s cs)
  g0 : w.heap.size < g
  k : Below w.heap.size w W
theorem Dq.set {x y : Int} {N n : Nat} {w W : World} {g : Nat} {f : Nat → Int} {v : Value} {cs : List UInt8} (h : Dq x y N w W g f v n cs) {j : Nat} (hj : j < N) (z : Int) : Dq x y N w (W.setCell ⟨g, j, none⟩ (.int .i64 z)) g (fun i => if i = j then z else f i) v n cs := by
  have hne : w.heap.size ≠ g := by have := h.g0; omega
  refine ⟨h.xs.other hne _, ?_, own_setO h.dig (Nat.lt_succ_self g) _, h.g0, h.k.setCell (by have := h.g0; show w.heap.size ≤ g; omega) _⟩
  rw [← icells_set f z hj]
  exact h.row.set j _
theorem Dq.congr {x y : Int} {N n : Nat} {w W : World} {g : Nat} {f f' : Nat → Int} {v : Value} {cs : List UInt8} (h : Dq x y N w W g f v n cs) (e : ∀ i, i < N → f i = f' i) : Dq x y N w W g f' v n cs :=
  ⟨h.xs, by rw [← icells_congr e]; exact h.row, h.dig, h.g0, h.k⟩
/-- A digit is put behind the digits. -/
theorem Dq.more {x y : Int} {N n : Nat} {w W W' : World} {g : Nat} {f : Nat → Int} {v v' : Value} {cs : List UInt8} {c : UInt8} (h : Dq x y N w W g f v n cs) (o : Obj) (hown : W'.ownsRow (g + 1) 5 1 v' (n + 1) (u8s cs ++ [.int .u8 (c.toNat : Int)])) (hgrow : (W.alloc o).grownBy W' v.ownBlock) : Dq x y N w W' g f v' (n + 1) (cs ++ [c]) := by
  have hl : ∀ j, v.ownBlock = some j → g + 1 ≤ j := fun j hj => (h.dig.lt j hj).1
  refine ⟨(h.xs.alloc o).grown hgrow (fun e => by have := hl _ e; have := h.g0; omega), (h.row.alloc o).grown hgrow (fun e => by have := hl _ e; omega), ?_, h.g0, (Below.alloc h.k h.k.size o).grown hgrow (by have := h.k.size; simp; omega) (fun j hj => by have := hl j hj; have := h.g0; omega)⟩
  rw [u8s, List.map_append]
  exact hown
end Go.Proofs.YtcnfhndejkngkaaGreatDoor
end
