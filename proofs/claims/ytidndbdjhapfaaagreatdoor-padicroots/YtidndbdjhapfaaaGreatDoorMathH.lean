/- Plain facts: Jacobi's symbol as it is reckoned by taking out 2 and turning round, and what follows of it. -/
set_option linter.unusedVariables false
set_option maxRecDepth 100000
namespace Go.Proofs.YtidndbdjhapfaaaGreatDoor

/-- The symbol of 2. -/
def twoS (n : Nat) : Int := if n % 8 = 3 ∨ n % 8 = 5 then -1 else 1
/-- The sign of turning round. -/
def sgnS (a n : Nat) : Int := if a % 4 = 3 ∧ n % 4 = 3 then -1 else 1

def jac (a n : Nat) : Int :=
  if h0 : a = 0 then (if n = 1 then 1 else 0)
  else if a % 2 = 0 then twoS n * jac (a / 2) n
  else sgnS a n * jac (n % a) a
termination_by a
decreasing_by
  · omega
  · exact Nat.mod_lt _ (by omega)

theorem jac_zero (n : Nat) : jac 0 n = if n = 1 then 1 else 0 := by rw [jac]; simp
theorem jac_even (a n : Nat) (h0 : a ≠ 0) (h : a % 2 = 0) : jac a n = twoS n * jac (a / 2) n := by rw [jac]; simp [h0, h]
theorem jac_odd (a n : Nat) (h : a % 2 = 1) : jac a n = sgnS a n * jac (n % a) a := by
  rw [jac, dif_neg (by omega), if_neg (by omega)]

theorem twoS_sq (n : Nat) : twoS n = 1 ∨ twoS n = -1 := by unfold twoS; split <;> simp
theorem sgnS_sq (a n : Nat) : sgnS a n = 1 ∨ sgnS a n = -1 := by unfold sgnS; split <;> simp

/-- It is 1 or -1 of numbers without a common divisor, else 0. -/
theorem jac_unit (a : Nat) : ∀ n, n % 2 = 1 → (Nat.gcd a n = 1 → jac a n = 1 ∨ jac a n = -1) ∧ (Nat.gcd a n ≠ 1 → jac a n = 0) := by
  induction a using Nat.strongRecOn with
  | ind a ih =>
    intro n hn
    by_cases h0 : a = 0
    · subst h0
      rw [jac_zero, Nat.gcd_zero_left]
      constructor
      · intro h; rw [if_pos h]; exact .inl rfl
      · intro h; rw [if_neg h]
    · by_cases h2 : a % 2 = 0
      · obtain ⟨h3, h4⟩ := ih (a / 2) (by omega) n hn
        have hc : Nat.gcd 2 n = 1 := by
          rw [Nat.gcd_rec, show n % 2 = 1 from hn]; rfl
        have hg : Nat.gcd a n = Nat.gcd (a / 2) n := by
          have e : a = 2 * (a / 2) := by omega
          conv => lhs; rw [e]
          exact Nat.Coprime.gcd_mul_left_cancel (a / 2) hc
        rw [jac_even a n h0 h2, hg]
        constructor
        · intro h
          rcases twoS_sq n with e | e <;> rcases h3 h with f | f <;> rw [e, f] <;> simp
        · intro h; rw [h4 h]; simp
      · have hodd : a % 2 = 1 := by omega
        obtain ⟨h3, h4⟩ := ih (n % a) (Nat.mod_lt _ (by omega)) a hodd
        have hg : Nat.gcd a n = Nat.gcd (n % a) a := Nat.gcd_rec a n
        rw [jac_odd a n hodd, hg]
        constructor
        · intro h
          rcases sgnS_sq a n with e | e <;> rcases h3 h with f | f <;> rw [e, f] <;> simp
        · intro h; rw [h4 h]; simp

theorem jac_one (n : Nat) : jac 1 n = 1 := by
  rw [jac_odd 1 n rfl, Nat.mod_one, jac_zero]
  simp [sgnS]
theorem jac_one_mod (n : Nat) (h : 1 ≤ n) : jac (1 % n) n = 1 := by
  by_cases h1 : n = 1
  · subst h1; rw [Nat.mod_one, jac_zero]; rfl
  · rw [Nat.mod_eq_of_lt (by omega), jac_one]

theorem jac_two (n : Nat) (h : n % 2 = 1) : jac (2 % n) n = twoS n := by
  by_cases h1 : n = 1
  · subst h1; rw [Nat.mod_one, jac_zero]; rfl
  · rw [Nat.mod_eq_of_lt (by omega), jac_even 2 n (by omega) rfl, show 2 / 2 = 1 from rfl, jac_one]; omega

/-- GAUSS: turning round. -/
theorem jac_turn (m n : Nat) (hm : m % 2 = 1) (hn : n % 2 = 1) : jac (m % n) n = sgnS m n * jac (n % m) m := by
  have key : ∀ m n : Nat, m % 2 = 1 → n % 2 = 1 → m < n → jac (m % n) n = sgnS m n * jac (n % m) m := fun m n h1 h2 h => by
    rw [Nat.mod_eq_of_lt h, jac_odd m n h1]
  rcases Nat.lt_trichotomy m n with h | h | h
  · exact key m n hm hn h
  · subst h
    by_cases h1 : m = 1
    · subst h1; simp [jac_zero, sgnS]
    · rw [Nat.mod_self, jac_zero, if_neg h1]; simp
  · have := key n m hn hm h
    have hs : sgnS n m = sgnS m n := by unfold sgnS; simp [and_comm]
    rw [hs] at this
    rw [this]
    rcases sgnS_sq m n with e | e <;> rw [e] <;> omega

/-- 2 is taken out so often. -/
theorem jac_out (s : Nat) : ∀ m n, 0 < m → jac (2 ^ s * m) n = twoS n ^ s * jac m n := by
  induction s with
  | zero => intro m n h; simp
  | succ s ih =>
    intro m n h
    have hp : 0 < 2 ^ s := Nat.pow_pos (by omega)
    have e : 2 ^ (s + 1) * m = 2 * (2 ^ s * m) := by rw [Nat.pow_succ]; simp [Nat.mul_comm, Nat.mul_left_comm]
    have hpos : 0 < 2 ^ s * m := Nat.mul_pos hp h
    rw [e, jac_even _ n (by omega) (by omega), show 2 * (2 ^ s * m) / 2 = 2 ^ s * m by omega, ih m n h, Int.pow_succ, Int.mul_comm (twoS n ^ s) (twoS n), Int.mul_assoc]

theorem two_part (k : Nat) (h : 0 < k) : ∃ s m, k = 2 ^ s * m ∧ m % 2 = 1 := by
  induction k using Nat.strongRecOn with
  | ind k ih =>
    by_cases h2 : k % 2 = 1
    · exact ⟨0, k, by simp, h2⟩
    · obtain ⟨s, m, e, hm⟩ := ih (k / 2) (by omega) (by omega)
      exact ⟨s + 1, m, by rw [Nat.pow_succ, Nat.mul_right_comm, ← e]; omega, hm⟩

theorem jac_less (n : Nat) (h : n % 2 = 1) : jac (n - 1) n = if n % 4 = 1 then 1 else -1 := by
  by_cases h1 : n = 1
  · subst h1; rw [show 1 - 1 = 0 from rfl, jac_zero]; rfl
  · obtain ⟨s, m, e, hm⟩ := two_part (n - 1) (by omega)
    have hm0 : 0 < m := by omega
    have hmod : n % m = 1 % m := by
      have : n = 1 + m * 2 ^ s := by rw [Nat.mul_comm, ← e]; omega
      rw [this, Nat.add_mul_mod_self_left]
    rw [e, jac_out s m n hm0, jac_odd m n hm, hmod, jac_one_mod m (by omega), Int.mul_one]
    match s, e with
    | 0, e => simp at e; omega
    | 1, e =>
      rw [Int.pow_succ, Int.pow_zero, Int.one_mul]
      have e2 : n = 2 * m + 1 := by simp at e; omega
      unfold twoS sgnS
      rcases (show m % 4 = 1 ∨ m % 4 = 3 by omega) with h4 | h4
      · rw [if_pos (by omega), if_neg (by omega), if_neg (by omega)]; rfl
      · rw [if_neg (by omega), if_pos (by omega), if_neg (by omega)]; rfl
    | 2, e =>
      have e2 : n = 4 * m + 1 := by simp at e; omega
      have hs : sgnS m n = 1 := by unfold sgnS; rw [if_neg (by omega)]
      rw [hs, if_pos (by omega)]
      rcases twoS_sq n with h3 | h3 <;> rw [h3] <;> rfl
    | s + 3, e =>
      have e2 : n = 8 * (2 ^ s * m) + 1 := by
        have e3 : 2 ^ (s + 3) * m = 8 * (2 ^ s * m) := by rw [Nat.pow_add, Nat.mul_comm (2 ^ s), Nat.mul_assoc]
        omega
      have hs : sgnS m n = 1 := by unfold sgnS; rw [if_neg (by omega)]
      have ht : twoS n = 1 := by unfold twoS; rw [if_neg (by omega)]
      rw [hs, ht, if_pos (by omega), Int.one_pow]; rfl

end Go.Proofs.YtidndbdjhapfaaaGreatDoor
