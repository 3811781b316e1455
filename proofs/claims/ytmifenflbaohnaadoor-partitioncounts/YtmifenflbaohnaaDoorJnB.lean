import Derived.Test.YtmifenflbaohnaaDoorRows
section
/- Plain facts: how many partitions a number has, by parts of at most k. -/
set_option linter.unusedSimpArgs false
set_option linter.unusedVariables false
set_option maxRecDepth 100000
namespace Go.Proofs.YtmifenflbaohnaaDoor
namespace PT

/-- Partitions of m into parts of at most k. -/
def pt : Nat → Nat → Nat
  | 0, m => if m = 0 then 1 else 0
  | k + 1, m => if h : m < k + 1 then pt k m else pt k m + pt (k + 1) (m - (k + 1))
termination_by k m => (k, m)
theorem pt_lt {k m : Nat} (h : m < k + 1) : pt (k + 1) m = pt k m := by rw [pt, dif_pos h]
theorem pt_ge {k m : Nat} (h : k + 1 ≤ m) : pt (k + 1) m = pt k m + pt (k + 1) (m - (k + 1)) := by rw [pt, dif_neg (by omega)]
theorem pt_null (m : Nat) : pt 0 m = if m = 0 then 1 else 0 := by rw [pt]
theorem pt_bd : ∀ k m, pt k m + 2 ^ (m - min k m) ≤ 2 ^ m + 1 := by
  intro k
  induction k with
  | zero =>
    intro m
    rw [pt_null]
    split
    · next h => subst h; decide
    · rw [show m - min 0 m = m by omega]; omega
  | succ k ih =>
    intro m
    induction m using Nat.strongRecOn with
    | ind m ihm =>
      by_cases h : m < k + 1
      · rw [pt_lt h]
        have := ih m
        rw [show m - min k m = 0 by omega] at this
        rw [show m - min (k + 1) m = 0 by omega]
        exact this
      · rw [pt_ge (by omega)]
        have h1 := ih m
        have h2 := ihm (m - (k + 1)) (by omega)
        rw [show m - min k m = m - (k + 1) + 1 by omega, Nat.pow_succ] at h1
        rw [show m - min (k + 1) m = m - (k + 1) by omega]
        have h3 : 1 ≤ 2 ^ (m - (k + 1) - min (k + 1) (m - (k + 1))) := Nat.one_le_two_pow
        omega
theorem pt_le (k m : Nat) : pt k m ≤ 2 ^ m := by
  have := pt_bd k m
  have : 1 ≤ 2 ^ (m - min k m) := Nat.one_le_two_pow
  omega
/-- The row while the parts of k + 1 are put in: up to m they are. -/
def ptr (k m j : Nat) : Nat := if j < m then pt (k + 1) j else pt k j
theorem ptr_start (k j : Nat) : ptr k (k + 1) j = pt k j := by
  unfold ptr; split
  · exact pt_lt (by omega)
  · rfl
theorem ptr_step {k m j : Nat} (h : k + 1 ≤ m) : ptr k (m + 1) j = if j = m then ptr k m m + ptr k m (m - (k + 1)) else ptr k m j := by
  by_cases e : j = m
  · subst e
    rw [if_pos rfl]
    unfold ptr
    rw [if_pos (by omega), if_neg (by omega), if_pos (by omega)]
    exact pt_ge h
  · rw [if_neg e]
    unfold ptr
    by_cases h2 : j < m
    · rw [if_pos h2, if_pos (by omega)]
    · rw [if_neg h2, if_neg (by omega)]
theorem ptr_end {k m j : Nat} (h : j < m) : ptr k m j = pt (k + 1) j := by unfold ptr; rw [if_pos h]
theorem ptr_le (k m j : Nat) : ptr k m j ≤ 2 ^ j := by unfold ptr; split <;> exact pt_le _ _

end PT
end Go.Proofs.YtmifenflbaohnaaDoor
end

section
/- Plain facts: the numbers of partitions up to 2000 as the digits of one great number; Ramanujan's congruences, gone through by the kernel. -/
set_option linter.unusedSimpArgs false
set_option linter.unusedVariables false
set_option maxRecDepth 100000
namespace Go.Proofs.YtmifenflbaohnaaDoor
namespace PT

/-- The sum of pt k m X^m over m below N. -/
def vv (X k : Nat) : Nat → Nat
  | 0 => 0
  | n + 1 => vv X k n + pt k n * X ^ n
theorem pt_same : ∀ k m, m ≤ k → pt k m = pt m m := by
  intro k
  induction k with
  | zero => intro m h; rw [show m = 0 by omega]
  | succ k ih =>
    intro m h
    rcases Nat.lt_or_ge m (k + 1) with h1 | h1
    · rw [pt_lt h1, ih m (by omega)]
    · rw [show m = k + 1 by omega]
theorem vv_step (X k : Nat) : ∀ n, ∃ q, vv X (k + 1) n + X ^ n * q = vv X k n + X ^ (k + 1) * vv X (k + 1) n := by
  intro n
  induction n with
  | zero => exact ⟨0, by simp [vv]⟩
  | succ n ih =>
    obtain ⟨q, hq⟩ := ih
    rcases Nat.lt_or_ge n (k + 1) with h | h
    · -- nothing is shifted in yet
      have e : ∀ j, j ≤ n + 1 → vv X (k + 1) j = vv X k j := by
        intro j
        induction j with
        | zero => intro _; rfl
        | succ j ihj => intro hj; rw [vv, vv, ihj (by omega), pt_lt (by omega)]
      rw [e (n + 1) (Nat.le_refl _)]
      refine ⟨X ^ (k + 1 - (n + 1)) * vv X k (n + 1), ?_⟩
      rw [← Nat.mul_assoc, ← Nat.pow_add, show n + 1 + (k + 1 - (n + 1)) = k + 1 by omega]
    · -- what is shifted in up to n is known
      have key : ∀ j, vv X (k + 1) (j + (k + 1)) = vv X k (j + (k + 1)) + X ^ (k + 1) * vv X (k + 1) j := by
        intro j
        induction j with
        | zero =>
          have e : ∀ j, j ≤ k + 1 → vv X (k + 1) j = vv X k j := by
            intro j
            induction j with
            | zero => intro _; rfl
            | succ j ihj => intro hj; rw [vv, vv, ihj (by omega), pt_lt (by omega)]
          rw [Nat.zero_add, e (k + 1) (Nat.le_refl _)]; simp [vv]
        | succ j ihj =>
          rw [show j + 1 + (k + 1) = (j + (k + 1)) + 1 by omega, vv, ihj, vv, vv, pt_ge (by omega), show j + (k + 1) - (k + 1) = j by omega, Nat.add_mul, Nat.mul_add]
          have e2 : pt (k + 1) j * X ^ (j + (k + 1)) = X ^ (k + 1) * (pt (k + 1) j * X ^ j) := by
            rw [Nat.pow_add X j, ← Nat.mul_assoc, Nat.mul_comm (X ^ (k + 1))]
          rw [e2]
          omega
      obtain ⟨j, hj⟩ : ∃ j, n + 1 = j + (k + 1) := ⟨n + 1 - (k + 1), by omega⟩
      -- the tail beyond j is a multiple
      have tail : ∀ a b, ∃ q, vv X (k + 1) (a + b) = vv X (k + 1) a + X ^ a * q := by
        intro a b
        induction b with
        | zero => exact ⟨0, by simp⟩
        | succ b ihb =>
          obtain ⟨q, hq⟩ := ihb
          refine ⟨q + pt (k + 1) (a + b) * X ^ b, ?_⟩
          rw [show a + (b + 1) = (a + b) + 1 by omega, vv, hq, Nat.mul_add, Nat.pow_add]
          have : X ^ a * (pt (k + 1) (a + b) * X ^ b) = pt (k + 1) (a + b) * (X ^ a * X ^ b) := by rw [← Nat.mul_assoc, Nat.mul_comm (X ^ a), Nat.mul_assoc]
          omega
      obtain ⟨q, hq⟩ := tail j (k + 1)
      refine ⟨q, ?_⟩
      rw [hj, hq, Nat.mul_add, ← Nat.mul_assoc, ← Nat.pow_add]
      have := key j
      rw [hq] at this
      rw [show k + 1 + j = j + (k + 1) by omega]
      omega
/-- The same by one product: E is (X^(s t) - 1) / (X^s - 1). -/
theorem vv_next {X k n t E : Nat} (ht : n ≤ (k + 1) * t) (hE : E * (X ^ (k + 1) - 1) + 1 = X ^ ((k + 1) * t)) (hX : 1 ≤ X) : (vv X k n * E) % X ^ n = vv X (k + 1) n % X ^ n := by
  obtain ⟨q, hq⟩ := vv_step X k n
  have h1 : 1 ≤ X ^ (k + 1) := Nat.pow_pos hX
  obtain ⟨D, hD⟩ : ∃ D, X ^ (k + 1) = D + 1 := ⟨X ^ (k + 1) - 1, by omega⟩
  have h2 : X ^ n ∣ X ^ ((k + 1) * t) := Nat.pow_dvd_pow X ht
  obtain ⟨r, hr⟩ := h2
  rw [hD, Nat.add_sub_cancel, hr] at hE
  rw [hD] at hq
  -- V' + M q = V + (D + 1) V', so M q = V + D V'
  have e1 : vv X k n + D * vv X (k + 1) n = X ^ n * q := by
    have : (D + 1) * vv X (k + 1) n = D * vv X (k + 1) n + vv X (k + 1) n := by rw [Nat.add_mul, Nat.one_mul]
    omega
  -- V E + (E D) V' = M q E, and E D = M r - 1
  have e2 : vv X k n * E + E * D * vv X (k + 1) n = X ^ n * (q * E) := by
    have := congrArg (· * E) e1
    simp only [Nat.add_mul] at this
    rw [Nat.mul_assoc (X ^ n)] at this
    rw [← this]
    congr 1
    rw [Nat.mul_comm E D, Nat.mul_assoc, Nat.mul_assoc, Nat.mul_comm E]
  have e3 : E * D * vv X (k + 1) n + vv X (k + 1) n = X ^ n * (r * vv X (k + 1) n) := by
    have : (E * D + 1) * vv X (k + 1) n = X ^ n * r * vv X (k + 1) n := by rw [hE]
    rw [Nat.add_mul, Nat.one_mul, Nat.mul_assoc (X ^ n)] at this
    exact this
  have e4 : vv X k n * E + X ^ n * (r * vv X (k + 1) n) = vv X (k + 1) n + X ^ n * (q * E) := by omega
  have e5 := congrArg (· % X ^ n) e4
  simp only [Nat.add_mul_mod_self_left] at e5
  exact e5

/-- All of them are small: pt k m a^m S <= g b^m. -/
theorem pt_bound {a b S : Nat} (hab : a ≤ b) : ∀ (g : Nat → Nat) (K : Nat), S ≤ g 0 → (∀ k, k < K → g k * b ^ (k + 1) + g (k + 1) * a ^ (k + 1) ≤ g (k + 1) * b ^ (k + 1)) → (∀ k, k < K → g k ≤ g (k + 1)) → ∀ k, k ≤ K → ∀ m, pt k m * a ^ m * S ≤ g k * b ^ m := by
  intro g K h0 hs hm k
  induction k with
  | zero =>
    intro _ m
    rw [pt_null]
    split
    · next h => subst h; simpa using h0
    · simp
  | succ k ih =>
    intro hk m
    have ih := ih (by omega)
    induction m using Nat.strongRecOn with
    | ind m ihm =>
      rcases Nat.lt_or_ge m (k + 1) with h | h
      · rw [pt_lt h]
        exact Nat.le_trans (ih m) (Nat.mul_le_mul_right _ (hm k (by omega)))
      · obtain ⟨j, rfl⟩ : ∃ j, m = j + (k + 1) := ⟨m - (k + 1), by omega⟩
        rw [pt_ge h, Nat.add_sub_cancel, Nat.add_mul, Nat.add_mul]
        have i1 := ih (j + (k + 1))
        have i2 := ihm j (by omega)
        have i3 : pt (k + 1) j * a ^ (j + (k + 1)) * S ≤ g (k + 1) * b ^ j * a ^ (k + 1) := by
          have := Nat.mul_le_mul_right (a ^ (k + 1)) i2
          rw [Nat.pow_add]
          calc pt (k + 1) j * (a ^ j * a ^ (k + 1)) * S = pt (k + 1) j * a ^ j * S * a ^ (k + 1) := by
                rw [← Nat.mul_assoc, Nat.mul_right_comm]
            _ ≤ _ := this
        have i4 : g k * b ^ (j + (k + 1)) + g (k + 1) * b ^ j * a ^ (k + 1) ≤ g (k + 1) * b ^ (j + (k + 1)) := by
          have := Nat.mul_le_mul_left (b ^ j) (hs k (by omega))
          rw [Nat.pow_add]
          calc g k * (b ^ j * b ^ (k + 1)) + g (k + 1) * b ^ j * a ^ (k + 1) = b ^ j * (g k * b ^ (k + 1) + g (k + 1) * a ^ (k + 1)) := by
                rw [Nat.mul_add, ← Nat.mul_assoc (b ^ j), ← Nat.mul_assoc (b ^ j), Nat.mul_comm (b ^ j) (g k), Nat.mul_comm (b ^ j) (g (k + 1)), Nat.mul_assoc (g k)]
            _ ≤ b ^ j * (g (k + 1) * b ^ (k + 1)) := this
            _ = _ := by rw [← Nat.mul_assoc, Nat.mul_comm (b ^ j), Nat.mul_assoc]
        omega
/-- Digits below X. -/
theorem vv_lt {X k : Nat} (hX : 1 ≤ X) : ∀ n, (∀ m, m < n → pt k m < X) → vv X k n < X ^ n
  | 0, _ => by simp [vv]
  | n + 1, h => by
    have h1 := vv_lt hX n (fun m hm => h m (by omega))
    have h2 := h n (by omega)
    have h3 : (pt k n + 1) * X ^ n ≤ X * X ^ n := Nat.mul_le_mul_right _ h2
    rw [vv, Nat.pow_succ, Nat.mul_comm (X ^ n)]
    rw [Nat.add_mul, Nat.one_mul] at h3
    omega
theorem vv_digit {X k : Nat} (hX : 1 ≤ X) {N : Nat} (h : ∀ m, m < N → pt k m < X) : ∀ n m, n ≤ N → m < n → vv X k n / X ^ m % X = pt k m := by
  intro n
  induction n with
  | zero => intro m _ h; omega
  | succ n ih =>
    intro m hn hm
    have hp : 0 < X ^ m := Nat.pow_pos hX
    rw [vv]
    by_cases e : m = n
    · subst e
      have h1 := vv_lt hX m (fun j hj => h j (by omega))
      rw [Nat.add_mul_div_right _ _ hp, Nat.div_eq_of_lt h1, Nat.zero_add, Nat.mod_eq_of_lt (h m (by omega))]
    · have e1 : pt k n * X ^ n = X ^ m * (pt k n * X ^ (n - m)) := by
        rw [← Nat.mul_assoc, Nat.mul_comm (X ^ m), Nat.mul_assoc, ← Nat.pow_add, show m + (n - m) = n by omega]
      rw [e1, Nat.add_mul_div_left _ _ hp]
      obtain ⟨d, hd⟩ : ∃ d, n - m = d + 1 := ⟨n - m - 1, by omega⟩
      rw [hd, Nat.pow_succ, ← Nat.mul_assoc, Nat.add_mul_mod_self_right]
      exact ih m (by omega) (by omega)

end PT
end Go.Proofs.YtmifenflbaohnaaDoor
end

section
/- The kernel: the numbers of partitions up to 2000, Ramanujan's congruences. -/
set_option linter.unusedSimpArgs false
set_option linter.unusedVariables false
set_option maxRecDepth 100000
namespace Go.Proofs.YtmifenflbaohnaaDoor
namespace PT

def st (v : Nat) (f : Nat → Nat) : Nat := Nat.rec (motive := fun _ => Nat) (f 0) (fun n _ => f (n + 1)) v
theorem st_eq (v : Nat) (f : Nat → Nat) : st v f = f v := by cases v <;> rfl
def stB (v : Nat) (f : Nat → Bool) : Bool := Nat.rec (motive := fun _ => Bool) (f 0) (fun n _ => f (n + 1)) v
theorem stB_eq (v : Nat) (f : Nat → Bool) : stB v f = f v := by cases v <;> rfl

/-- The bounds. -/
def gk : Nat → Nat
  | 0 => 18446744073709551616
  | k + 1 => gk k * 35 ^ (k + 1) / (35 ^ (k + 1) - 34 ^ (k + 1)) + 1
theorem pow_lt' (k : Nat) : 34 ^ (k + 1) < 35 ^ (k + 1) := Nat.pow_lt_pow_left (by decide) (by omega)
theorem gk_step (k : Nat) : gk k * 35 ^ (k + 1) + gk (k + 1) * 34 ^ (k + 1) ≤ gk (k + 1) * 35 ^ (k + 1) := by
  have h := pow_lt' k
  obtain ⟨d, hd⟩ : ∃ d, 35 ^ (k + 1) - 34 ^ (k + 1) = d := ⟨_, rfl⟩
  have h2 : 35 ^ (k + 1) = 34 ^ (k + 1) + d := by omega
  have h3 : gk k * 35 ^ (k + 1) ≤ gk (k + 1) * d := by
    show _ ≤ (gk k * 35 ^ (k + 1) / (35 ^ (k + 1) - 34 ^ (k + 1)) + 1) * d
    rw [hd]
    have := Nat.lt_div_mul_add (a := gk k * 35 ^ (k + 1)) (b := d) (by omega)
    rw [Nat.add_mul, Nat.one_mul]; omega
  have h4 : gk (k + 1) * 35 ^ (k + 1) = gk (k + 1) * 34 ^ (k + 1) + gk (k + 1) * d := by rw [h2, Nat.mul_add]
  omega
theorem gk_mono (k : Nat) : gk k ≤ gk (k + 1) := by
  have h := gk_step k
  have h1 : 0 < 35 ^ (k + 1) := Nat.pow_pos (by decide)
  have h2 : gk k * 35 ^ (k + 1) ≤ gk (k + 1) * 35 ^ (k + 1) := by omega
  exact Nat.le_of_mul_le_mul_right h2 h1
theorem gk_le {j k : Nat} (h : j ≤ k) : gk j ≤ gk k := by
  induction k with
  | zero => rw [show j = 0 by omega]; exact Nat.le_refl _
  | succ k ih =>
    rcases Nat.lt_or_ge j (k + 1) with q | q
    · exact Nat.le_trans (ih (by omega)) (gk_mono k)
    · rw [show j = k + 1 by omega]; exact Nat.le_refl _
def glp : Nat → Nat → Nat → Nat → Nat
  | 0, g, _, _ => g
  | f + 1, g, A, B => st (A * 34) fun A' => st (B * 35) fun B' => st (g * B' / (B' - A') + 1) fun g' => glp f g' A' B'
theorem glp_eq : ∀ f k, glp f (gk k) (34 ^ k) (35 ^ k) = gk (k + f)
  | 0, k => rfl
  | f + 1, k => by
    rw [glp, st_eq, st_eq, st_eq]
    have := glp_eq f (k + 1)
    rw [show k + 1 + f = k + (f + 1) by omega] at this
    rw [← this]
    congr 1
def Xb : Nat := 95780971304118053647396689196894323976171195136475136
theorem Xb_eq : Xb = 2 ^ 176 := by decide +kernel
theorem g_last : Nat.blt (glp 2000 18446744073709551616 1 1 * 35 ^ 2000) (Xb * 34 ^ 2000 * 18446744073709551616) = true := by decide +kernel
theorem pt_X {k m : Nat} (hk : k ≤ 2000) (hm : m ≤ 2000) : pt k m < Xb := by
  have h1 := pt_bound (a := 34) (b := 35) (S := 18446744073709551616) (by decide) gk 2000 (Nat.le_refl _) (fun k _ => gk_step k) (fun k _ => gk_mono k) k hk m
  have h2 := gk_le hk
  have h3 : glp 2000 18446744073709551616 1 1 = gk 2000 := by
    have := glp_eq 2000 0
    rw [Nat.zero_add] at this
    exact this
  have h4 := g_last
  rw [h3] at h4
  have h5 : gk 2000 * 35 ^ 2000 < Xb * 34 ^ 2000 * 18446744073709551616 := by
    have := h4
    unfold Nat.blt at this
    exact Nat.le_of_ble_eq_true this
  -- (35/34)^m is at most (35/34)^2000
  have h6 : 35 ^ m * 34 ^ (2000 - m) ≤ 35 ^ m * 35 ^ (2000 - m) := Nat.mul_le_mul_left _ (Nat.pow_le_pow_left (by decide) _)
  rw [← Nat.pow_add, show m + (2000 - m) = 2000 by omega] at h6
  have e34 : (34 : Nat) ^ 2000 = 34 ^ m * 34 ^ (2000 - m) := by rw [← Nat.pow_add, show m + (2000 - m) = 2000 by omega]
  rcases Nat.lt_or_ge (pt k m) Xb with q | q
  · exact q
  · exfalso
    have a1 : Xb * 34 ^ m * 18446744073709551616 ≤ gk 2000 * 35 ^ m := by
      refine Nat.le_trans (Nat.mul_le_mul_right _ (Nat.mul_le_mul_right _ q)) (Nat.le_trans h1 (Nat.mul_le_mul_right _ h2))
    have a2 := Nat.mul_le_mul_right (34 ^ (2000 - m)) a1
    have a3 : Xb * 34 ^ m * 18446744073709551616 * 34 ^ (2000 - m) = Xb * 34 ^ 2000 * 18446744073709551616 := by
      rw [e34, Nat.mul_right_comm, Nat.mul_assoc Xb]
    have a4 : gk 2000 * 35 ^ m * 34 ^ (2000 - m) ≤ gk 2000 * 35 ^ 2000 := by
      rw [Nat.mul_assoc]; exact Nat.mul_le_mul_left _ h6
    rw [a3] at a2
    exact absurd (Nat.lt_of_lt_of_le h5 (Nat.le_trans a2 a4)) (Nat.lt_irrefl _)

/-- The table. -/
def eE (N k : Nat) : Nat := (Xb ^ ((k + 1) * (N / (k + 1) + 1)) - 1) / (Xb ^ (k + 1) - 1)
def cl (N M : Nat) : Nat → Nat → Nat → Nat
  | 0, _, c => c
  | f + 1, k, c => st (eE N k) fun e => st (c * e % M) fun c' => cl N M f (k + 1) c'
theorem geo (D t : Nat) : ∃ E, E * D + 1 = (D + 1) ^ t := by
  induction t with
  | zero => exact ⟨0, by simp⟩
  | succ t ih =>
    obtain ⟨E, hE⟩ := ih
    refine ⟨E * (D + 1) + 1, ?_⟩
    rw [Nat.pow_succ, ← hE, Nat.add_mul, Nat.add_mul, Nat.one_mul, Nat.one_mul, Nat.mul_right_comm]
    omega
theorem Xb_one : 1 < Xb := by decide +kernel
theorem eE_eq (N k : Nat) : eE N k * (Xb ^ (k + 1) - 1) + 1 = Xb ^ ((k + 1) * (N / (k + 1) + 1)) := by
  have h1 : 1 < Xb ^ (k + 1) := Nat.one_lt_pow (by omega) Xb_one
  obtain ⟨D, hD⟩ : ∃ D, Xb ^ (k + 1) = D + 1 := ⟨Xb ^ (k + 1) - 1, by omega⟩
  obtain ⟨E, hE⟩ := geo D (N / (k + 1) + 1)
  unfold eE
  rw [Nat.pow_mul, hD, Nat.add_sub_cancel, ← hE, Nat.add_sub_cancel, Nat.mul_div_cancel _ (by omega)]
theorem cl_eq (N : Nat) : ∀ f k, cl N (Xb ^ N) f k (vv Xb k N % Xb ^ N) = vv Xb (k + f) N % Xb ^ N
  | 0, k => rfl
  | f + 1, k => by
    rw [cl, st_eq, st_eq]
    have e : vv Xb k N % Xb ^ N * eE N k % Xb ^ N = vv Xb (k + 1) N % Xb ^ N := by
      rw [Nat.mod_mul_mod]
      refine vv_next (t := N / (k + 1) + 1) ?_ (eE_eq N k) (Nat.le_of_lt Xb_one)
      have := Nat.div_add_mod N (k + 1)
      have := Nat.mod_lt N (show 0 < k + 1 by omega)
      rw [Nat.mul_add, Nat.mul_one]
      omega
    rw [e, cl_eq N f (k + 1), show k + 1 + f = k + (f + 1) by omega]
def okp (n p : Nat) : Bool :=
  (!Nat.beq (n % 5) 4 || Nat.beq (p % 5) 0) && ((!Nat.beq (n % 7) 5 || Nat.beq (p % 7) 0) && ((!Nat.beq (n % 11) 6 || Nat.beq (p % 11) 0) && ((!Nat.beq (n % 25) 24 || Nat.beq (p % 25) 0) && ((!Nat.beq (n % 49) 47 || Nat.beq (p % 49) 0) && ((!Nat.beq (n % 121) 116 || Nat.beq (p % 121) 0) && (!Nat.beq n 100 || Nat.beq p 190569292))))))
def ckR : Nat → Nat → Nat → Bool
  | 0, _, _ => true
  | f + 1, n, T => stB (T % Xb) fun p => okp n p && stB (T / Xb) fun T' => ckR f (n + 1) T'
theorem ckR_ok : ∀ f n T, ckR f n T = true → ∀ j, j < f → okp (n + j) (T / Xb ^ j % Xb) = true
  | 0, _, _, _, j, hj => by omega
  | f + 1, n, T, h, j, hj => by
    rw [ckR, stB_eq, stB_eq, Bool.and_eq_true] at h
    cases j with
    | zero => rw [Nat.pow_zero, Nat.div_one]; exact h.1
    | succ j =>
      have := ckR_ok f (n + 1) _ h.2 j (by omega)
      rw [Nat.pow_succ, Nat.mul_comm, ← Nat.div_div_eq_div_mul, show n + (j + 1) = n + 1 + j by omega]
      exact this
theorem chk_all : stB (Xb ^ 2001) (fun M => stB (cl 2001 M 2000 0 1) fun T => ckR 2001 0 T) = true := by decide +kernel
theorem vv_zero (X : Nat) : ∀ n, vv X 0 (n + 1) = 1
  | 0 => by simp [vv, pt_null]
  | n + 1 => by rw [vv, vv_zero X n, pt_null, if_neg (by omega)]; simp
/-- What the table says of every number up to 2000. -/
theorem pt_ok {n : Nat} (h : n ≤ 2000) : okp n (pt n n) = true := by
  obtain ⟨N, hN⟩ : ∃ N, N = 2001 := ⟨_, rfl⟩
  have h0 : stB (Xb ^ N) (fun M => stB (cl N M 2000 0 1) fun T => ckR 2001 0 T) = true := by rw [hN]; exact chk_all
  rw [stB_eq, stB_eq] at h0
  have h1 := cl_eq N 2000 0
  have hM : 1 < Xb ^ N := Nat.one_lt_pow (by omega) Xb_one
  have hz : vv Xb 0 N = 1 := by
    obtain ⟨k, hk⟩ : ∃ k, N = k + 1 := ⟨N - 1, by omega⟩
    rw [hk]; exact vv_zero Xb k
  rw [hz, Nat.mod_eq_of_lt hM, Nat.zero_add] at h1
  have hlt : ∀ m, m < N → pt 2000 m < Xb := fun m hm => pt_X (Nat.le_refl _) (by omega)
  rw [h1, Nat.mod_eq_of_lt (vv_lt (Nat.le_of_lt Xb_one) N hlt)] at h0
  have h2 := ckR_ok 2001 0 _ h0 n (by omega)
  rw [Nat.zero_add, vv_digit (Nat.le_of_lt Xb_one) hlt N n (Nat.le_refl _) (by omega), pt_same 2000 n h] at h2
  exact h2

end PT
end Go.Proofs.YtmifenflbaohnaaDoor
end

section
/- Plain facts: Euler's recurrence of the numbers of partitions, up to 2000, by one product in the kernel. -/
set_option linter.unusedSimpArgs false
set_option linter.unusedVariables false
set_option maxRecDepth 100000
namespace Go.Proofs.YtmifenflbaohnaaDoor
namespace PT

/-- A series' first terms. -/
def VV (X : Nat) (f : Nat → Nat) : Nat → Nat
  | 0 => 0
  | n + 1 => VV X f n + f n * X ^ n
theorem VV_vv (X k : Nat) : ∀ n, VV X (pt k) n = vv X k n
  | 0 => rfl
  | n + 1 => by rw [VV, vv, VV_vv X k n]
def shf (g : Nat) (f : Nat → Nat) (n : Nat) : Nat := if g ≤ n then f (n - g) else 0
theorem VV_low (X g : Nat) (f : Nat → Nat) : ∀ n, n ≤ g → VV X (shf g f) n = 0
  | 0, _ => rfl
  | n + 1, h => by rw [VV, VV_low X g f n (by omega), shf, if_neg (by omega)]; simp
theorem VV_up (X g : Nat) (f : Nat → Nat) : ∀ j, VV X (shf g f) (j + g) = X ^ g * VV X f j
  | 0 => by rw [Nat.zero_add, VV_low X g f g (Nat.le_refl _)]; simp [VV]
  | j + 1 => by
    rw [show j + 1 + g = (j + g) + 1 by omega, VV, VV_up X g f j, VV, shf, if_pos (by omega), Nat.add_sub_cancel, Nat.mul_add, Nat.pow_add]
    congr 1
    rw [← Nat.mul_assoc, Nat.mul_comm (X ^ g)]
theorem VV_tail (X : Nat) (f : Nat → Nat) (a : Nat) : ∀ b, ∃ q, VV X f (a + b) = VV X f a + X ^ a * q
  | 0 => ⟨0, by simp⟩
  | b + 1 => by
    obtain ⟨q, hq⟩ := VV_tail X f a b
    refine ⟨q + f (a + b) * X ^ b, ?_⟩
    rw [show a + (b + 1) = (a + b) + 1 by omega, VV, hq, Nat.mul_add, Nat.pow_add]
    have : X ^ a * (f (a + b) * X ^ b) = f (a + b) * (X ^ a * X ^ b) := by rw [← Nat.mul_assoc, Nat.mul_comm (X ^ a), Nat.mul_assoc]
    omega
theorem VV_shf (X g : Nat) (f : Nat → Nat) (N : Nat) : VV X (shf g f) N % X ^ N = X ^ g * VV X f N % X ^ N := by
  rcases Nat.lt_or_ge N g with h | h
  · rw [VV_low X g f N (by omega), show g = N + (g - N) by omega, Nat.pow_add, Nat.mul_assoc, Nat.mul_mod_right, Nat.zero_mod]
  · obtain ⟨j, rfl⟩ : ∃ j, N = j + g := ⟨N - g, by omega⟩
    obtain ⟨q, hq⟩ := VV_tail X f j g
    rw [VV_up, hq, Nat.mul_add, ← Nat.mul_assoc, ← Nat.pow_add, show g + j = j + g by omega, Nat.add_mul_mod_self_left]
theorem VV_add (X : Nat) (f g : Nat → Nat) : ∀ N, VV X (fun n => f n + g n) N = VV X f N + VV X g N
  | 0 => rfl
  | N + 1 => by rw [VV, VV, VV, VV_add X f g N, Nat.add_mul]; omega
theorem VV_nul (X : Nat) : ∀ N, VV X (fun _ => 0) N = 0
  | 0 => rfl
  | N + 1 => by rw [VV, VV_nul X N]; simp
theorem VV_one (X : Nat) : ∀ N, VV X (fun n => if n = 0 then 1 else 0) (N + 1) = 1
  | 0 => by simp [VV]
  | N + 1 => by rw [VV, VV_one X N, if_neg (by omega)]; simp
theorem VV_lt {X : Nat} (hX : 1 ≤ X) (f : Nat → Nat) : ∀ N, (∀ m, m < N → f m < X) → VV X f N < X ^ N
  | 0, _ => by simp [VV]
  | n + 1, h => by
    have h1 := VV_lt hX f n (fun m hm => h m (by omega))
    have h3 : (f n + 1) * X ^ n ≤ X * X ^ n := Nat.mul_le_mul_right _ (h n (by omega))
    rw [VV, Nat.pow_succ, Nat.mul_comm (X ^ n)]
    rw [Nat.add_mul, Nat.one_mul] at h3
    omega
theorem VV_inj {X : Nat} (hX : 1 ≤ X) (f g : Nat → Nat) : ∀ N, (∀ m, m < N → f m < X) → (∀ m, m < N → g m < X) → VV X f N = VV X g N → ∀ m, m < N → f m = g m
  | 0, _, _, _, m, hm => by omega
  | n + 1, hf, hg, h, m, hm => by
    have h1 := VV_lt hX f n (fun m hm => hf m (by omega))
    have h2 := VV_lt hX g n (fun m hm => hg m (by omega))
    have hp : 0 < X ^ n := Nat.pow_pos hX
    rw [VV, VV] at h
    have e : f n = g n := by
      have := congrArg (· / X ^ n) h
      simp only [Nat.add_mul_div_right _ _ hp, Nat.div_eq_of_lt h1, Nat.div_eq_of_lt h2, Nat.zero_add] at this
      exact this
    rw [e] at h
    by_cases em : m = n
    · rw [em]; exact e
    · exact VV_inj hX f g n (fun m hm => hf m (by omega)) (fun m hm => hg m (by omega)) (by omega) m (by omega)

/-- Euler's numbers. -/
def pgn (k : Nat) : Nat := k * (3 * k - 1) / 2
/-- Up to K: what is added (odd), what is taken away. -/
def eus (b : Bool) (f : Nat → Nat) (n : Nat) : Nat → Nat
  | 0 => 0
  | K + 1 => eus b f n K + if decide ((K + 1) % 2 = 1) = b then shf (pgn (K + 1)) f n + shf (pgn (K + 1) + (K + 1)) f n else 0
def ees (b : Bool) (X : Nat) : Nat → Nat
  | 0 => 0
  | K + 1 => ees b X K + if decide ((K + 1) % 2 = 1) = b then X ^ pgn (K + 1) + X ^ (pgn (K + 1) + (K + 1)) else 0
theorem eus_ees (b : Bool) (X : Nat) (f : Nat → Nat) (N : Nat) : ∀ K, VV X (fun n => eus b f n K) N % X ^ N = ees b X K * VV X f N % X ^ N
  | 0 => by
    have : VV X (fun n => eus b f n 0) N = 0 := VV_nul X N
    rw [this, ees, Nat.zero_mul]
  | K + 1 => by
    have ih := eus_ees b X f N K
    by_cases h : decide ((K + 1) % 2 = 1) = b
    · have e : (fun n => eus b f n (K + 1)) = fun n => eus b f n K + (shf (pgn (K + 1)) f n + shf (pgn (K + 1) + (K + 1)) f n) := by
        funext n; rw [eus, if_pos h]
      rw [e, VV_add X (fun n => eus b f n K) (fun n => shf (pgn (K + 1)) f n + shf (pgn (K + 1) + (K + 1)) f n), VV_add X (fun n => shf (pgn (K + 1)) f n) (fun n => shf (pgn (K + 1) + (K + 1)) f n), ees, if_pos h, Nat.add_mul, Nat.add_mul, Nat.add_mod, ih, Nat.add_mod (VV X (fun n => shf (pgn (K + 1)) f n) N), VV_shf, VV_shf]
      simp only [Nat.add_mod_mod, Nat.mod_add_mod]
    · have e : (fun n => eus b f n (K + 1)) = fun n => eus b f n K := by
        funext n; rw [eus, if_neg h, Nat.add_zero]
      rw [e, ees, if_neg h, Nat.add_zero, ih]
theorem eus_le (b : Bool) (f : Nat → Nat) (n Y : Nat) (h : ∀ m, m ≤ n → f m ≤ Y) : ∀ K, eus b f n K ≤ 2 * K * Y
  | 0 => by simp [eus]
  | K + 1 => by
    have ih := eus_le b f n Y h K
    have s : ∀ g, shf g f n ≤ Y := fun g => by unfold shf; split; exact h _ (by omega); omega
    have a := s (pgn (K + 1))
    have c := s (pgn (K + 1) + (K + 1))
    rw [eus, show 2 * (K + 1) * Y = 2 * K * Y + (Y + Y) by rw [Nat.mul_add, Nat.add_mul]; omega]
    split <;> omega
theorem pgn_lt {k j : Nat} (h : k ≤ j) : pgn k ≤ pgn j := by
  unfold pgn
  exact Nat.div_le_div_right (Nat.mul_le_mul h (by omega))
theorem eus_end (b : Bool) (f : Nat → Nat) (n K : Nat) (h : n < pgn (K + 1)) : ∀ j, eus b f n (K + j) = eus b f n K
  | 0 => rfl
  | j + 1 => by
    have := pgn_lt (show K + 1 ≤ K + j + 1 by omega)
    have z : ∀ g, n < g → shf g f n = 0 := fun g hg => by unfold shf; rw [if_neg (by omega)]
    rw [← Nat.add_assoc, eus, eus_end b f n K h j, z _ (by omega), z _ (by omega)]
    simp
theorem eus_fit {b : Bool} {f g : Nat → Nat} {n : Nat} (h : ∀ m, m < n → f m = g m) : ∀ K, eus b f n K = eus b g n K
  | 0 => rfl
  | K + 1 => by
    have s : ∀ j, 1 ≤ j → shf j f n = shf j g n := fun j hj => by
      unfold shf
      by_cases e : j ≤ n
      · rw [if_pos e, if_pos e, h _ (by omega)]
      · rw [if_neg e, if_neg e]
    have p : 1 ≤ pgn (K + 1) := pgn_lt (show 1 ≤ K + 1 by omega)
    rw [eus, eus, eus_fit h K, s _ p, s _ (by omega)]

theorem pt_Y {Y : Nat} (hY : Nat.blt (glp 2000 18446744073709551616 1 1 * 35 ^ 2000) (Y * 34 ^ 2000 * 18446744073709551616) = true) {k m : Nat} (hk : k ≤ 2000) (hm : m ≤ 2000) : pt k m < Y := by
  have h1 := pt_bound (a := 34) (b := 35) (S := 18446744073709551616) (by decide) gk 2000 (Nat.le_refl _) (fun k _ => gk_step k) (fun k _ => gk_mono k) k hk m
  have h2 := gk_le hk
  have h3 : glp 2000 18446744073709551616 1 1 = gk 2000 := by
    have := glp_eq 2000 0
    rw [Nat.zero_add] at this
    exact this
  have h4 := hY
  rw [h3] at h4
  have h5 : gk 2000 * 35 ^ 2000 < Y * 34 ^ 2000 * 18446744073709551616 := by
    have := h4
    unfold Nat.blt at this
    exact Nat.le_of_ble_eq_true this
  have h6 : 35 ^ m * 34 ^ (2000 - m) ≤ 35 ^ m * 35 ^ (2000 - m) := Nat.mul_le_mul_left _ (Nat.pow_le_pow_left (by decide) _)
  rw [← Nat.pow_add, show m + (2000 - m) = 2000 by omega] at h6
  have e34 : (34 : Nat) ^ 2000 = 34 ^ m * 34 ^ (2000 - m) := by rw [← Nat.pow_add, show m + (2000 - m) = 2000 by omega]
  rcases Nat.lt_or_ge (pt k m) Y with q | q
  · exact q
  · exfalso
    have a1 : Y * 34 ^ m * 18446744073709551616 ≤ gk 2000 * 35 ^ m := by
      refine Nat.le_trans (Nat.mul_le_mul_right _ (Nat.mul_le_mul_right _ q)) (Nat.le_trans h1 (Nat.mul_le_mul_right _ h2))
    have a2 := Nat.mul_le_mul_right (34 ^ (2000 - m)) a1
    have a3 : Y * 34 ^ m * 18446744073709551616 * 34 ^ (2000 - m) = Y * 34 ^ 2000 * 18446744073709551616 := by
      rw [e34, Nat.mul_right_comm, Nat.mul_assoc Y]
    have a4 : gk 2000 * 35 ^ m * 34 ^ (2000 - m) ≤ gk 2000 * 35 ^ 2000 := by
      rw [Nat.mul_assoc]; exact Nat.mul_le_mul_left _ h6
    rw [a3] at a2
    exact absurd (Nat.lt_of_lt_of_le h5 (Nat.le_trans a2 a4)) (Nat.lt_irrefl _)
def Yb : Nat := 23384026197294446691258957323460528314494920687616
theorem Yb_eq : Yb = 2 ^ 164 := by decide +kernel
theorem Yb_72 : 1 + 72 * Yb + Yb < Xb := by decide +kernel
theorem g_last2 : Nat.blt (glp 2000 18446744073709551616 1 1 * 35 ^ 2000) (Yb * 34 ^ 2000 * 18446744073709551616) = true := by decide +kernel
theorem chk_eul : stB (Xb ^ 2001) (fun M => stB (cl 2001 M 2000 0 1) fun T => Nat.beq ((1 + ees false Xb 36) * T % M) ((1 + ees true Xb 36 * T) % M)) = true := by decide +kernel
/-- EULER'S RECURRENCE, up to 2000. -/
theorem eul_all {n : Nat} (h : n ≤ 2000) : pt 2000 n + eus false (pt 2000) n 36 = (if n = 0 then 1 else 0) + eus true (pt 2000) n 36 := by
  obtain ⟨N, hN⟩ : ∃ N, N = 2001 := ⟨_, rfl⟩
  have h0 : stB (Xb ^ N) (fun M => stB (cl N M 2000 0 1) fun T => Nat.beq ((1 + ees false Xb 36) * T % M) ((1 + ees true Xb 36 * T) % M)) = true := by rw [hN]; exact chk_eul
  rw [stB_eq, stB_eq] at h0
  have h1 := cl_eq N 2000 0
  have hX1 : 1 ≤ Xb := Nat.le_of_lt Xb_one
  have hM : 1 < Xb ^ N := Nat.one_lt_pow (by omega) Xb_one
  obtain ⟨k, hk⟩ : ∃ k, N = k + 1 := ⟨N - 1, by omega⟩
  have hz : vv Xb 0 N = 1 := by rw [hk]; exact vv_zero Xb k
  rw [hz, Nat.mod_eq_of_lt hM, Nat.zero_add] at h1
  have hY : ∀ m, m < N → pt 2000 m < Yb := fun m hm => pt_Y g_last2 (Nat.le_refl _) (by omega)
  have hlt : ∀ m, m < N → pt 2000 m < Xb := fun m hm => pt_X (Nat.le_refl _) (by omega)
  rw [h1, Nat.mod_eq_of_lt (vv_lt hX1 N hlt), ← VV_vv] at h0
  have h0 := Nat.eq_of_beq_eq_true h0
  have a := eus_ees false Xb (pt 2000) N 36
  have b := eus_ees true Xb (pt 2000) N 36
  have y72 := Yb_72
  have bd : ∀ c m, m < N → eus c (pt 2000) m 36 ≤ 72 * Yb := fun c m hm => eus_le c _ m Yb (fun j hj => Nat.le_of_lt (hY j (by omega))) 36
  have f1 : ∀ m, m < N → pt 2000 m + eus false (pt 2000) m 36 < Xb := fun m hm => by
    have := hY m hm
    have := bd false m hm
    omega
  have f2 : ∀ m, m < N → (if m = 0 then 1 else 0) + eus true (pt 2000) m 36 < Xb := fun m hm => by
    have := bd true m hm
    split <;> omega
  have key : VV Xb (fun m => pt 2000 m + eus false (pt 2000) m 36) N = VV Xb (fun m => (if m = 0 then 1 else 0) + eus true (pt 2000) m 36) N := by
    rw [← Nat.mod_eq_of_lt (VV_lt hX1 _ N f1), ← Nat.mod_eq_of_lt (VV_lt hX1 _ N f2), VV_add Xb (pt 2000) (fun m => eus false (pt 2000) m 36), VV_add Xb (fun m => if m = 0 then 1 else 0) (fun m => eus true (pt 2000) m 36), hk, VV_one, ← hk, Nat.add_mod, a, Nat.add_mod 1, b]
    rw [Nat.add_mul, Nat.one_mul] at h0
    simp only [Nat.add_mod_mod, Nat.mod_add_mod]
    exact h0
  exact VV_inj hX1 _ _ N f1 f2 key n (by omega)
/-- The same, as a sum over what stands below. -/
theorem eul_next {n K : Nat} (h0 : 1 ≤ n) (h : n ≤ 2000) (hK : K ≤ 36) (hn : n < pgn (K + 1)) : pt n n + eus false (fun m => pt m m) n K = eus true (fun m => pt m m) n K := by
  have e := eul_all h
  rw [if_neg (by omega), Nat.zero_add, pt_same 2000 n h] at e
  have x : ∀ b, eus b (pt 2000) n 36 = eus b (fun m => pt m m) n K := fun b => by
    have := eus_end b (pt 2000) n K hn (36 - K)
    rw [show K + (36 - K) = 36 by omega] at this
    rw [this]
    exact eus_fit (fun m hm => pt_same 2000 m (by omega)) K
  rw [x, x] at e
  exact e

end PT
end Go.Proofs.YtmifenflbaohnaaDoor
end
