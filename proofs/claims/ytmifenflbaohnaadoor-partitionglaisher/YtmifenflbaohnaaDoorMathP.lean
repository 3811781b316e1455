/- Plain facts: Fermat's theorem of every prime; powers and polynomials a little beside; Hensel's step. -/
import Derived.Test.YtmifenflbaohnaaDoorMathF
set_option linter.unusedVariables false
set_option maxRecDepth 100000
namespace Go.Proofs.YtmifenflbaohnaaDoor

/-! ### Products over a rearrangement; Fermat's theorem -/

def pd (g : Nat → Nat) : Nat → Nat
  | 0 => 1
  | n + 1 => pd g n * g n

theorem pd_cong {g h : Nat → Nat} : ∀ N, (∀ i, i < N → g i = h i) → pd g N = pd h N := by
  intro N
  induction N with
  | zero => intro _; rfl
  | succ N ih => intro e; rw [pd, pd, ih (fun i hi => e i (by omega)), e N (by omega)]

theorem pd_upd (g : Nat → Nat) (k v : Nat) : ∀ N, k < N → pd g N * v = pd (fun i => if i = k then v else g i) N * g k := by
  intro N
  induction N with
  | zero => intro h; omega
  | succ N ih =>
    intro h
    rw [pd, pd]
    by_cases hk : k = N
    · subst hk
      rw [if_pos rfl, pd_cong (h := fun i => if i = k then v else g i) k (fun i hi => by rw [if_neg (by omega)])]
      rw [Nat.mul_assoc, Nat.mul_assoc, Nat.mul_comm (g k) v]
    · rw [if_neg (by omega), Nat.mul_right_comm, ih (by omega), Nat.mul_right_comm]

theorem pd_perm : ∀ (N : Nat) (f : Nat → Nat), (∀ i, i < N → f i < N) → (∀ i j, i < j → j < N → f i ≠ f j) → ∀ g : Nat → Nat, pd (fun i => g (f i)) N = pd g N := by
  intro N
  induction N with
  | zero => intro f _ _ g; rfl
  | succ N ih =>
    intro f hf hi g
    obtain ⟨k, hk, hkN⟩ := pigeon (N + 1) f hf hi N (by omega)
    by_cases hkn : k = N
    · subst hkn
      have h1 : ∀ i, i < k → f i < k := fun i h => by
        have := hf i (by omega)
        have := hi i k h (by omega)
        omega
      rw [pd, pd, ih f h1 (fun i j h h' => hi i j h (by omega)) g, hkN]
    · have h1 : ∀ i, i < N → (if i = k then f N else f i) < N := by
        intro i h
        split
        · have := hf N (by omega)
          have := hi k N (by omega) (by omega)
          omega
        · have := hf i (by omega)
          rcases Nat.lt_trichotomy i k with h3 | h3 | h3
          · have := hi i k h3 hk; omega
          · contradiction
          · have := hi k i h3 (by omega); omega
      have h2 : ∀ i j, i < j → j < N → (if i = k then f N else f i) ≠ (if j = k then f N else f j) := by
        intro i j hij hj
        split <;> split
        · omega
        · exact fun h => hi j N (by omega) (by omega) h.symm
        · exact hi i N (by omega) (by omega)
        · exact hi i j hij (by omega)
      have h3 := ih _ h1 h2 g
      rw [pd, pd, ← h3, pd_upd (fun i => g (f i)) k (g (f N)) N (by omega), hkN]
      congr 1
      refine pd_cong N (fun i h => ?_)
      split <;> rfl

theorem pd_mod (b p : Nat) : ∀ N, pd (fun i => b * (i + 1) % p) N % p = b ^ N * pd (fun i => i + 1) N % p := by
  intro N
  induction N with
  | zero => simp [pd]
  | succ N ih =>
    rw [pd, pd, Nat.mul_mod, ih, Nat.mod_mod, ← Nat.mul_mod, Nat.pow_succ]
    congr 1
    simp only [Nat.mul_assoc, Nat.mul_left_comm]

theorem pd_free {p : Nat} (hp : Pr p) : ∀ N, N < p → ¬ p ∣ pd (fun i => i + 1) N := by
  intro N
  induction N with
  | zero => intro _ h; have := Nat.le_of_dvd (by decide) h; have := hp.1; simp [pd] at *; omega
  | succ N ih =>
    intro hN h
    rw [pd] at h
    rcases pr_mul hp h with h | h
    · exact ih (by omega) h
    · have := Nat.le_of_dvd (by omega) h; omega

/-- (Fermat) -/
theorem fermat {p b : Nat} (hp : Pr p) (hb : b % p ≠ 0) : b ^ (p - 1) % p = 1 := by
  have h2 := hp.1
  have hnd : ¬ p ∣ b := fun h => hb (Nat.mod_eq_zero_of_dvd h)
  have hne : ∀ i, i < p - 1 → b * (i + 1) % p ≠ 0 := by
    intro i hi h0
    rcases pr_mul hp (Nat.dvd_of_mod_eq_zero h0) with h | h
    · exact hnd h
    · have := Nat.le_of_dvd (by omega) h; omega
  have hlt : ∀ i, b * (i + 1) % p < p := fun i => Nat.mod_lt _ (by omega)
  have hperm := pd_perm (p - 1) (fun i => b * (i + 1) % p - 1) (fun i hi => by have := hne i hi; have := hlt i; show b * (i + 1) % p - 1 < p - 1; omega)
    (fun i j hij hj he => by
      have h1 := hne i (by omega)
      have h3 := hne j hj
      have he : b * (i + 1) % p - 1 = b * (j + 1) % p - 1 := he
      have h4 : b * (i + 1) % p = b * (j + 1) % p := by omega
      have h5 : p ∣ b * (j + 1) - b * (i + 1) := Nat.dvd_of_mod_eq_zero (Nat.sub_mod_eq_zero_of_mod_eq h4.symm)
      rw [← Nat.mul_sub] at h5
      rcases pr_mul hp h5 with h | h
      · exact hnd h
      · have := Nat.le_of_dvd (by omega) h; omega) (fun i => i + 1)
  rw [pd_cong (h := fun i => b * (i + 1) % p) (p - 1) (fun i hi => by have := hne i hi; show b * (i + 1) % p - 1 + 1 = _; omega)] at hperm
  have hm := pd_mod b p (p - 1)
  rw [hperm] at hm
  obtain ⟨G, hG⟩ : ∃ G, G = pd (fun i => i + 1) (p - 1) := ⟨_, rfl⟩
  have hfree := pd_free hp (p - 1) (by omega)
  rw [← hG] at hm hfree
  have hpos : 0 < b ^ (p - 1) := Nat.pow_pos (by rcases Nat.eq_zero_or_pos b with h | h; · subst h; simp at hb
                                                 · exact h)
  have h5 : p ∣ b ^ (p - 1) * G - 1 * G := Nat.dvd_of_mod_eq_zero (Nat.sub_mod_eq_zero_of_mod_eq (by rw [Nat.one_mul]; exact hm.symm))
  rw [← Nat.sub_mul] at h5
  rcases pr_mul hp h5 with h | h
  · obtain ⟨c, hc⟩ := h
    have : b ^ (p - 1) = p * c + 1 := by omega
    rw [this, Nat.mul_add_mod, Nat.mod_eq_of_lt (by omega)]
  · exact absurd h hfree

theorem fermat_all {p : Nat} (hp : Pr p) (b : Nat) : b ^ p % p = b % p := by
  have h2 := hp.1
  obtain ⟨q, rfl⟩ : ∃ q, p = q + 1 := ⟨p - 1, by omega⟩
  by_cases hb : b % (q + 1) = 0
  · rw [Nat.pow_succ, Nat.mul_mod, hb]; simp
  · have := fermat hp hb
    rw [Nat.add_sub_cancel] at this
    rw [Nat.pow_succ, Nat.mul_mod, this, Nat.one_mul, Nat.mod_mod]

/-- (Miller) An odd prime passes. -/
theorem prime_passes {n b t d : Nat} (hp : Pr n) (hb : b % n ≠ 0) (hd : n - 1 = 2 ^ t * d) : b ^ d % n = 1 ∨ ∃ i, i < t ∧ b ^ (d * 2 ^ i) % n = n - 1 :=
  miller hp t (by rw [Nat.mul_comm, ← hd]; exact fermat hp hb)

/-! ### Powers and polynomials a little beside -/

theorem pow_beside (v h : Int) : ∀ m : Nat, ∃ c : Int, (v + h) ^ (m + 1) = v ^ (m + 1) + ((m : Int) + 1) * v ^ m * h + h * h * c := by
  intro m
  induction m with
  | zero => exact ⟨0, by simp [Int.pow_succ]⟩
  | succ m ih =>
    obtain ⟨c, hc⟩ := ih
    refine ⟨v * c + ((m : Int) + 1) * v ^ m + h * c, ?_⟩
    rw [Int.pow_succ, hc, Int.pow_succ v (m + 1), Int.pow_succ v m]
    push_cast
    grind

theorem pow_lift {u v : Int} {p j : Nat} (hp : 1 ≤ p) (hj : 1 ≤ j) (h : ((p : Int) ^ j) ∣ u - v) : ((p : Int) ^ (j + 1)) ∣ u ^ p - v ^ p := by
  obtain ⟨t, ht⟩ := h
  obtain ⟨m, rfl⟩ : ∃ m, p = m + 1 := ⟨p - 1, by omega⟩
  obtain ⟨i, rfl⟩ : ∃ i, j = i + 1 := ⟨j - 1, by omega⟩
  obtain ⟨P, hP⟩ : ∃ P : Int, P = ((m + 1 : Nat) : Int) := ⟨_, rfl⟩
  rw [← hP] at ht ⊢
  obtain ⟨c, hc⟩ := pow_beside v (P ^ (i + 1) * t) m
  have hu : u = v + P ^ (i + 1) * t := by omega
  have hP' : (m : Int) + 1 = P := by rw [hP]; simp
  rw [hu, hc, hP']
  refine ⟨v ^ m * t + P ^ i * t * t * c, ?_⟩
  rw [Int.pow_succ P (i + 1), Int.pow_succ P i]
  grind

/-- (Euler) A power's power leaves the same. -/
theorem teich_fix {p : Nat} (hp : Pr p) (a : Int) (ha : (p : Int) ∣ a ^ p - a) : ∀ k : Nat, 1 ≤ k → ((p : Int) ^ k) ∣ a ^ (p ^ k) - a ^ (p ^ (k - 1)) := by
  intro k hk
  induction k with
  | zero => omega
  | succ k ih =>
    by_cases h0 : k = 0
    · subst h0; simpa [Int.pow_succ] using ha
    · have h := pow_lift (by have := hp.1; omega) (by omega) (ih (by omega))
      rw [← Int.pow_mul, ← Int.pow_mul, ← Nat.pow_succ, ← Nat.pow_succ, show (k - 1).succ = k by omega] at h
      exact h

def pv : List Int → Int → Int
  | [], _ => 0
  | a :: l, x => a + x * pv l x
def dv : List Int → Int → Int
  | [], _ => 0
  | _ :: l, x => pv l x + x * dv l x

theorem pv_beside (l : List Int) (x h : Int) : ∃ c, pv l (x + h) = pv l x + dv l x * h + h * h * c := by
  induction l with
  | nil => exact ⟨0, by simp [pv, dv]⟩
  | cons a l ih =>
    obtain ⟨c, hc⟩ := ih
    refine ⟨x * c + dv l x + h * c, ?_⟩
    simp only [pv, dv, hc]
    grind

theorem pv_same (l : List Int) {x y m : Int} (h : m ∣ x - y) : m ∣ pv l x - pv l y := by
  induction l with
  | nil => simp [pv]
  | cons a l ih =>
    obtain ⟨s, hs⟩ := h
    obtain ⟨t, ht⟩ := ih
    refine ⟨s * pv l x + y * t, ?_⟩
    simp only [pv]
    grind

theorem dv_same (l : List Int) {x y m : Int} (h : m ∣ x - y) : m ∣ dv l x - dv l y := by
  induction l with
  | nil => simp [dv]
  | cons a l ih =>
    obtain ⟨r, hr⟩ := pv_same l h
    obtain ⟨s, hs⟩ := h
    obtain ⟨t, ht⟩ := ih
    refine ⟨r + s * dv l x + y * t, ?_⟩
    simp only [dv]
    grind

/-- The numbers of the derivative, from place k on. -/
def dl : Nat → List Int → List Int
  | _, [] => []
  | k, a :: l => (k : Int) * a :: dl (k + 1) l

theorem pv_dl (l : List Int) (x : Int) : ∀ k : Nat, pv (dl k l) x = (k : Int) * pv l x + x * dv l x := by
  induction l with
  | nil => intro k; simp [dl, pv, dv]
  | cons a l ih =>
    intro k
    simp only [dl, pv, dv, ih]
    push_cast
    grind

theorem dv_dl (a : Int) (l : List Int) (x : Int) : dv (a :: l) x = pv (dl 1 l) x := by
  rw [pv_dl]; simp [dv]

theorem pv_congr (m : Int) (x : Int) : ∀ l l' : List Int, l.length = l'.length → (∀ i, i < l.length → m ∣ l.getD i 0 - l'.getD i 0) → m ∣ pv l x - pv l' x := by
  intro l
  induction l with
  | nil => intro l' h _; cases l' with
    | nil => simp [pv]
    | cons _ _ => simp at h
  | cons a l ih =>
    intro l' h he
    cases l' with
    | nil => simp at h
    | cons b l' =>
      obtain ⟨s, hs⟩ := ih l' (by simpa using h) (fun i hi => by have := he (i + 1) (by simp; omega); simpa using this)
      have h0 := he 0 (by simp)
      simp at h0
      obtain ⟨t, ht⟩ := h0
      refine ⟨t + x * s, ?_⟩
      simp only [pv]
      grind

theorem pv_drop (l : List Int) (x : Int) (k : Nat) (hk : k < l.length) : pv (l.drop k) x = l.getD k 0 + x * pv (l.drop (k + 1)) x := by
  rw [List.drop_eq_getElem_cons hk, pv, List.getD_eq_getElem?_getD, List.getElem?_eq_getElem hk]; rfl

theorem pv_take (x : Int) : ∀ (l : List Int) (i : Nat), i < l.length → pv (l.take (i + 1)) x = pv (l.take i) x + l.getD i 0 * x ^ i := by
  intro l
  induction l with
  | nil => intro i h; simp at h
  | cons a l ih =>
    intro i h
    cases i with
    | zero => simp [pv]
    | succ i =>
      have := ih i (by simpa using h)
      simp only [List.take_succ_cons, pv, List.getD_cons_succ] at this ⊢
      rw [this, Int.pow_succ]
      grind

theorem dv_take (x : Int) : ∀ (l : List Int) (i : Nat), 1 ≤ i → i < l.length → dv (l.take (i + 1)) x = dv (l.take i) x + l.getD i 0 * i * x ^ (i - 1) := by
  intro l
  induction l with
  | nil => intro i _ h; simp at h
  | cons a l ih =>
    intro i h1 h
    obtain ⟨i, rfl⟩ : ∃ j, i = j + 1 := ⟨i - 1, by omega⟩
    have h' : i < l.length := by simpa using h
    have hp := pv_take x l i h'
    simp only [List.take_succ_cons, dv, List.getD_cons_succ, Nat.add_sub_cancel]
    by_cases h0 : i = 0
    · subst h0
      rw [hp]
      cases l with
      | nil => simp at h'
      | cons b l => simp [dv, pv]
    · have hd := ih i (by omega) h'
      obtain ⟨r, rfl⟩ : ∃ r, i = r + 1 := ⟨i - 1, by omega⟩
      rw [hp, hd, Nat.add_sub_cancel, Int.pow_succ]
      push_cast
      grind

/-- (Hensel) One step. -/
theorem hensel_step {l : List Int} {j : Nat} {P x x0 v y : Int} (hj : 1 ≤ j) (hx : P ∣ x - x0) (hr : (P ^ j) ∣ pv l x) (hv : P ∣ dv l x0 * v - 1)
    (hy : (P ^ (j + 1)) ∣ y - (x - pv l x * v)) : P ∣ y - x0 ∧ (P ^ (j + 1)) ∣ pv l y := by
  obtain ⟨i, rfl⟩ : ∃ i, j = i + 1 := ⟨j - 1, by omega⟩
  have hd := dv_same l hx
  obtain ⟨t, ht⟩ := hr
  obtain ⟨c, hc⟩ := pv_beside l x (-(pv l x * v))
  obtain ⟨z, hz⟩ := hx
  obtain ⟨s, hs⟩ := hv
  obtain ⟨r, hrr⟩ := hd
  have hsame := pv_same l hy
  obtain ⟨q, hq⟩ := hy
  obtain ⟨g, hg⟩ := hsame
  rw [Int.pow_succ P (i + 1), Int.pow_succ P i] at hq hg ⊢
  rw [Int.pow_succ P i] at ht
  constructor
  · exact ⟨z + P ^ i * P * q - P ^ i * t * v, by grind⟩
  · have e : x - pv l x * v = x + -(pv l x * v) := by omega
    rw [e] at hg
    obtain ⟨A, hA⟩ : ∃ A, A = pv l x := ⟨_, rfl⟩
    obtain ⟨D, hD⟩ : ∃ D, D = dv l x := ⟨_, rfl⟩
    rw [← hA, ← hD] at hc
    rw [← hD] at hrr
    rw [← hA] at ht hg
    rw [hc] at hg
    obtain ⟨E, hE⟩ : ∃ E, E = dv l x0 := ⟨_, rfl⟩
    rw [← hE] at hrr hs
    obtain ⟨Y, hY⟩ : ∃ Y, Y = pv l y := ⟨_, rfl⟩
    rw [← hY] at hg ⊢
    clear hc hA hD hE hY e hq
    obtain ⟨Q, hQ⟩ : ∃ Q, Q = P ^ i := ⟨_, rfl⟩
    rw [← hQ] at ht hg ⊢
    have hdv : D * v = 1 + P * (s + r * v) := by grind
    refine ⟨g - t * (s + r * v) + Q * t * t * v * v * c, ?_⟩
    have e1 : Y = Q * P * P * g + (A + D * -(A * v) + -(A * v) * -(A * v) * c) := by omega
    rw [e1, ht]
    have e2 : Q * P * t + D * -(Q * P * t * v) = Q * P * t * (1 - D * v) := by grind
    rw [e2, hdv]
    grind

end Go.Proofs.YtmifenflbaohnaaDoor
