import Derived.Test.YtnkjadpmigpneaaGreatDoorBnP
section
/- Plain: Faulhaber's formula by Bernoulli's numbers; these times the product of the primes up to n + 1, as the program reckons. -/
set_option linter.unusedSimpArgs false
set_option linter.unusedVariables false
set_option maxRecDepth 100000
namespace Go.Proofs.YtnkjadpmigpneaaGreatDoor
namespace BN

/-- T^i (T + x)^n, each power of T read as a member of the row. -/
def um (T : Nat → Int) (x : Int) : Nat → Nat → Int
  | 0, i => T i
  | n + 1, i => um T x n (i + 1) + x * um T x n i
theorem um_is (T : Nat → Int) (x : Int) : ∀ n i, um T x n i = sm (fun j => (ch n j : Int) * T (i + j) * x ^ (n - j)) (n + 1)
  | 0, i => by simp [um, sm, ch_zero]
  | n + 1, i => by
    show um T x n (i + 1) + x * um T x n i = _
    rw [um_is T x n i, um_is T x n (i + 1)]
    rw [sm_first (fun j => (ch (n + 1) j : Int) * T (i + j) * x ^ (n + 1 - j)) (n + 1)]
    have e1 : sm (fun j => (ch (n + 1) (j + 1) : Int) * T (i + (j + 1)) * x ^ (n + 1 - (j + 1))) (n + 1) = sm (fun j => (ch n j : Int) * T (i + 1 + j) * x ^ (n - j) + (ch n (j + 1) : Int) * T (i + (j + 1)) * x ^ (n - j)) (n + 1) := by
      refine sm_congr _ fun j _ => ?_
      rw [ch_succ, show i + (j + 1) = i + 1 + j by omega, show n + 1 - (j + 1) = n - j by omega]
      have : ((ch n j + ch n (j + 1) : Nat) : Int) = (ch n j : Int) + (ch n (j + 1) : Int) := by omega
      rw [this, Int.add_mul, Int.add_mul]
    rw [e1, sm_add]
    have e2 : sm (fun j => (ch n (j + 1) : Int) * T (i + (j + 1)) * x ^ (n - j)) (n + 1) = sm (fun j => (ch n (j + 1) : Int) * T (i + (j + 1)) * x ^ (n - j)) n := by
      rw [sm_succ, ch_over n (n + 1) (by omega)]; simp
    have e3 : x * sm (fun j => (ch n j : Int) * T (i + j) * x ^ (n - j)) (n + 1) = sm (fun j => (ch n j : Int) * T (i + j) * x ^ (n + 1 - j)) (n + 1) := by
      rw [← sm_mul]
      refine sm_congr _ fun j hj => ?_
      rw [show n + 1 - j = (n - j) + 1 by omega, Int.pow_succ]
      grind
    rw [e2, e3, sm_first (fun j => (ch n j : Int) * T (i + j) * x ^ (n + 1 - j)) n, ch_zero, ch_zero]
    have e4 : sm (fun j => (ch n (j + 1) : Int) * T (i + (j + 1)) * x ^ (n + 1 - (j + 1))) n = sm (fun j => (ch n (j + 1) : Int) * T (i + (j + 1)) * x ^ (n - j)) n := sm_congr _ fun j hj => by rw [show n + 1 - (j + 1) = n - j by omega]
    rw [e4]
    simp only [Nat.add_zero, Nat.sub_zero]
    omega
/-- T^i (1 + T)^a (T + 1 + x)^n. -/
def um2 (T : Nat → Int) (x : Int) : Nat → Nat → Nat → Int
  | 0, a, i => un T a i
  | n + 1, a, i => um2 T x n (a + 1) i + x * um2 T x n a i
theorem um2_a (T : Nat → Int) (x : Int) : ∀ n a i, um2 T x n (a + 1) i = um2 T x n a i + um2 T x n a (i + 1)
  | 0, a, i => rfl
  | n + 1, a, i => by
    show um2 T x n (a + 1 + 1) i + x * um2 T x n (a + 1) i = (um2 T x n (a + 1) i + x * um2 T x n a i) + (um2 T x n (a + 1) (i + 1) + x * um2 T x n a (i + 1))
    rw [um2_a T x n (a + 1) i, um2_a T x n a i]
    grind
theorem um2_left (T : Nat → Int) (x : Int) : ∀ n a, um2 T x n a 0 = um (fun a => un T a 0) x n a
  | 0, a => rfl
  | n + 1, a => by
    show um2 T x n (a + 1) 0 + x * um2 T x n a 0 = um _ x n (a + 1) + x * um _ x n a
    rw [um2_left T x n (a + 1), um2_left T x n a]
theorem um2_right (T : Nat → Int) (x : Int) : ∀ n i, um2 T x n 0 i = um T (x + 1) n i
  | 0, i => rfl
  | n + 1, i => by
    show um2 T x n 1 i + x * um2 T x n 0 i = um T (x + 1) n (i + 1) + (x + 1) * um T (x + 1) n i
    rw [um2_a T x n 0 i, um2_right T x n i, um2_right T x n (i + 1)]
    grind
theorem um_shift (T : Nat → Int) (x : Int) (n : Nat) : um (fun a => un T a 0) x n 0 = um T (x + 1) n 0 := by
  rw [← um2_left, um2_right]
/-- x + 1 in place of x. -/
theorem bt_one (T : Nat → Int) (D : Nat) (hT0 : T 0 = (D : Int)) : un T 1 0 = T 1 + D := by
  show T 0 + T 1 = _
  rw [hT0]; omega
theorem um_step (T : Nat → Int) (D : Nat) (hT : ∀ n, 2 ≤ n → n ≤ 201 → un T n 0 = T n) (hT0 : T 0 = (D : Int)) (N : Nat) (h1 : 1 ≤ N) (h2 : N ≤ 201) (x : Int) : um T (x + 1) N 0 = um T x N 0 + (N : Int) * D * x ^ (N - 1) := by
  rw [← um_shift, um_is, um_is]
  have e : sm (fun j => (ch N j : Int) * un T (0 + j) 0 * x ^ (N - j)) (N + 1) = sm (fun j => (ch N j : Int) * T (0 + j) * x ^ (N - j) + (if j = 1 then (N : Int) * D * x ^ (N - 1) else 0)) (N + 1) := by
    refine sm_congr _ fun j hj => ?_
    simp only [Nat.zero_add]
    rcases Nat.lt_trichotomy j 1 with h | h | h
    · obtain rfl : j = 0 := by omega
      rw [if_neg (by omega)]
      show _ * (T 0) * _ = _
      rw [Int.add_zero]
    · subst h
      have : ch N 1 = N := by
        have : ch N 0 * (N - 0) = ch N 1 * (0 + 1) := ch_step N 0 (by omega)
        rw [ch_zero] at this
        omega
      rw [if_pos rfl, bt_one T D hT0, this]
      grind
    · rw [if_neg (by omega), hT j (by omega) (by omega)]
      grind
  rw [e, sm_add]
  congr 1
  have f : ∀ m, 1 ≤ m → sm (fun j => if j = 1 then (N : Int) * D * x ^ (N - 1) else 0) (m + 1) = (N : Int) * D * x ^ (N - 1) := by
    intro m hm
    induction m with
    | zero => omega
    | succ m ih =>
      rw [sm_succ]
      by_cases h : m = 0
      · subst h
        simp [sm]
      · rw [ih (by omega), if_neg (by omega)]; omega
  exact f N h1
/-- The part of Faulhaber's formula by n^(k + 1 - j), k + 1 times, and by the numbers' lower part. -/
def fp (T : Nat → Int) (k j : Nat) : Int := if j = 1 ∧ 1 ≤ k then -((ch (k + 1) j : Int) * T j) else (ch (k + 1) j : Int) * T j
theorem um_sum (T : Nat → Int) (D : Nat) (hT : ∀ n, 2 ≤ n → n ≤ 201 → un T n 0 = T n) (hT0 : T 0 = (D : Int)) (k : Nat) (hk : k ≤ 200) : ∀ n : Nat, um T (n : Int) (k + 1) 0 + (if k = 0 then 0 else ((k : Int) + 1) * D * (n : Int) ^ k) = T (k + 1) + ((k : Int) + 1) * D * (pk k n : Int)
  | 0 => by
    have e : um T ((0 : Nat) : Int) (k + 1) 0 = T (k + 1) := by
      rw [um_is, sm_succ, ch_all]
      have : sm (fun j => (ch (k + 1) j : Int) * T (0 + j) * ((0 : Nat) : Int) ^ (k + 1 - j)) (k + 1) = 0 := by
        have : ∀ m, m ≤ k + 1 → sm (fun j => (ch (k + 1) j : Int) * T (0 + j) * ((0 : Nat) : Int) ^ (k + 1 - j)) m = 0 := by
          intro m hm
          induction m with
          | zero => rfl
          | succ m ih =>
            rw [sm_succ, ih (by omega), show k + 1 - m = (k - m) + 1 by omega]
            simp [Int.pow_succ]
        exact this _ (Nat.le_refl _)
      rw [this]; simp
    rw [e]
    show _ = T (k + 1) + ((k : Int) + 1) * D * ((0 : Nat) : Int)
    by_cases h : k = 0
    · simp [h]
    · rw [if_neg h]
      obtain ⟨m, rfl⟩ : ∃ m, k = m + 1 := ⟨k - 1, by omega⟩
      simp [Int.pow_succ]
  | n + 1 => by
    have h := um_sum T D hT hT0 k hk n
    have s := um_step T D hT hT0 (k + 1) (by omega) (by omega) (n : Int)
    simp only [Nat.add_sub_cancel] at s
    have e : ((n + 1 : Nat) : Int) = (n : Int) + 1 := by omega
    have p : ((pk k (n + 1) : Nat) : Int) = (pk k n : Int) + ((n : Int) + 1) ^ k := by
      show ((pk k n + (n + 1) ^ k : Nat) : Int) = _
      rw [Int.natCast_add, Int.natCast_pow, e]
    rw [e, s, p]
    have c : ((k + 1 : Nat) : Int) = (k : Int) + 1 := by omega
    rw [c]
    by_cases h0 : k = 0
    · subst h0
      simp at h ⊢
      grind
    · rw [if_neg h0] at h ⊢
      grind
/-- FAULHABER. -/
theorem faul_of (T : Nat → Int) (D : Nat) (hT : ∀ n, 2 ≤ n → n ≤ 201 → un T n 0 = T n) (hT0 : T 0 = (D : Int)) (hT1 : 2 * T 1 = -(D : Int)) (k n : Nat) (hk : k ≤ 200) : sm (fun j => fp T k j * (n : Int) ^ (k + 1 - j)) (k + 1) = ((k : Int) + 1) * D * (pk k n : Int) := by
  have h := um_sum T D hT hT0 k hk n
  rw [um_is, sm_succ, ch_all] at h
  simp only [Nat.zero_add, Nat.sub_self] at h
  by_cases h0 : k = 0
  · subst h0
    simp [sm, fp, ch_zero] at h ⊢
    omega
  · rw [if_neg h0] at h
    have e : sm (fun j => fp T k j * (n : Int) ^ (k + 1 - j)) (k + 1) = sm (fun j => (ch (k + 1) j : Int) * T j * (n : Int) ^ (k + 1 - j) + (if j = 1 then ((k : Int) + 1) * D * (n : Int) ^ k else 0)) (k + 1) := by
      refine sm_congr _ fun j hj => ?_
      unfold fp
      by_cases hj1 : j = 1
      · subst hj1
        rw [if_pos ⟨rfl, by omega⟩, if_pos rfl, show k + 1 - 1 = k by omega]
        have c : ch (k + 1) 1 = k + 1 := by
          have : ch (k + 1) 0 * (k + 1 - 0) = ch (k + 1) 1 * (0 + 1) := ch_step (k + 1) 0 (by omega)
          rw [ch_zero] at this
          omega
        have b := hT1
        rw [c, show ((k + 1 : Nat) : Int) = (k : Int) + 1 by omega]
        generalize (n : Int) ^ k = y
        generalize (k : Int) + 1 = z
        grind
      · rw [if_neg (by omega), if_neg hj1]; omega
    have f : ∀ m, 1 ≤ m → sm (fun j => if j = 1 then ((k : Int) + 1) * D * (n : Int) ^ k else 0) (m + 1) = ((k : Int) + 1) * D * (n : Int) ^ k := by
      intro m hm
      induction m with
      | zero => omega
      | succ m ih =>
        rw [sm_succ]
        by_cases h : m = 0
        · subst h
          simp [sm]
        · rw [ih (by omega), if_neg (by omega)]; omega
    rw [e, sm_add, f k (by omega)]
    simp at h
    omega

theorem tab_one : 2 * bt 1 = -(dN : Int) := by decide +kernel
theorem faulhaber (k n : Nat) (hk : k ≤ 200) : sm (fun j => fp bt k j * (n : Int) ^ (k + 1 - j)) (k + 1) = ((k : Int) + 1) * (dN : Int) * (pk k n : Int) :=
  faul_of bt dN (fun n h1 h2 => tab_un n h1 h2) tab_zero tab_one k n hk
/-- Whether n is a prime, by trying. -/
def isp (n : Nat) : Bool := decide (2 ≤ n) && (List.range n).all fun d => decide (d < 2) || n % d != 0
theorem isp_iff (n : Nat) : isp n = true ↔ 2 ≤ n ∧ ∀ d, d ∣ n → d = 1 ∨ d = n := by
  unfold isp
  simp only [Bool.and_eq_true, decide_eq_true_eq, List.all_eq_true, List.mem_range, Bool.or_eq_true, bne_iff_ne]
  refine ⟨fun ⟨h1, h2⟩ => ⟨h1, fun d hd => ?_⟩, fun ⟨h1, h2⟩ => ⟨h1, fun d hd => ?_⟩⟩
  · have hle := Nat.le_of_dvd (by omega) hd
    have hp := Nat.pos_of_dvd_of_pos hd (by omega)
    by_cases e : d = n
    · exact .inr e
    · rcases h2 d (by omega) with h | h
      · exact .inl (by omega)
      · exact absurd (Nat.mod_eq_zero_of_dvd hd) h
  · by_cases e : d < 2
    · exact .inl e
    · refine .inr fun h => ?_
      rcases h2 d (Nat.dvd_of_mod_eq_zero h) with h | h <;> omega
/-- The product of all primes up to n. -/
def prm : Nat → Nat
  | 0 => 1
  | n + 1 => if isp (n + 1) then prm n * (n + 1) else prm n
theorem prm_dvd : ∀ c n, prm n ∣ prm (n + c)
  | 0, n => Nat.dvd_refl _
  | c + 1, n => by
    refine Nat.dvd_trans (prm_dvd c n) ?_
    show _ ∣ if isp (n + c + 1) then prm (n + c) * (n + c + 1) else prm (n + c)
    split
    · exact Nat.dvd_mul_right _ _
    · exact Nat.dvd_refl _
theorem prm_pos : ∀ n, 0 < prm n
  | 0 => by decide
  | n + 1 => by
    show 0 < if isp (n + 1) then prm n * (n + 1) else prm n
    have := prm_pos n
    split
    · exact Nat.mul_pos this (by omega)
    · exact this
theorem prm_le {a b : Nat} (h : a ≤ b) : prm a ≤ prm b := by
  obtain ⟨c, rfl⟩ : ∃ c, b = a + c := ⟨b - a, by omega⟩
  exact Nat.le_of_dvd (prm_pos _) (prm_dvd c a)
set_option maxRecDepth 1000000 in
theorem prm_top : prm 201 ≤ dN := by decide +kernel
theorem prm_chk (n : Nat) (h : n < 202) : prm n ≤ dN := Nat.le_trans (prm_le (by omega)) prm_top
noncomputable def chkB : Nat → Nat → Nat → Bool
  | 0, _, _ => true
  | f + 1, j, p => and (decide (bt j * (p : Int) % (dN : Int) = 0)) (frc (if isp (j + 2) then p * (j + 2) else p) fun q => chkB f (j + 1) q)
theorem chkB_ok : ∀ f j, chkB f j (prm (j + 1)) = true → ∀ i, j ≤ i → i < j + f → bt i * (prm (i + 1) : Int) % (dN : Int) = 0
  | 0, j, _, i, h1, h2 => by omega
  | f + 1, j, h, i, h1, h2 => by
    unfold chkB at h
    rw [Bool.and_eq_true, frc_eq, decide_eq_true_eq] at h
    by_cases e : i = j
    · subst e; exact h.1
    · exact chkB_ok f (j + 1) h.2 i (by omega) (by omega)
set_option maxRecDepth 1000000 in
theorem chkB_all : chkB 201 0 1 = true := by decide +kernel
theorem bt_chk (j : Nat) (h : j < 201) : bt j * (prm (j + 1) : Int) % (dN : Int) = 0 := chkB_ok 201 0 chkB_all j (by omega) (by omega)
theorem dN_p : (0 : Int) < (dN : Int) := by decide +kernel
/-- Bernoulli's numbers up to the n-th, times the product of the primes up to n + 1. -/
def bz (n j : Nat) : Int := bt j * (prm (n + 1) : Int) / (dN : Int)
theorem bz_mul {n j : Nat} (hj : j ≤ n) (hn : n ≤ 200) : bz n j * dN = bt j * (prm (n + 1) : Int) := by
  unfold bz
  refine Int.ediv_mul_cancel ?_
  obtain ⟨c, hc⟩ := prm_dvd (n - j) (j + 1)
  rw [show j + 1 + (n - j) = n + 1 by omega] at hc
  have h := Int.dvd_of_emod_eq_zero (bt_chk j (by omega))
  rw [hc, Int.natCast_mul, ← Int.mul_assoc]
  exact Int.dvd_trans h (Int.dvd_mul_right _ _)
theorem bz_zero (n : Nat) (hn : n ≤ 200) : bz n 0 = (prm (n + 1) : Int) := by
  have h := bz_mul (n := n) (j := 0) (Nat.zero_le _) hn
  rw [tab_zero, Int.mul_comm (dN : Int)] at h
  exact Int.eq_of_mul_eq_mul_right (by have := dN_p; omega) h
theorem bz_size {n j : Nat} (hj : j ≤ n) (hn : n ≤ 200) : (bz n j).natAbs ≤ (bt j).natAbs := by
  have h := congrArg Int.natAbs (bz_mul hj hn)
  rw [Int.natAbs_mul, Int.natAbs_mul, Int.natAbs_natCast, Int.natAbs_natCast] at h
  have h2 : (bt j).natAbs * prm (n + 1) ≤ (bt j).natAbs * dN := Nat.mul_le_mul_left _ (prm_chk _ (by omega))
  have := dN_p
  exact Nat.le_of_mul_le_mul_right (by rw [h]; exact h2) (show 0 < dN by omega)
theorem sm_mulr (c : Int) (f : Nat → Int) (j : Nat) : sm (fun i => f i * c) j = sm f j * c := by
  have := sm_mul c f j
  rw [Int.mul_comm (sm f j), ← this]
  exact sm_congr _ fun i _ => Int.mul_comm _ _
theorem bz_rec {n m : Nat} (h1 : 1 ≤ m) (h2 : m ≤ n) (hn : n ≤ 200) : sm (fun j => (ch (m + 1) j : Int) * bz n j) m = -(((m : Int) + 1) * bz n m) := by
  have h := tab_rec m h1 (by omega)
  have hd := dN_p
  refine Int.eq_of_mul_eq_mul_right (show (dN : Int) ≠ 0 by omega) ?_
  rw [← sm_mulr]
  have e : sm (fun j => (ch (m + 1) j : Int) * bz n j * dN) m = sm (fun j => (ch (m + 1) j : Int) * bt j * (prm (n + 1) : Int)) m := by
    refine sm_congr _ fun j hj => ?_
    rw [Int.mul_assoc, bz_mul (by omega) hn, ← Int.mul_assoc]
  rw [e, sm_mulr, h, Int.neg_mul, Int.neg_mul, Int.mul_assoc, Int.mul_assoc, bz_mul h2 hn]
/-- The parts of the formula, by the same lower part: those by n^(k + 1 - j). -/
def fq (k j : Nat) : Int := if j = 1 ∧ 1 ≤ k then -((ch (k + 1) j : Int) * bz k j) else (ch (k + 1) j : Int) * bz k j
theorem fq_mul {k j : Nat} (hj : j ≤ k) (hk : k ≤ 200) : fq k j * dN = fp bt k j * (prm (k + 1) : Int) := by
  have h := bz_mul hj hk
  unfold fq fp
  generalize bz k j = x at *
  generalize bt j = y at *
  generalize ((dN : Nat) : Int) = d at *
  generalize (prm (k + 1) : Int) = p at *
  generalize (ch (k + 1) j : Int) = c at *
  split <;> grind
theorem faul (k n : Nat) (hk : k ≤ 200) : sm (fun j => fq k j * (n : Int) ^ (k + 1 - j)) (k + 1) = ((k : Int) + 1) * (prm (k + 1) : Int) * (pk k n : Int) := by
  have hd := dN_p
  refine Int.eq_of_mul_eq_mul_right (show (dN : Int) ≠ 0 by omega) ?_
  rw [← sm_mulr]
  have e : sm (fun j => fq k j * (n : Int) ^ (k + 1 - j) * dN) (k + 1) = sm (fun j => fp bt k j * (n : Int) ^ (k + 1 - j) * (prm (k + 1) : Int)) (k + 1) := by
    refine sm_congr _ fun j hj => ?_
    have h := fq_mul (k := k) (j := j) (by omega) hk
    clear hd
    generalize fq k j = x at *
    generalize fp bt k j = y at *
    generalize ((dN : Nat) : Int) = d at *
    generalize (prm (k + 1) : Int) = p at *
    generalize (n : Int) ^ (k + 1 - j) = z at *
    grind
  rw [e, sm_mulr, faulhaber k n hk]
  clear e hd
  generalize ((dN : Nat) : Int) = d at *
  generalize (prm (k + 1) : Int) = p at *
  generalize (pk k n : Int) = z at *
  grind
/-- The list of the parts. -/
def cf (k i : Nat) : Int := if i = 0 then 0 else fq k (k + 1 - i)
/-- By Horner. -/
def hz (C : Nat → Int) (x : Int) (L : Nat) : Nat → Int
  | 0 => 0
  | t + 1 => hz C x L t * x + C (L - 1 - t)
theorem hz_is (C : Nat → Int) (x : Int) (L : Nat) : ∀ t, hz C x L (t + 1) = sm (fun j => C (L - 1 - j) * x ^ (t - j)) (t + 1)
  | 0 => by simp [hz, sm]
  | t + 1 => by
    show hz C x L (t + 1) * x + C (L - 1 - (t + 1)) = _
    rw [hz_is C x L t, sm_succ _ (t + 1), ← sm_mulr]
    simp only [Nat.sub_self, Int.pow_zero, Int.mul_one]
    congr 1
    refine sm_congr _ fun j hj => ?_
    rw [show t + 1 - j = (t - j) + 1 by omega, Int.pow_succ, Int.mul_assoc]
theorem hz_faul (k n : Nat) (hk : k ≤ 200) : hz (cf k) (n : Int) (k + 2) (k + 2) = ((k : Int) + 1) * (prm (k + 1) : Int) * (pk k n : Int) := by
  show hz (cf k) (n : Int) (k + 2) (k + 1) * (n : Int) + cf k (k + 2 - 1 - (k + 1)) = _
  rw [← faul k n hk, hz_is, ← sm_mulr]
  have e0 : cf k (k + 2 - 1 - (k + 1)) = 0 := by rw [show k + 2 - 1 - (k + 1) = 0 by omega]; rfl
  rw [e0, Int.add_zero]
  refine sm_congr _ fun j hj => ?_
  have e : cf k (k + 2 - 1 - j) = fq k j := by
    unfold cf
    rw [if_neg (by omega), show k + 1 - (k + 2 - 1 - j) = j by omega]
  rw [e, show k + 1 - j = (k - j) + 1 by omega, Int.pow_succ, Int.mul_assoc]
end BN
end Go.Proofs.YtnkjadpmigpneaaGreatDoor
end

section
/- Plain facts: primes, orders, Lucas' and Pratt's theorem, Fermat's and Miller's. -/
set_option linter.unusedVariables false
set_option maxRecDepth 100000
namespace Go.Proofs.YtnkjadpmigpneaaGreatDoor

/-- A prime. -/
def Pr (n : Nat) : Prop := 2 ≤ n ∧ ∀ d, d ∣ n → d = 1 ∨ d = n

theorem pr_divisor (n : Nat) (h : 2 ≤ n) : ∃ p, Pr p ∧ p ∣ n := by
  induction n using Nat.strongRecOn with
  | ind n ih =>
    by_cases hp : ∃ d, d ∣ n ∧ d ≠ 1 ∧ d ≠ n
    · obtain ⟨d, hd, h1, hn⟩ := hp
      have hle : d ≤ n := Nat.le_of_dvd (by omega) hd
      have h0 : d ≠ 0 := by rintro rfl; have := Nat.eq_zero_of_zero_dvd hd; omega
      obtain ⟨p, hp, hpd⟩ := ih d (by omega) (by omega)
      exact ⟨p, hp, Nat.dvd_trans hpd hd⟩
    · refine ⟨n, ⟨h, fun d hd => ?_⟩, Nat.dvd_refl _⟩
      by_cases h1 : d = 1
      · exact .inl h1
      · by_cases h2 : d = n
        · exact .inr h2
        · exact absurd ⟨d, hd, h1, h2⟩ hp

theorem pr_mul {p a b : Nat} (hp : Pr p) (h : p ∣ a * b) : p ∣ a ∨ p ∣ b := by
  rcases hp.2 (Nat.gcd p a) (Nat.gcd_dvd_left ..) with hg | hg
  · exact .inr (Nat.Coprime.dvd_of_dvd_mul_left hg h)
  · refine .inl ?_
    have := Nat.gcd_dvd_right p a
    rwa [hg] at this

theorem pr_pow {p a : Nat} (hp : Pr p) (k : Nat) (h : p ∣ a ^ k) : p ∣ a := by
  induction k with
  | zero =>
    rw [Nat.pow_zero] at h
    have := Nat.le_of_dvd (by decide) h
    have := hp.1
    omega
  | succ k ih =>
    rw [Nat.pow_succ] at h
    rcases pr_mul hp h with h | h
    · exact ih h
    · exact h

/-! ### Orders -/

theorem pow_mod_one {a n N : Nat} (hn : 1 < n) (h : a ^ N % n = 1) (k : Nat) : a ^ (N * k) % n = 1 := by
  rw [Nat.pow_mul, Nat.pow_mod, h, Nat.one_pow, Nat.mod_eq_of_lt hn]

/-- a is invertible: what a^i and a^j leave in common may be divided away. -/
theorem pow_cancel {a n N i j : Nat} (hn : 1 < n) (hN : 0 < N) (h : a ^ N % n = 1) (hij : i ≤ j) (he : a ^ i % n = a ^ j % n) : a ^ (j - i) % n = 1 := by
  have h1 : a ^ (j - i) % n = a ^ (j - i) * a ^ (N * i) % n := by
    rw [Nat.mul_mod, pow_mod_one hn h, Nat.mul_one, Nat.mod_mod]
  have hle : i ≤ N * i := Nat.le_mul_of_pos_left i hN
  have h2 : a ^ (j - i) * a ^ (N * i) = a ^ j * a ^ (N * i - i) := by
    rw [← Nat.pow_add, ← Nat.pow_add]; congr 1; omega
  rw [h1, h2, Nat.mul_mod, ← he, ← Nat.mul_mod, ← Nat.pow_add, show i + (N * i - i) = N * i by omega]
  exact pow_mod_one hn h i

/-- The order of a: the least power that leaves 1; it divides every such power. -/
theorem order_dvd {a n d k : Nat} (hn : 1 < n) (hd : 0 < d) (h : a ^ d % n = 1) (hl : ∀ e, 0 < e → e < d → a ^ e % n ≠ 1) (hk : a ^ k % n = 1) : d ∣ k := by
  have h1 : a ^ k = a ^ (d * (k / d)) * a ^ (k % d) := by
    rw [← Nat.pow_add, Nat.div_add_mod]
  have h2 : a ^ (k % d) % n = 1 := by
    have h3 : a ^ k % n = a ^ (k % d) % n := by
      rw [h1, Nat.mul_mod, pow_mod_one hn h, Nat.one_mul, Nat.mod_mod]
    omega
  by_cases h0 : k % d = 0
  · exact Nat.dvd_of_mod_eq_zero h0
  · exact absurd h2 (hl _ (by omega) (Nat.mod_lt _ hd))

theorem order_least {a n N : Nat} (hN : 0 < N) (h : a ^ N % n = 1) : ∃ d, 0 < d ∧ d ≤ N ∧ a ^ d % n = 1 ∧ ∀ e, 0 < e → e < d → a ^ e % n ≠ 1 := by
  induction N using Nat.strongRecOn with
  | ind N ih =>
    by_cases hx : ∃ e, 0 < e ∧ e < N ∧ a ^ e % n = 1
    · obtain ⟨e, h0, hlt, he⟩ := hx
      obtain ⟨d, h1, h2, h3, h4⟩ := ih e hlt h0 he
      exact ⟨d, h1, by omega, h3, h4⟩
    · exact ⟨N, hN, Nat.le_refl _, h, fun e h0 hlt he => hx ⟨e, h0, hlt, he⟩⟩

/-- (Lucas) Where no power by a prime less leaves 1, no lesser power does. -/
theorem lucas {a n N : Nat} (hn : 1 < n) (hN : 0 < N) (h : a ^ N % n = 1) (hq : ∀ q, Pr q → q ∣ N → a ^ (N / q) % n ≠ 1) : ∀ e, 0 < e → e < N → a ^ e % n ≠ 1 := by
  obtain ⟨d, h0, hle, hd, hl⟩ := order_least hN h
  obtain ⟨m, rfl⟩ := order_dvd hn h0 hd hl h
  by_cases hm : m = 1
  · subst hm; simpa using hl
  · have hm0 : m ≠ 0 := by rintro rfl; simp at hN
    obtain ⟨q, hp, k, rfl⟩ := pr_divisor m (by omega)
    refine absurd ?_ (hq q hp ⟨d * k, by rw [Nat.mul_left_comm]⟩)
    rw [show d * (q * k) = q * (d * k) by rw [Nat.mul_left_comm], Nat.mul_div_cancel_left _ (by have := hp.1; omega)]
    exact pow_mod_one hn hd k

/-! ### Pigeons -/

theorem pigeon (N : Nat) : ∀ f : Nat → Nat, (∀ i, i < N → f i < N) → (∀ i j, i < j → j < N → f i ≠ f j) → ∀ b, b < N → ∃ i, i < N ∧ f i = b := by
  induction N with
  | zero => intro f _ _ b hb; omega
  | succ N ih =>
    intro f hf hi b hb
    by_cases hlast : ∃ i, i < N + 1 ∧ f i = N
    · obtain ⟨k, hk, hkN⟩ := hlast
      -- what is at k and at N is swapped
      have hg : ∀ i, i < N → (if i = k then f N else f i) < N := by
        intro i hlt
        split
        · have h1 := hf N (by omega)
          have h2 : f N ≠ N := by
            intro h
            rcases Nat.lt_or_ge k N with h3 | h3
            · exact hi k N h3 (by omega) (by omega)
            · omega
          omega
        · have h1 := hf i (by omega)
          have h2 : f i ≠ N := by
            intro h
            rcases Nat.lt_trichotomy i k with h3 | h3 | h3
            · exact hi i k h3 hk (by omega)
            · contradiction
            · exact hi k i h3 (by omega) (by omega)
          omega
      have hgi : ∀ i j, i < j → j < N → (if i = k then f N else f i) ≠ (if j = k then f N else f j) := by
        intro i j hij hj
        split <;> split
        · omega
        · exact fun h => hi j N (by omega) (by omega) h.symm
        · exact hi i N (by omega) (by omega)
        · exact hi i j hij (by omega)
      by_cases hbN : b = N
      · exact ⟨k, hk, by omega⟩
      · obtain ⟨i, hlt, he⟩ := ih (fun i => if i = k then f N else f i) hg hgi b (by omega)
        split at he
        · exact ⟨N, by omega, he⟩
        · exact ⟨i, by omega, he⟩
    · exfalso
      have h1 : ∀ i, i < N + 1 → f i < N := by
        intro i hlt
        have h1 := hf i hlt
        have h2 : f i ≠ N := fun h => hlast ⟨i, hlt, h⟩
        omega
      rcases Nat.eq_zero_or_pos N with h0 | h0
      · have := h1 0 (by omega); omega
      · obtain ⟨i, hlt, he⟩ := ih f (fun i hlt => h1 i (by omega)) (fun i j h h' => hi i j h (by omega)) (f N) (h1 N (by omega))
        exact hi i N hlt (by omega) he

/-- All that n leaves but 0 is left by a power of a. -/
theorem powers_all {a n : Nat} (hn : 1 < n) (h : a ^ (n - 1) % n = 1) (hl : ∀ e, 0 < e → e < n - 1 → a ^ e % n ≠ 1) (b : Nat) (hb : 0 < b) (hbn : b < n) : ∃ i, i < n - 1 ∧ a ^ i % n = b := by
  have hpos : ∀ i, a ^ i % n ≠ 0 := by
    intro i h0
    have h1 : a ^ ((n - 1) * i) % n = 1 := pow_mod_one hn h i
    rw [Nat.mul_comm, Nat.pow_mul, Nat.pow_mod, h0, Nat.zero_pow (by omega), Nat.zero_mod] at h1
    omega
  obtain ⟨i, hi, he⟩ := pigeon (n - 1) (fun i => a ^ i % n - 1)
    (fun i hi => by have := hpos i; have := Nat.mod_lt (a ^ i) (show n > 0 by omega); show a ^ i % n - 1 < n - 1; omega)
    (fun i j hij hj => by
      intro he
      have h1 := hpos i
      have h2 := hpos j
      exact hl (j - i) (by omega) (by omega) (pow_cancel hn (by omega) h (by omega) (by omega)))
    (b - 1) (by omega)
  have := hpos i
  exact ⟨i, hi, by omega⟩

theorem prime_of_powers {a n : Nat} (hn : 1 < n) (h : a ^ (n - 1) % n = 1) (hl : ∀ e, 0 < e → e < n - 1 → a ^ e % n ≠ 1) : Pr n := by
  refine ⟨hn, fun d hd => ?_⟩
  by_cases h1 : d = 1
  · exact .inl h1
  by_cases h2 : d = n
  · exact .inr h2
  exfalso
  have hle : d ≤ n := Nat.le_of_dvd (by omega) hd
  have h0 : d ≠ 0 := by rintro rfl; have := Nat.eq_zero_of_zero_dvd hd; omega
  obtain ⟨i, hi, he⟩ := powers_all hn h hl d (by omega) (by omega)
  have h3 : d ∣ a ^ i := by
    rw [← Nat.div_add_mod (a ^ i) n, he]
    exact Nat.dvd_add (Nat.dvd_trans hd (Nat.dvd_mul_right ..)) (Nat.dvd_refl _)
  have h4 : d ∣ a ^ (n - 1) := by
    rw [show n - 1 = i + (n - 1 - i) by omega, Nat.pow_add]
    exact Nat.dvd_trans h3 (Nat.dvd_mul_right ..)
  rw [← Nat.div_add_mod (a ^ (n - 1)) n, h] at h4
  have h5 : d ∣ 1 := (Nat.dvd_add_right (Nat.dvd_trans hd (Nat.dvd_mul_right ..))).mp h4
  have := Nat.le_of_dvd (by decide) h5
  omega

/-- (Fermat) -/
theorem fermat_of_powers {a n : Nat} (hn : 1 < n) (h : a ^ (n - 1) % n = 1) (hl : ∀ e, 0 < e → e < n - 1 → a ^ e % n ≠ 1) (b : Nat) (hb : 0 < b) (hbn : b < n) : b ^ (n - 1) % n = 1 := by
  obtain ⟨i, hi, he⟩ := powers_all hn h hl b hb hbn
  rw [← he, ← Nat.pow_mod, ← Nat.pow_mul, Nat.mul_comm]
  exact pow_mod_one hn h i

/-- A square root of 1, left by a prime. -/
theorem root_one {n y : Nat} (hp : Pr n) (hy : y < n) (h : y * y % n = 1) : y = 1 ∨ y = n - 1 := by
  have h2 := hp.1
  have hy0 : y ≠ 0 := by rintro rfl; simp at h
  have h3 : n ∣ (y - 1) * (y + 1) := by
    have e : (y - 1) * (y + 1) = y * y - 1 := by
      obtain ⟨z, rfl⟩ : ∃ z, y = z + 1 := ⟨y - 1, by omega⟩
      simp only [Nat.add_sub_cancel]
      rw [show (z + 1) * (z + 1) = z * (z + 1 + 1) + 1 by grind]
      omega
    rw [e]
    have := Nat.div_add_mod (y * y) n
    exact ⟨y * y / n, by omega⟩
  rcases pr_mul hp h3 with h4 | h4
  · have := Nat.eq_zero_of_dvd_of_lt h4 (by omega); omega
  · have := Nat.le_of_dvd (by omega) h4; omega

/-- (Miller) Of a prime, what comes behind squarings to 1 begins with 1 or meets -1. -/
theorem miller {n b d : Nat} (hp : Pr n) : ∀ s, b ^ (d * 2 ^ s) % n = 1 → b ^ d % n = 1 ∨ ∃ i, i < s ∧ b ^ (d * 2 ^ i) % n = n - 1 := by
  intro s
  induction s with
  | zero => intro h; simp at h; exact .inl h
  | succ s ih =>
    intro h
    have hlt : b ^ (d * 2 ^ s) % n < n := Nat.mod_lt _ (by have := hp.1; omega)
    have e : b ^ (d * 2 ^ s) % n * (b ^ (d * 2 ^ s) % n) % n = 1 := by
      rw [← Nat.mul_mod, ← Nat.pow_add, ← h]
      congr 2
      rw [Nat.pow_succ, ← Nat.mul_assoc]; omega
    rcases root_one hp hlt e with h1 | h1
    · rcases ih h1 with h2 | ⟨i, hi, h2⟩
      · exact .inl h2
      · exact .inr ⟨i, by omega, h2⟩
    · exact .inr ⟨s, by omega, h1⟩
end Go.Proofs.YtnkjadpmigpneaaGreatDoor
end

section
/- Plain facts: Fermat's theorem of every prime; powers and polynomials a little beside; Hensel's step. -/
set_option linter.unusedVariables false
set_option maxRecDepth 100000
namespace Go.Proofs.YtnkjadpmigpneaaGreatDoor

/-! ### Products over a rearrangement; Fermat's theorem -/

def pd (g : Nat → Nat) : Nat → Nat
  | 0 => 1
  | n + 1 => pd g n * g n

theorem pd_cong {g h : Nat → Nat} : ∀ N, (∀ i, i < N → g i = h i) → pd g N = pd h N := by
  intro N
  induction N with
  | zero => intro _; rfl
  | succ N ih => intro e; rw [pd, pd, ih (fun i hi => e i (by omega)), e N (by omega)]

theorem pd_upd (g : Nat → Nat) (k v : Nat) : ∀ N, k < N → pd g N * v = pd (fun i => if i = k then v else g i) N * g k := by
  intro N
  induction N with
  | zero => intro h; omega
  | succ N ih =>
    intro h
    rw [pd, pd]
    by_cases hk : k = N
    · subst hk
      rw [if_pos rfl, pd_cong (h := fun i => if i = k then v else g i) k (fun i hi => by rw [if_neg (by omega)])]
      rw [Nat.mul_assoc, Nat.mul_assoc, Nat.mul_comm (g k) v]
    · rw [if_neg (by omega), Nat.mul_right_comm, ih (by omega), Nat.mul_right_comm]

theorem pd_perm : ∀ (N : Nat) (f : Nat → Nat), (∀ i, i < N → f i < N) → (∀ i j, i < j → j < N → f i ≠ f j) → ∀ g : Nat → Nat, pd (fun i => g (f i)) N = pd g N := by
  intro N
  induction N with
  | zero => intro f _ _ g; rfl
  | succ N ih =>
    intro f hf hi g
    obtain ⟨k, hk, hkN⟩ := pigeon (N + 1) f hf hi N (by omega)
    by_cases hkn : k = N
    · subst hkn
      have h1 : ∀ i, i < k → f i < k := fun i h => by
        have := hf i (by omega)
        have := hi i k h (by omega)
        omega
      rw [pd, pd, ih f h1 (fun i j h h' => hi i j h (by omega)) g, hkN]
    · have h1 : ∀ i, i < N → (if i = k then f N else f i) < N := by
        intro i h
        split
        · have := hf N (by omega)
          have := hi k N (by omega) (by omega)
          omega
        · have := hf i (by omega)
          rcases Nat.lt_trichotomy i k with h3 | h3 | h3
          · have := hi i k h3 hk; omega
          · contradiction
          · have := hi k i h3 (by omega); omega
      have h2 : ∀ i j, i < j → j < N → (if i = k then f N else f i) ≠ (if j = k then f N else f j) := by
        intro i j hij hj
        split <;> split
        · omega
        · exact fun h => hi j N (by omega) (by omega) h.symm
        · exact hi i N (by omega) (by omega)
        · exact hi i j hij (by omega)
      have h3 := ih _ h1 h2 g
      rw [pd, pd, ← h3, pd_upd (fun i => g (f i)) k (g (f N)) N (by omega), hkN]
      congr 1
      refine pd_cong N (fun i h => ?_)
      split <;> rfl

theorem pd_mod (b p : Nat) : ∀ N, pd (fun i => b * (i + 1) % p) N % p = b ^ N * pd (fun i => i + 1) N % p := by
  intro N
  induction N with
  | zero => simp [pd]
  | succ N ih =>
    rw [pd, pd, Nat.mul_mod, ih, Nat.mod_mod, ← Nat.mul_mod, Nat.pow_succ]
    congr 1
    simp only [Nat.mul_assoc, Nat.mul_left_comm]

theorem pd_free {p : Nat} (hp : Pr p) : ∀ N, N < p → ¬ p ∣ pd (fun i => i + 1) N := by
  intro N
  induction N with
  | zero => intro _ h; have := Nat.le_of_dvd (by decide) h; have := hp.1; simp [pd] at *; omega
  | succ N ih =>
    intro hN h
    rw [pd] at h
    rcases pr_mul hp h with h | h
    · exact ih (by omega) h
    · have := Nat.le_of_dvd (by omega) h; omega

/-- (Fermat) -/
theorem fermat {p b : Nat} (hp : Pr p) (hb : b % p ≠ 0) : b ^ (p - 1) % p = 1 := by
  have h2 := hp.1
  have hnd : ¬ p ∣ b := fun h => hb (Nat.mod_eq_zero_of_dvd h)
  have hne : ∀ i, i < p - 1 → b * (i + 1) % p ≠ 0 := by
    intro i hi h0
    rcases pr_mul hp (Nat.dvd_of_mod_eq_zero h0) with h | h
    · exact hnd h
    · have := Nat.le_of_dvd (by omega) h; omega
  have hlt : ∀ i, b * (i + 1) % p < p := fun i => Nat.mod_lt _ (by omega)
  have hperm := pd_perm (p - 1) (fun i => b * (i + 1) % p - 1) (fun i hi => by have := hne i hi; have := hlt i; show b * (i + 1) % p - 1 < p - 1; omega)
    (fun i j hij hj he => by
      have h1 := hne i (by omega)
      have h3 := hne j hj
      have he : b * (i + 1) % p - 1 = b * (j + 1) % p - 1 := he
      have h4 : b * (i + 1) % p = b * (j + 1) % p := by omega
      have h5 : p ∣ b * (j + 1) - b * (i + 1) := Nat.dvd_of_mod_eq_zero (Nat.sub_mod_eq_zero_of_mod_eq h4.symm)
      rw [← Nat.mul_sub] at h5
      rcases pr_mul hp h5 with h | h
      · exact hnd h
      · have := Nat.le_of_dvd (by omega) h; omega) (fun i => i + 1)
  rw [pd_cong (h := fun i => b * (i + 1) % p) (p - 1) (fun i hi => by have := hne i hi; show b * (i + 1) % p - 1 + 1 = _; omega)] at hperm
  have hm := pd_mod b p (p - 1)
  rw [hperm] at hm
  obtain ⟨G, hG⟩ : ∃ G, G = pd (fun i => i + 1) (p - 1) := ⟨_, rfl⟩
  have hfree := pd_free hp (p - 1) (by omega)
  rw [← hG] at hm hfree
  have hpos : 0 < b ^ (p - 1) := Nat.pow_pos (by rcases Nat.eq_zero_or_pos b with h | h; · subst h; simp at hb
                                                 · exact h)
  have h5 : p ∣ b ^ (p - 1) * G - 1 * G := Nat.dvd_of_mod_eq_zero (Nat.sub_mod_eq_zero_of_mod_eq (by rw [Nat.one_mul]; exact hm.symm))
  rw [← Nat.sub_mul] at h5
  rcases pr_mul hp h5 with h | h
  · obtain ⟨c, hc⟩ := h
    have : b ^ (p - 1) = p * c + 1 := by omega
    rw [this, Nat.mul_add_mod, Nat.mod_eq_of_lt (by omega)]
  · exact absurd h hfree

theorem fermat_all {p : Nat} (hp : Pr p) (b : Nat) : b ^ p % p = b % p := by
  have h2 := hp.1
  obtain ⟨q, rfl⟩ : ∃ q, p = q + 1 := ⟨p - 1, by omega⟩
  by_cases hb : b % (q + 1) = 0
  · rw [Nat.pow_succ, Nat.mul_mod, hb]; simp
  · have := fermat hp hb
    rw [Nat.add_sub_cancel] at this
    rw [Nat.pow_succ, Nat.mul_mod, this, Nat.one_mul, Nat.mod_mod]

/-- (Miller) An odd prime passes. -/
theorem prime_passes {n b t d : Nat} (hp : Pr n) (hb : b % n ≠ 0) (hd : n - 1 = 2 ^ t * d) : b ^ d % n = 1 ∨ ∃ i, i < t ∧ b ^ (d * 2 ^ i) % n = n - 1 :=
  miller hp t (by rw [Nat.mul_comm, ← hd]; exact fermat hp hb)

/-! ### Powers and polynomials a little beside -/

theorem pow_beside (v h : Int) : ∀ m : Nat, ∃ c : Int, (v + h) ^ (m + 1) = v ^ (m + 1) + ((m : Int) + 1) * v ^ m * h + h * h * c := by
  intro m
  induction m with
  | zero => exact ⟨0, by simp [Int.pow_succ]⟩
  | succ m ih =>
    obtain ⟨c, hc⟩ := ih
    refine ⟨v * c + ((m : Int) + 1) * v ^ m + h * c, ?_⟩
    rw [Int.pow_succ, hc, Int.pow_succ v (m + 1), Int.pow_succ v m]
    push_cast
    grind

theorem pow_lift {u v : Int} {p j : Nat} (hp : 1 ≤ p) (hj : 1 ≤ j) (h : ((p : Int) ^ j) ∣ u - v) : ((p : Int) ^ (j + 1)) ∣ u ^ p - v ^ p := by
  obtain ⟨t, ht⟩ := h
  obtain ⟨m, rfl⟩ : ∃ m, p = m + 1 := ⟨p - 1, by omega⟩
  obtain ⟨i, rfl⟩ : ∃ i, j = i + 1 := ⟨j - 1, by omega⟩
  obtain ⟨P, hP⟩ : ∃ P : Int, P = ((m + 1 : Nat) : Int) := ⟨_, rfl⟩
  rw [← hP] at ht ⊢
  obtain ⟨c, hc⟩ := pow_beside v (P ^ (i + 1) * t) m
  have hu : u = v + P ^ (i + 1) * t := by omega
  have hP' : (m : Int) + 1 = P := by rw [hP]; simp
  rw [hu, hc, hP']
  refine ⟨v ^ m * t + P ^ i * t * t * c, ?_⟩
  rw [Int.pow_succ P (i + 1), Int.pow_succ P i]
  grind

/-- (Euler) A power's power leaves the same. -/
theorem teich_fix {p : Nat} (hp : Pr p) (a : Int) (ha : (p : Int) ∣ a ^ p - a) : ∀ k : Nat, 1 ≤ k → ((p : Int) ^ k) ∣ a ^ (p ^ k) - a ^ (p ^ (k - 1)) := by
  intro k hk
  induction k with
  | zero => omega
  | succ k ih =>
    by_cases h0 : k = 0
    · subst h0; simpa [Int.pow_succ] using ha
    · have h := pow_lift (by have := hp.1; omega) (by omega) (ih (by omega))
      rw [← Int.pow_mul, ← Int.pow_mul, ← Nat.pow_succ, ← Nat.pow_succ, show (k - 1).succ = k by omega] at h
      exact h

def pv : List Int → Int → Int
  | [], _ => 0
  | a :: l, x => a + x * pv l x
def dv : List Int → Int → Int
  | [], _ => 0
  | _ :: l, x => pv l x + x * dv l x

theorem pv_beside (l : List Int) (x h : Int) : ∃ c, pv l (x + h) = pv l x + dv l x * h + h * h * c := by
  induction l with
  | nil => exact ⟨0, by simp [pv, dv]⟩
  | cons a l ih =>
    obtain ⟨c, hc⟩ := ih
    refine ⟨x * c + dv l x + h * c, ?_⟩
    simp only [pv, dv, hc]
    grind

theorem pv_same (l : List Int) {x y m : Int} (h : m ∣ x - y) : m ∣ pv l x - pv l y := by
  induction l with
  | nil => simp [pv]
  | cons a l ih =>
    obtain ⟨s, hs⟩ := h
    obtain ⟨t, ht⟩ := ih
    refine ⟨s * pv l x + y * t, ?_⟩
    simp only [pv]
    grind

theorem dv_same (l : List Int) {x y m : Int} (h : m ∣ x - y) : m ∣ dv l x - dv l y := by
  induction l with
  | nil => simp [dv]
  | cons a l ih =>
    obtain ⟨r, hr⟩ := pv_same l h
    obtain ⟨s, hs⟩ := h
    obtain ⟨t, ht⟩ := ih
    refine ⟨r + s * dv l x + y * t, ?_⟩
    simp only [dv]
    grind

/-- The numbers of the derivative, from place k on. -/
def dl : Nat → List Int → List Int
  | _, [] => []
  | k, a :: l => (k : Int) * a :: dl (k + 1) l

theorem pv_dl (l : List Int) (x : Int) : ∀ k : Nat, pv (dl k l) x = (k : Int) * pv l x + x * dv l x := by
  induction l with
  | nil => intro k; simp [dl, pv, dv]
  | cons a l ih =>
    intro k
    simp only [dl, pv, dv, ih]
    push_cast
    grind

theorem dv_dl (a : Int) (l : List Int) (x : Int) : dv (a :: l) x = pv (dl 1 l) x := by
  rw [pv_dl]; simp [dv]

theorem pv_congr (m : Int) (x : Int) : ∀ l l' : List Int, l.length = l'.length → (∀ i, i < l.length → m ∣ l.getD i 0 - l'.getD i 0) → m ∣ pv l x - pv l' x := by
  intro l
  induction l with
  | nil => intro l' h _; cases l' with
    | nil => simp [pv]
    | cons _ _ => simp at h
  | cons a l ih =>
    intro l' h he
    cases l' with
    | nil => simp at h
    | cons b l' =>
      obtain ⟨s, hs⟩ := ih l' (by simpa using h) (fun i hi => by have := he (i + 1) (by simp; omega); simpa using this)
      have h0 := he 0 (by simp)
      simp at h0
      obtain ⟨t, ht⟩ := h0
      refine ⟨t + x * s, ?_⟩
      simp only [pv]
      grind

theorem pv_drop (l : List Int) (x : Int) (k : Nat) (hk : k < l.length) : pv (l.drop k) x = l.getD k 0 + x * pv (l.drop (k + 1)) x := by
  rw [List.drop_eq_getElem_cons hk, pv, List.getD_eq_getElem?_getD, List.getElem?_eq_getElem hk]; rfl

theorem pv_take (x : Int) : ∀ (l : List Int) (i : Nat), i < l.length → pv (l.take (i + 1)) x = pv (l.take i) x + l.getD i 0 * x ^ i := by
  intro l
  induction l with
  | nil => intro i h; simp at h
  | cons a l ih =>
    intro i h
    cases i with
    | zero => simp [pv]
    | succ i =>
      have := ih i (by simpa using h)
      simp only [List.take_succ_cons, pv, List.getD_cons_succ] at this ⊢
      rw [this, Int.pow_succ]
      grind

theorem dv_take (x : Int) : ∀ (l : List Int) (i : Nat), 1 ≤ i → i < l.length → dv (l.take (i + 1)) x = dv (l.take i) x + l.getD i 0 * i * x ^ (i - 1) := by
  intro l
  induction l with
  | nil => intro i _ h; simp at h
  | cons a l ih =>
    intro i h1 h
    obtain ⟨i, rfl⟩ : ∃ j, i = j + 1 := ⟨i - 1, by omega⟩
    have h' : i < l.length := by simpa using h
    have hp := pv_take x l i h'
    simp only [List.take_succ_cons, dv, List.getD_cons_succ, Nat.add_sub_cancel]
    by_cases h0 : i = 0
    · subst h0
      rw [hp]
      cases l with
      | nil => simp at h'
      | cons b l => simp [dv, pv]
    · have hd := ih i (by omega) h'
      obtain ⟨r, rfl⟩ : ∃ r, i = r + 1 := ⟨i - 1, by omega⟩
      rw [hp, hd, Nat.add_sub_cancel, Int.pow_succ]
      push_cast
      grind

/-- (Hensel) One step. -/
theorem hensel_step {l : List Int} {j : Nat} {P x x0 v y : Int} (hj : 1 ≤ j) (hx : P ∣ x - x0) (hr : (P ^ j) ∣ pv l x) (hv : P ∣ dv l x0 * v - 1)
    (hy : (P ^ (j + 1)) ∣ y - (x - pv l x * v)) : P ∣ y - x0 ∧ (P ^ (j + 1)) ∣ pv l y := by
  obtain ⟨i, rfl⟩ : ∃ i, j = i + 1 := ⟨j - 1, by omega⟩
  have hd := dv_same l hx
  obtain ⟨t, ht⟩ := hr
  obtain ⟨c, hc⟩ := pv_beside l x (-(pv l x * v))
  obtain ⟨z, hz⟩ := hx
  obtain ⟨s, hs⟩ := hv
  obtain ⟨r, hrr⟩ := hd
  have hsame := pv_same l hy
  obtain ⟨q, hq⟩ := hy
  obtain ⟨g, hg⟩ := hsame
  rw [Int.pow_succ P (i + 1), Int.pow_succ P i] at hq hg ⊢
  rw [Int.pow_succ P i] at ht
  constructor
  · exact ⟨z + P ^ i * P * q - P ^ i * t * v, by grind⟩
  · have e : x - pv l x * v = x + -(pv l x * v) := by omega
    rw [e] at hg
    obtain ⟨A, hA⟩ : ∃ A, A = pv l x := ⟨_, rfl⟩
    obtain ⟨D, hD⟩ : ∃ D, D = dv l x := ⟨_, rfl⟩
    rw [← hA, ← hD] at hc
    rw [← hD] at hrr
    rw [← hA] at ht hg
    rw [hc] at hg
    obtain ⟨E, hE⟩ : ∃ E, E = dv l x0 := ⟨_, rfl⟩
    rw [← hE] at hrr hs
    obtain ⟨Y, hY⟩ : ∃ Y, Y = pv l y := ⟨_, rfl⟩
    rw [← hY] at hg ⊢
    clear hc hA hD hE hY e hq
    obtain ⟨Q, hQ⟩ : ∃ Q, Q = P ^ i := ⟨_, rfl⟩
    rw [← hQ] at ht hg ⊢
    have hdv : D * v = 1 + P * (s + r * v) := by grind
    refine ⟨g - t * (s + r * v) + Q * t * t * v * v * c, ?_⟩
    have e1 : Y = Q * P * P * g + (A + D * -(A * v) + -(A * v) * -(A * v) * c) := by omega
    rw [e1, ht]
    have e2 : Q * P * t + D * -(Q * P * t * v) = Q * P * t * (1 - D * v) := by grind
    rw [e2, hdv]
    grind

end Go.Proofs.YtnkjadpmigpneaaGreatDoor
end
