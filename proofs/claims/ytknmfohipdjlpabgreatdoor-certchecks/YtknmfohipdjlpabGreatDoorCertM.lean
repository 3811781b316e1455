/- Plain facts: what a certificate asks of a part, and Pratt's theorem for it. -/
import Derived.Test.YtknmfohipdjlpabGreatDoorMathF
set_option linter.unusedVariables false
set_option maxRecDepth 100000
namespace Go.Proofs.YtknmfohipdjlpabGreatDoor

/-- What is left of l when q is divided away, as often as it divides. -/
def strip (q l : Nat) : Nat := if h : 1 < q ∧ 0 < l ∧ l % q = 0 then strip q (l / q) else l
termination_by l
decreasing_by exact Nat.div_lt_self h.2.1 h.1

theorem strip_go {q l : Nat} (h1 : 1 < q) (h2 : 0 < l) (h3 : l % q = 0) : strip q l = strip q (l / q) := by
  rw [strip, dif_pos ⟨h1, h2, h3⟩]
theorem strip_end {q l : Nat} (h : l % q ≠ 0) : strip q l = l := by
  rw [strip, dif_neg (fun k => h k.2.2)]

theorem strip_pow {q : Nat} (h1 : 1 < q) : ∀ l, 0 < l → ∃ e, l = q ^ e * strip q l ∧ 0 < strip q l ∧ strip q l ≤ l := by
  intro l
  induction l using Nat.strongRecOn with
  | ind l ih =>
    intro h0
    by_cases h3 : l % q = 0
    · have hlt : l / q < l := Nat.div_lt_self h0 h1
      have hd : q ∣ l := Nat.dvd_of_mod_eq_zero h3
      have hpos : 0 < l / q := Nat.div_pos (Nat.le_of_dvd h0 hd) (by omega)
      obtain ⟨e, he, hp, hle⟩ := ih (l / q) hlt hpos
      rw [strip_go h1 h0 h3]
      refine ⟨e + 1, ?_, hp, by omega⟩
      rw [Nat.pow_succ, Nat.mul_right_comm, ← he, Nat.div_mul_cancel hd]
    · rw [strip_end h3]
      exact ⟨0, by simp, h0, Nat.le_refl _⟩

/-- The Ns of the parts rise above last, and take left apart to 1. -/
def strips (left : Nat) (last : Int) : List Int → Bool
  | [] => left == 1
  | q :: t => if q ≤ last ∨ left % q.toNat ≠ 0 then false else strips (strip q.toNat left) q t

theorem strips_prime : ∀ (qs : List Int) (left : Nat) (last : Int), 1 ≤ last → 0 < left → strips left last qs = true → ∀ p, Pr p → p ∣ left → ∃ q ∈ qs, p ∣ q.toNat := by
  intro qs
  induction qs with
  | nil =>
    intro left last _ _ h p hp hd
    simp [strips] at h
    subst h
    have := Nat.le_of_dvd (by decide) hd
    have := hp.1
    omega
  | cons q t ih =>
    intro left last hl h0 h p hp hd
    rw [strips] at h
    split at h
    · cases h
    · rename_i hc
      simp only [not_or] at hc
      obtain ⟨e, he, hp0, hle⟩ := strip_pow (q := q.toNat) (by omega) left h0
      rw [he] at hd
      rcases pr_mul hp hd with h1 | h1
      · exact ⟨q, by simp, pr_pow hp e h1⟩
      · obtain ⟨r, hr, hpr⟩ := ih _ q (by omega) hp0 h p hp h1
        exact ⟨r, by simp [hr], hpr⟩

theorem strips_pos : ∀ (qs : List Int) (left : Nat) (last : Int), strips left last qs = true → ∀ q ∈ qs, last < q := by
  intro qs
  induction qs with
  | nil => intro _ _ _ q hq; cases hq
  | cons q t ih =>
    intro left last h x hx
    rw [strips] at h
    split at h
    · cases h
    · rename_i hc
      simp only [not_or] at hc
      rcases List.mem_cons.1 hx with h1 | h1
      · omega
      · have := ih _ _ h x h1; omega

/-- Root and Parts are as they should be. -/
def formedB (n r : Int) (qs : List Int) : Bool :=
  if n = 2 then decide (r = 0) && qs.isEmpty else if r < 2 ∨ n ≤ r then false else strips (n - 1).toNat 1 qs

def rootB (n r : Int) (q : Int) : Bool := r.toNat ^ ((n - 1).toNat / q.toNat) % n.toNat != 1

/-- The powers of the Root are what they should be. -/
def truthB (n r : Int) (qs : List Int) : Bool :=
  if n = 2 then true else (r.toNat ^ (n - 1).toNat % n.toNat == 1) && qs.all (rootB n r)

def codeOf (n r : Int) (qs : List Int) : Int :=
  if n < 2 ∨ 1000000000000000000 < n then 3 else if formedB n r qs = true then (if truthB n r qs = true then 0 else 10) else 6

/-- A prime, of which Fermat's theorem holds. -/
def Fp (n : Nat) : Prop := Pr n ∧ ∀ b, 0 < b → b < n → b ^ (n - 1) % n = 1

theorem fp_two : Fp 2 := by
  refine ⟨⟨Nat.le_refl _, fun d hd => ?_⟩, fun b h0 h1 => ?_⟩
  · have := Nat.le_of_dvd (by decide) hd
    have : d ≠ 0 := by rintro rfl; have := Nat.eq_zero_of_zero_dvd hd; omega
    omega
  · obtain rfl : b = 1 := by omega
    rfl

/-- (Pratt) A part of which nothing is wrong is a prime's, if its Parts are. -/
theorem pratt {n r : Int} {qs : List Int} (h : codeOf n r qs = 0) (hq : ∀ q ∈ qs, Pr q.toNat) : 2 ≤ n ∧ n ≤ 1000000000000000000 ∧ Fp n.toNat := by
  unfold codeOf at h
  split at h
  · cases h
  rename_i h1
  simp only [not_or] at h1
  refine ⟨by omega, by omega, ?_⟩
  split at h
  · rename_i hf
    split at h
    · rename_i ht
      by_cases h2 : n = 2
      · subst h2; exact fp_two
      · rw [formedB, if_neg h2] at hf
        rw [truthB, if_neg h2] at ht
        split at hf
        · cases hf
        · rename_i hr
          simp only [not_or] at hr
          simp only [Bool.and_eq_true, beq_iff_eq, List.all_eq_true] at ht
          obtain ⟨N, hN⟩ : ∃ N : Nat, n.toNat = N := ⟨_, rfl⟩
          have e1 : (n - 1).toNat = N - 1 := by omega
          have hlt : 1 < N := by omega
          obtain ⟨ht1, ht2⟩ := ht
          rw [e1] at hf ht1
          rw [hN] at ht1 ⊢
          have hl := lucas hlt (by omega) ht1 (fun q hp hd => by
            obtain ⟨q', hq', hdq⟩ := strips_prime qs (N - 1) 1 (by omega) (by omega) hf q hp hd
            have hqq : q = q'.toNat := by
              rcases (hq q' hq').2 q hdq with h5 | h5
              · have := hp.1; omega
              · exact h5
            have h6 := ht2 q' hq'
            simp only [rootB, bne_iff_ne, e1, hN] at h6
            rw [hqq]; exact h6)
          exact ⟨prime_of_powers hlt ht1 hl, fun b h0 hb => fermat_of_powers hlt ht1 hl b h0 hb⟩
    · cases h
  · cases h
end Go.Proofs.YtknmfohipdjlpabGreatDoor
