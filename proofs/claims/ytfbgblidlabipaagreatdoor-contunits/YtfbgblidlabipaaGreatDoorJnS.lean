import Derived.Test.YtfbgblidlabipaaGreatDoorJnI
import Derived.Test.YtfbgblidlabipaaGreatDoorJnD
import Derived.Test.YtfbgblidlabipaaGreatDoorJnJ
section
/- prime.isPrime at the primes up to 23. -/
set_option linter.unusedSimpArgs false
set_option linter.unusedVariables false
set_option maxRecDepth 100000
namespace Go.Proofs.YtfbgblidlabipaaGreatDoor
open Go.RowKit
attribute [local go_sem] Oper.semAt_some

def nine : List Int := [2, 3, 5, 7, 11, 13, 17, 19, 23]
theorem nine_pr : nine <+: pr10 := ⟨[29], rfl⟩
theorem nine_size : ∀ x ∈ nine, 2 ≤ x ∧ x ≤ 23 := by decide +kernel
theorem nine_own : ∀ N ∈ nine, ∀ x ∈ nine, N % x = 0 → N = x := by decide +kernel

set_option maxHeartbeats 1000000 in
theorem isPrime_nine (N : Int) (hN : N ∈ nine) (w : World) :
    Calls Tryz.prog 242 #[.int .i64 N] w fun e w' => e = .returned (.bool true) ∧ Below w.heap.size w w' := by
  have HN : Hid (N ∈ nine) := hN
  have hN1 := (nine_size N hN).1
  have hN2 := (nine_size N hN).2
  have hNl : decide (N < 2) = false := decide_eq_false (by omega)
  clear hN
  refine (callsIn_wide (n := 5)).1 ?_
  refine callsIn_of_wp_marks Tryz.func242 rfl trivial ?_ rfl
  simp only [Tryz.ntmps242, List.size_toArray, List.length_cons, List.length_nil, Nat.reduceAdd, Nat.reduceSub, Array.replicate_succ, Array.replicate_zero, List.push_toArray, List.append_toArray, List.nil_append, List.cons_append]
  gi_wp2
  obtain ⟨W0, hW0⟩ : ∃ W0, W0 = (w.alloc (.cells #[.int .i64 N] 3)).alloc (.cells #[.bool false] 4) := ⟨_, rfl⟩
  rw [← hW0]
  have z0 : W0.heap.size = w.heap.size + 2 := by rw [hW0]; simp
  have v0 : Vr w.heap.size (.int .i64 N) W0 := by
    rw [hW0]; exact ⟨by rw [cell_old_at _ _ _ (by simp), cell_new_at _ _ _ _ _ rfl]; rfl, by rw [frozen_old_at _ _ _ (by simp), frozen_new_at _ _ _ _ _ rfl]⟩
  have v1 : Vr (w.heap.size + 1) (.bool false) W0 := by
    rw [hW0]; exact ⟨by rw [cell_new_at _ _ _ _ _ (by simp)]; rfl, by rw [frozen_new_at _ _ _ _ _ (by simp)]⟩
  have k0 : Below w.heap.size w W0 := by rw [hW0]; exact ((Below.refl _ _).alloc (Nat.le_refl _) _).alloc (by simp) _
  clear hW0
  refine wpIn_rangeO (F := Fence.wide) (n := 5) rfl (by decide) (gf := 204) rfl trivial (enters_of Tryz.func204 (by kernel_rfl) rfl) ((rising_ten Fence.wide (5 - 1) trivial rfl (by decide)).sub nine_pr) rfl
    (fun o pre W => ow (w.heap.size + 2) o W ∧ (∀ y ∈ pre, N % y ≠ 0) ∧ Vr w.heap.size (.int .i64 N) W ∧ Vr (w.heap.size + 1) (.bool false) W ∧ Below w.heap.size w W)
    (fun c o pre W => c = .ret ∧ Vr (w.heap.size + 1) (.bool true) W ∧ Below w.heap.size w W)
    ?ab ?abp ?abx ⟨⟨by omega, by intro g e; cases e⟩, by simp, v0, v1, k0⟩
    (fun x => { tmps := #[.int .i64 N, .pointer (some ⟨w.heap.size, 0, none⟩), .pointer (some ⟨w.heap.size + 1, 0, none⟩), .int .i64 x, undef, .int .i64 N, .bool false, .int .i64 x, undef, undef, undef, undef, undef, undef, undef, undef, undef, undef, undef, undef, undef, undef, undef], defers := [] }) ?assign ?body ?hend ?stop
  case ab =>
    rintro o s A B o' ⟨h1, h2, h3, h4, h5⟩ hg ho
    exact ⟨h1.step hg ho, h2, h3.grown hg (h1.ne (by omega)), h4.grown hg (h1.ne (by omega)), h5.grown hg h5.size (fun k e => by have := h1.2 k e; omega)⟩
  case abp =>
    rintro o s A ob ⟨h1, h2, h3, h4, h5⟩
    exact ⟨h1.put ob, h2, h3.put ob (by omega), h4.put ob (by omega), h5.grown (grownBy_putObj' A _ ob) h5.size (fun k e => by cases e; omega)⟩
  case abx =>
    rintro c o s A ob ⟨h1, h2, h3⟩
    exact ⟨h1, h2.put ob (by omega), h3.grown (grownBy_putObj' A _ ob) h3.size (fun k e => by cases e; omega)⟩
  case assign =>
    intro l x W K hK
    gi_wp2
    exact hK
  case body =>
    rintro l o pre x W ⟨ho, hp, hv0, hv1, hB⟩ hog hpre hz
    have hx : x ∈ nine := hpre.subset (by simp)
    obtain ⟨hx1, hx2⟩ := nine_size x hx
    have hxb : decide ((23 : Int) < x) = false := decide_eq_false (by omega)
    have hx0 : (x == 0) = false := beq_eq_false_iff_ne.2 (by omega)
    have HP : Hid (∀ y ∈ pre, N % y ≠ 0) := hp
    have HX : Hid (x ∈ nine) := hx
    have KW : Hid (Below w.heap.size w W) := hB
    have HO : Hid (ow (w.heap.size + 2) o W) := ho
    have V0 : Hid (Vr w.heap.size (.int .i64 N) W) := hv0
    have V1 : Hid (Vr (w.heap.size + 1) (.bool false) W) := hv1
    have HOG : Hid (∀ g, o = some g → W0.heap.size + 2 ≤ g ∧ g < W.heap.size) := hog
    have q0 := hv0.c
    have q1 := hv1.c
    have q2 := hv1.f
    clear hp hx hpre hB ho hv0 hv1 hog
    by_cases hm : N % x = 0
    · have hmb : ((N % x) == 0) = true := by rw [hm]; rfl
      have hNx : N = x := nine_own N HN.out x HX.out hm
      have hNb : (N == x) = true := beq_iff_eq.2 hNx
      clear hm hNx
      gi_wp2
      refine ⟨(KP.refl _ _).setCell (fun h => ?_) _, rfl, V1.out.set _, KW.out.setCell (by simp) _⟩
      rcases h with h | h | h
      · simp at h; omega
      · simp at h; omega
      · have := (HOG.out _ h).1; simp at this; omega
    · have hmb : ((N % x) == 0) = false := beq_eq_false_iff_ne.2 hm
      have HM : Hid (N % x ≠ 0) := hm
      clear hm
      gi_wp2
      refine ⟨KP.refl _ _, HO.out, fun y hy => ?_, V0.out, V1.out, KW.out⟩
      rcases List.mem_append.1 hy with h | h
      · exact HP.out y h
      · simp at h; subst h; exact HM.out
  case hend =>
    rintro o W ⟨_, hp, _⟩
    exact hp N HN.out (by rw [Int.emod_self])
  case stop =>
    rintro c o pre W ⟨rfl, hr, hB⟩ hK
    gi_wp2
    refine ⟨by simp, .inl ⟨_, _, rfl, run_takeDeferred hK, ?_⟩⟩
    have hc5 := (hr.put (l := W0.heap.size) (.deferred none) (by omega)).c
    refine ⟨.bool true, ?_, rfl, hB.grown (grownBy_putObj' W W0.heap.size (.deferred none)) hB.size (fun k e => by cases e; omega)⟩
    simp [results, Tryz.f242, go_sem, hc5]

end Go.Proofs.YtfbgblidlabipaaGreatDoor
end

section
/- Plain facts: primes, orders, Lucas' and Pratt's theorem, Fermat's and Miller's. -/
set_option linter.unusedVariables false
set_option maxRecDepth 100000
namespace Go.Proofs.YtfbgblidlabipaaGreatDoor

/-- A prime. -/
def Pr (n : Nat) : Prop := 2 ≤ n ∧ ∀ d, d ∣ n → d = 1 ∨ d = n

theorem pr_divisor (n : Nat) (h : 2 ≤ n) : ∃ p, Pr p ∧ p ∣ n := by
  induction n using Nat.strongRecOn with
  | ind n ih =>
    by_cases hp : ∃ d, d ∣ n ∧ d ≠ 1 ∧ d ≠ n
    · obtain ⟨d, hd, h1, hn⟩ := hp
      have hle : d ≤ n := Nat.le_of_dvd (by omega) hd
      have h0 : d ≠ 0 := by rintro rfl; have := Nat.eq_zero_of_zero_dvd hd; omega
      obtain ⟨p, hp, hpd⟩ := ih d (by omega) (by omega)
      exact ⟨p, hp, Nat.dvd_trans hpd hd⟩
    · refine ⟨n, ⟨h, fun d hd => ?_⟩, Nat.dvd_refl _⟩
      by_cases h1 : d = 1
      · exact .inl h1
      · by_cases h2 : d = n
        · exact .inr h2
        · exact absurd ⟨d, hd, h1, h2⟩ hp

theorem pr_mul {p a b : Nat} (hp : Pr p) (h : p ∣ a * b) : p ∣ a ∨ p ∣ b := by
  rcases hp.2 (Nat.gcd p a) (Nat.gcd_dvd_left ..) with hg | hg
  · exact .inr (Nat.Coprime.dvd_of_dvd_mul_left hg h)
  · refine .inl ?_
    have := Nat.gcd_dvd_right p a
    rwa [hg] at this

theorem pr_pow {p a : Nat} (hp : Pr p) (k : Nat) (h : p ∣ a ^ k) : p ∣ a := by
  induction k with
  | zero =>
    rw [Nat.pow_zero] at h
    have := Nat.le_of_dvd (by decide) h
    have := hp.1
    omega
  | succ k ih =>
    rw [Nat.pow_succ] at h
    rcases pr_mul hp h with h | h
    · exact ih h
    · exact h

/-! ### Orders -/

theorem pow_mod_one {a n N : Nat} (hn : 1 < n) (h : a ^ N % n = 1) (k : Nat) : a ^ (N * k) % n = 1 := by
  rw [Nat.pow_mul, Nat.pow_mod, h, Nat.one_pow, Nat.mod_eq_of_lt hn]

/-- a is invertible: what a^i and a^j leave in common may be divided away. -/
theorem pow_cancel {a n N i j : Nat} (hn : 1 < n) (hN : 0 < N) (h : a ^ N % n = 1) (hij : i ≤ j) (he : a ^ i % n = a ^ j % n) : a ^ (j - i) % n = 1 := by
  have h1 : a ^ (j - i) % n = a ^ (j - i) * a ^ (N * i) % n := by
    rw [Nat.mul_mod, pow_mod_one hn h, Nat.mul_one, Nat.mod_mod]
  have hle : i ≤ N * i := Nat.le_mul_of_pos_left i hN
  have h2 : a ^ (j - i) * a ^ (N * i) = a ^ j * a ^ (N * i - i) := by
    rw [← Nat.pow_add, ← Nat.pow_add]; congr 1; omega
  rw [h1, h2, Nat.mul_mod, ← he, ← Nat.mul_mod, ← Nat.pow_add, show i + (N * i - i) = N * i by omega]
  exact pow_mod_one hn h i

/-- The order of a: the least power that leaves 1; it divides every such power. -/
theorem order_dvd {a n d k : Nat} (hn : 1 < n) (hd : 0 < d) (h : a ^ d % n = 1) (hl : ∀ e, 0 < e → e < d → a ^ e % n ≠ 1) (hk : a ^ k % n = 1) : d ∣ k := by
  have h1 : a ^ k = a ^ (d * (k / d)) * a ^ (k % d) := by
    rw [← Nat.pow_add, Nat.div_add_mod]
  have h2 : a ^ (k % d) % n = 1 := by
    have h3 : a ^ k % n = a ^ (k % d) % n := by
      rw [h1, Nat.mul_mod, pow_mod_one hn h, Nat.one_mul, Nat.mod_mod]
    omega
  by_cases h0 : k % d = 0
  · exact Nat.dvd_of_mod_eq_zero h0
  · exact absurd h2 (hl _ (by omega) (Nat.mod_lt _ hd))

theorem order_least {a n N : Nat} (hN : 0 < N) (h : a ^ N % n = 1) : ∃ d, 0 < d ∧ d ≤ N ∧ a ^ d % n = 1 ∧ ∀ e, 0 < e → e < d → a ^ e % n ≠ 1 := by
  induction N using Nat.strongRecOn with
  | ind N ih =>
    by_cases hx : ∃ e, 0 < e ∧ e < N ∧ a ^ e % n = 1
    · obtain ⟨e, h0, hlt, he⟩ := hx
      obtain ⟨d, h1, h2, h3, h4⟩ := ih e hlt h0 he
      exact ⟨d, h1, by omega, h3, h4⟩
    · exact ⟨N, hN, Nat.le_refl _, h, fun e h0 hlt he => hx ⟨e, h0, hlt, he⟩⟩

/-- (Lucas) Where no power by a prime less leaves 1, no lesser power does. -/
theorem lucas {a n N : Nat} (hn : 1 < n) (hN : 0 < N) (h : a ^ N % n = 1) (hq : ∀ q, Pr q → q ∣ N → a ^ (N / q) % n ≠ 1) : ∀ e, 0 < e → e < N → a ^ e % n ≠ 1 := by
  obtain ⟨d, h0, hle, hd, hl⟩ := order_least hN h
  obtain ⟨m, rfl⟩ := order_dvd hn h0 hd hl h
  by_cases hm : m = 1
  · subst hm; simpa using hl
  · have hm0 : m ≠ 0 := by rintro rfl; simp at hN
    obtain ⟨q, hp, k, rfl⟩ := pr_divisor m (by omega)
    refine absurd ?_ (hq q hp ⟨d * k, by rw [Nat.mul_left_comm]⟩)
    rw [show d * (q * k) = q * (d * k) by rw [Nat.mul_left_comm], Nat.mul_div_cancel_left _ (by have := hp.1; omega)]
    exact pow_mod_one hn hd k

/-! ### Pigeons -/

theorem pigeon (N : Nat) : ∀ f : Nat → Nat, (∀ i, i < N → f i < N) → (∀ i j, i < j → j < N → f i ≠ f j) → ∀ b, b < N → ∃ i, i < N ∧ f i = b := by
  induction N with
  | zero => intro f _ _ b hb; omega
  | succ N ih =>
    intro f hf hi b hb
    by_cases hlast : ∃ i, i < N + 1 ∧ f i = N
    · obtain ⟨k, hk, hkN⟩ := hlast
      -- what is at k and at N is swapped
      have hg : ∀ i, i < N → (if i = k then f N else f i) < N := by
        intro i hlt
        split
        · have h1 := hf N (by omega)
          have h2 : f N ≠ N := by
            intro h
            rcases Nat.lt_or_ge k N with h3 | h3
            · exact hi k N h3 (by omega) (by omega)
            · omega
          omega
        · have h1 := hf i (by omega)
          have h2 : f i ≠ N := by
            intro h
            rcases Nat.lt_trichotomy i k with h3 | h3 | h3
            · exact hi i k h3 hk (by omega)
            · contradiction
            · exact hi k i h3 (by omega) (by omega)
          omega
      have hgi : ∀ i j, i < j → j < N → (if i = k then f N else f i) ≠ (if j = k then f N else f j) := by
        intro i j hij hj
        split <;> split
        · omega
        · exact fun h => hi j N (by omega) (by omega) h.symm
        · exact hi i N (by omega) (by omega)
        · exact hi i j hij (by omega)
      by_cases hbN : b = N
      · exact ⟨k, hk, by omega⟩
      · obtain ⟨i, hlt, he⟩ := ih (fun i => if i = k then f N else f i) hg hgi b (by omega)
        split at he
        · exact ⟨N, by omega, he⟩
        · exact ⟨i, by omega, he⟩
    · exfalso
      have h1 : ∀ i, i < N + 1 → f i < N := by
        intro i hlt
        have h1 := hf i hlt
        have h2 : f i ≠ N := fun h => hlast ⟨i, hlt, h⟩
        omega
      rcases Nat.eq_zero_or_pos N with h0 | h0
      · have := h1 0 (by omega); omega
      · obtain ⟨i, hlt, he⟩ := ih f (fun i hlt => h1 i (by omega)) (fun i j h h' => hi i j h (by omega)) (f N) (h1 N (by omega))
        exact hi i N hlt (by omega) he

/-- All that n leaves but 0 is left by a power of a. -/
theorem powers_all {a n : Nat} (hn : 1 < n) (h : a ^ (n - 1) % n = 1) (hl : ∀ e, 0 < e → e < n - 1 → a ^ e % n ≠ 1) (b : Nat) (hb : 0 < b) (hbn : b < n) : ∃ i, i < n - 1 ∧ a ^ i % n = b := by
  have hpos : ∀ i, a ^ i % n ≠ 0 := by
    intro i h0
    have h1 : a ^ ((n - 1) * i) % n = 1 := pow_mod_one hn h i
    rw [Nat.mul_comm, Nat.pow_mul, Nat.pow_mod, h0, Nat.zero_pow (by omega), Nat.zero_mod] at h1
    omega
  obtain ⟨i, hi, he⟩ := pigeon (n - 1) (fun i => a ^ i % n - 1)
    (fun i hi => by have := hpos i; have := Nat.mod_lt (a ^ i) (show n > 0 by omega); show a ^ i % n - 1 < n - 1; omega)
    (fun i j hij hj => by
      intro he
      have h1 := hpos i
      have h2 := hpos j
      exact hl (j - i) (by omega) (by omega) (pow_cancel hn (by omega) h (by omega) (by omega)))
    (b - 1) (by omega)
  have := hpos i
  exact ⟨i, hi, by omega⟩

theorem prime_of_powers {a n : Nat} (hn : 1 < n) (h : a ^ (n - 1) % n = 1) (hl : ∀ e, 0 < e → e < n - 1 → a ^ e % n ≠ 1) : Pr n := by
  refine ⟨hn, fun d hd => ?_⟩
  by_cases h1 : d = 1
  · exact .inl h1
  by_cases h2 : d = n
  · exact .inr h2
  exfalso
  have hle : d ≤ n := Nat.le_of_dvd (by omega) hd
  have h0 : d ≠ 0 := by rintro rfl; have := Nat.eq_zero_of_zero_dvd hd; omega
  obtain ⟨i, hi, he⟩ := powers_all hn h hl d (by omega) (by omega)
  have h3 : d ∣ a ^ i := by
    rw [← Nat.div_add_mod (a ^ i) n, he]
    exact Nat.dvd_add (Nat.dvd_trans hd (Nat.dvd_mul_right ..)) (Nat.dvd_refl _)
  have h4 : d ∣ a ^ (n - 1) := by
    rw [show n - 1 = i + (n - 1 - i) by omega, Nat.pow_add]
    exact Nat.dvd_trans h3 (Nat.dvd_mul_right ..)
  rw [← Nat.div_add_mod (a ^ (n - 1)) n, h] at h4
  have h5 : d ∣ 1 := (Nat.dvd_add_right (Nat.dvd_trans hd (Nat.dvd_mul_right ..))).mp h4
  have := Nat.le_of_dvd (by decide) h5
  omega

/-- (Fermat) -/
theorem fermat_of_powers {a n : Nat} (hn : 1 < n) (h : a ^ (n - 1) % n = 1) (hl : ∀ e, 0 < e → e < n - 1 → a ^ e % n ≠ 1) (b : Nat) (hb : 0 < b) (hbn : b < n) : b ^ (n - 1) % n = 1 := by
  obtain ⟨i, hi, he⟩ := powers_all hn h hl b hb hbn
  rw [← he, ← Nat.pow_mod, ← Nat.pow_mul, Nat.mul_comm]
  exact pow_mod_one hn h i

/-- A square root of 1, left by a prime. -/
theorem root_one {n y : Nat} (hp : Pr n) (hy : y < n) (h : y * y % n = 1) : y = 1 ∨ y = n - 1 := by
  have h2 := hp.1
  have hy0 : y ≠ 0 := by rintro rfl; simp at h
  have h3 : n ∣ (y - 1) * (y + 1) := by
    have e : (y - 1) * (y + 1) = y * y - 1 := by
      obtain ⟨z, rfl⟩ : ∃ z, y = z + 1 := ⟨y - 1, by omega⟩
      simp only [Nat.add_sub_cancel]
      rw [show (z + 1) * (z + 1) = z * (z + 1 + 1) + 1 by grind]
      omega
    rw [e]
    have := Nat.div_add_mod (y * y) n
    exact ⟨y * y / n, by omega⟩
  rcases pr_mul hp h3 with h4 | h4
  · have := Nat.eq_zero_of_dvd_of_lt h4 (by omega); omega
  · have := Nat.le_of_dvd (by omega) h4; omega

/-- (Miller) Of a prime, what comes behind squarings to 1 begins with 1 or meets -1. -/
theorem miller {n b d : Nat} (hp : Pr n) : ∀ s, b ^ (d * 2 ^ s) % n = 1 → b ^ d % n = 1 ∨ ∃ i, i < s ∧ b ^ (d * 2 ^ i) % n = n - 1 := by
  intro s
  induction s with
  | zero => intro h; simp at h; exact .inl h
  | succ s ih =>
    intro h
    have hlt : b ^ (d * 2 ^ s) % n < n := Nat.mod_lt _ (by have := hp.1; omega)
    have e : b ^ (d * 2 ^ s) % n * (b ^ (d * 2 ^ s) % n) % n = 1 := by
      rw [← Nat.mul_mod, ← Nat.pow_add, ← h]
      congr 2
      rw [Nat.pow_succ, ← Nat.mul_assoc]; omega
    rcases root_one hp hlt e with h1 | h1
    · rcases ih h1 with h2 | ⟨i, hi, h2⟩
      · exact .inl h2
      · exact .inr ⟨i, by omega, h2⟩
    · exact .inr ⟨s, by omega, h1⟩
end Go.Proofs.YtfbgblidlabipaaGreatDoor
end

section
/- Plain facts: lists of small primes, in order, and their products. -/
set_option linter.unusedVariables false
set_option maxRecDepth 100000
namespace Go.Proofs.YtfbgblidlabipaaGreatDoor

def prd : List Int → Int
  | [] => 1
  | x :: t => x * prd t

/-- Primes up to 23, none ahead of a smaller one. -/
structure Sm (r : List Int) : Prop where
  mem : ∀ y ∈ r, y ∈ ([2, 3, 5, 7, 11, 13, 17, 19, 23] : List Int)
  sort : r.Pairwise (· ≤ ·)

theorem sm_pr : ∀ x ∈ ([2, 3, 5, 7, 11, 13, 17, 19, 23] : List Int), Pr x.natAbs := by
  have key : ∀ x ∈ ([2, 3, 5, 7, 11, 13, 17, 19, 23] : List Nat), ∀ d, d < 24 → d ∣ x → d = 1 ∨ d = x := by decide +kernel
  have key2 : ∀ x ∈ ([2, 3, 5, 7, 11, 13, 17, 19, 23] : List Nat), 2 ≤ x ∧ x < 24 := by decide +kernel
  have go : ∀ x ∈ ([2, 3, 5, 7, 11, 13, 17, 19, 23] : List Nat), Pr x := fun x hx =>
    ⟨(key2 x hx).1, fun d hd => key x hx d (by have := Nat.le_of_dvd (by have := key2 x hx; omega) hd; have := key2 x hx; omega) hd⟩
  intro x hx
  have h : x.natAbs ∈ ([2, 3, 5, 7, 11, 13, 17, 19, 23] : List Nat) := by
    revert x; decide +kernel
  exact go _ h

theorem sm_mul {x a b : Int} (hx : x ∈ ([2, 3, 5, 7, 11, 13, 17, 19, 23] : List Int)) (h : x ∣ a * b) : x ∣ a ∨ x ∣ b := by
  have h1 : x.natAbs ∣ a.natAbs * b.natAbs := by rw [← Int.natAbs_mul]; exact Int.natAbs_dvd_natAbs.2 h
  rcases pr_mul (sm_pr x hx) h1 with h2 | h2
  · exact .inl (Int.natAbs_dvd_natAbs.1 h2)
  · exact .inr (Int.natAbs_dvd_natAbs.1 h2)

theorem Sm.tail {x : Int} {r : List Int} (h : Sm (x :: r)) : Sm r := ⟨fun y hy => h.mem y (List.mem_cons_of_mem _ hy), (List.pairwise_cons.1 h.sort).2⟩
theorem Sm.right {d r : List Int} (h : Sm (d ++ r)) : Sm r := ⟨fun y hy => h.mem y (List.mem_append_right _ hy), (List.pairwise_append.1 h.sort).2.1⟩

theorem sm_size : ∀ x ∈ ([2, 3, 5, 7, 11, 13, 17, 19, 23] : List Int), 2 ≤ x ∧ x ≤ 23 := by decide +kernel
theorem sm_own : ∀ y ∈ ([2, 3, 5, 7, 11, 13, 17, 19, 23] : List Int), ∀ x ∈ ([2, 3, 5, 7, 11, 13, 17, 19, 23] : List Int), x ∣ y → x = y := by decide +kernel

theorem prd_pos {r : List Int} (h : Sm r) : 1 ≤ prd r := by
  induction r with
  | nil => decide
  | cons a t ih =>
    have h1 := (sm_size a (h.mem a (by simp))).1
    have h2 := ih h.tail
    show 1 ≤ a * prd t
    have := Int.mul_le_mul (show 1 ≤ a by omega) h2 (by omega) (by omega)
    omega

theorem prd_mem {r : List Int} (h : Sm r) {x : Int} (hx : x ∈ ([2, 3, 5, 7, 11, 13, 17, 19, 23] : List Int)) (hd : x ∣ prd r) : x ∈ r := by
  induction r with
  | nil =>
    have h1 := Int.le_of_dvd (by decide) hd
    have h2 := sm_size x hx
    simp only [prd] at h1
    omega
  | cons a t ih =>
    rcases sm_mul hx hd with h1 | h1
    · have := sm_own a (h.mem a (by simp)) x hx h1
      subst this; simp
    · exact List.mem_cons_of_mem _ (ih h.tail h1)

theorem prd_dvd {r : List Int} {x : Int} (hx : x ∈ r) : x ∣ prd r := by
  induction r with
  | nil => simp at hx
  | cons a t ih =>
    rcases List.mem_cons.1 hx with h | h
    · subst h; exact ⟨prd t, rfl⟩
    · exact Int.dvd_trans (ih h) ⟨a, by show a * prd t = _; rw [Int.mul_comm]⟩

/-- What x divides begins with it, if nothing below it is there. -/
theorem sm_head {r : List Int} (h : Sm r) {x : Int} (hx : x ∈ r) (hle : ∀ y ∈ r, x ≤ y) : ∃ t, r = x :: t := by
  cases r with
  | nil => simp at hx
  | cons a t =>
    have h1 := hle a (by simp)
    rcases List.mem_cons.1 hx with h2 | h2
    · exact ⟨t, by rw [h2]⟩
    · have h3 := (List.pairwise_cons.1 h.sort).1 x h2
      exact ⟨t, by rw [show a = x by omega]⟩

theorem sm_short {r : List Int} (h : Sm r) {x : Int} (hx : 2 ≤ x) (hle : ∀ y ∈ r, x ≤ y) (hp : prd r < x * x) : r = [] ∨ ∃ q, r = [q] := by
  match r, h, hle, hp with
  | [], _, _, _ => exact .inl rfl
  | [q], _, _, _ => exact .inr ⟨q, rfl⟩
  | a :: b :: t, h, hle, hp =>
    exfalso
    have h1 := hle a (by simp)
    have h2 := hle b (by simp)
    have h3 := prd_pos h.tail.tail
    have h4 : x * 1 ≤ b * prd t := Int.mul_le_mul h2 h3 (by omega) (by omega)
    have h5 : x * x ≤ a * (b * prd t) := Int.mul_le_mul h1 (by omega) (by omega) (by omega)
    have h6 : prd (a :: b :: t) = a * (b * prd t) := rfl
    omega

/-- Of what is not yet gone through nothing is smaller than the next one. -/
theorem sm_next {pre r : List Int} {x : Int} (h : Sm r) (hp : pre ++ [x] <+: ([2, 3, 5, 7, 11, 13, 17, 19, 23, 29] : List Int)) (hn : ∀ y ∈ r, y ∉ pre) : ∀ y ∈ r, x ≤ y := by
  intro y hy
  obtain ⟨t, ht⟩ := hp
  have hm : y ∈ ([2, 3, 5, 7, 11, 13, 17, 19, 23, 29] : List Int) := by
    have := h.mem y hy
    revert this
    simp only [List.mem_cons, List.not_mem_nil, or_false]
    omega
  have hs : (pre ++ [x] ++ t).Pairwise (· < ·) := by rw [ht]; decide
  rw [← ht, List.append_assoc] at hm
  rw [List.append_assoc] at hs
  have hs2 := (List.pairwise_append.1 hs).2.1
  rcases List.mem_append.1 hm with h1 | h1
  · exact absurd h1 (hn y hy)
  · rcases List.mem_cons.1 h1 with h2 | h2
    · omega
    · have := (List.pairwise_cons.1 hs2).1 y (by simpa using h2)
      omega

theorem sm_29 {pre r : List Int} {x : Int} (h : Sm r) (hp : pre ++ [x] <+: ([2, 3, 5, 7, 11, 13, 17, 19, 23, 29] : List Int)) (hn : ∀ y ∈ r, y ∉ pre) (hx : ¬ prd r < x * x) : x ∈ ([2, 3, 5, 7, 11, 13, 17, 19, 23] : List Int) := by
  have hm : x ∈ ([2, 3, 5, 7, 11, 13, 17, 19, 23, 29] : List Int) := hp.subset (by simp)
  by_cases h29 : x = 29
  · exfalso
    have h1 := sm_next h hp hn
    have h2 : r = [] := by
      cases r with
      | nil => rfl
      | cons a t =>
        have h3 := h1 a (by simp)
        have h4 := sm_size a (h.mem a (by simp))
        omega
    rw [h2, h29] at hx
    exact hx (by decide)
  · revert hm
    simp only [List.mem_cons, List.not_mem_nil, or_false]
    omega

end Go.Proofs.YtfbgblidlabipaaGreatDoor
end

section
/- prime.appendGreat of 1, and of a prime up to 23. -/
set_option linter.unusedSimpArgs false
set_option linter.unusedVariables false
set_option maxRecDepth 100000
namespace Go.Proofs.YtfbgblidlabipaaGreatDoor
open Go.RowKit
attribute [local go_sem] Oper.semAt_some

theorem appendGreat_one (v : Value) (w : World) :
    Calls Tryz.prog 205 #[v, .int .i64 1] w fun e w' => e = .returned v ∧ w' = w := by
  go_enter Tryz.func205, Tryz.ntmps205
  go_wp2
  go_ret
  exact ⟨rfl, rfl⟩

set_option maxHeartbeats 400000 in
theorem appendGreat_nine (N : Int) (hN : N ∈ nine) (a : Option Addr) (c B k : Nat) (l : List Int) (w : World) (hk : k = l.length) (hl : k ≤ 100) (hB : B ≤ w.heap.size) (row : w.ownsRow B 3 1 (.slice a k c) k (ints l)) :
    Calls Tryz.prog 205 #[.slice a k c, .int .i64 N] w fun e w' => ∃ g c', e = .returned (.slice (some ⟨g, 0, none⟩) (k + 1) c') ∧ w'.ownsRow B 3 1 (.slice (some ⟨g, 0, none⟩) (k + 1) c') (k + 1) (ints (l ++ [N])) ∧ Below B w w' := by
  obtain ⟨i0, hi, hz0, hz1, hz2⟩ := info_parts Tryz.infoInt
  have HI : Hid (Tryz.prog.info? 3 = some i0 ∧ i0.zero = some (.int .i64 0) ∧ i0.size = 1 ∧ i0.bytes = 8) := ⟨hi, hz0, hz1, hz2⟩
  have HRow : Hid (w.ownsRow B 3 1 (.slice a k c) k (ints l)) := row
  have HN : Hid (N ∈ nine) := hN
  have hN2 := nine_size N hN
  have hN1 : (N == 1) = false := beq_eq_false_iff_ne.2 (by omega)
  clear hi hz0 hz1 hz2 row hN hk
  go_enter Tryz.func205, Tryz.ntmps205
  go_wp2_with fail
  refine (isPrime_nine N HN.out w).mono ?_
  rintro e w1 ⟨rfl, k1⟩
  have z1 := k1.size
  have K1 : Hid (Below w.heap.size w w1) := k1
  have R1 : Hid (w1.ownsRow B 3 1 (.slice a k c) k (ints l)) := row_kept HRow.out (fun g e => k1.block g (HRow.out.lt g e).2)
  clear k1 HRow
  go_wp2_with (at_builtin; refine wpList_append_own _ rfl _ _ 80 rfl B 3 i0 (.int .i64 0) 1 8 Tryz.underlying80 HI.out.1 HI.out.2.1 HI.out.2.2.1 HI.out.2.2.2 rfl (by decide) (.slice a k c) k (ints l) rfl (R1.out.alloc _) ⟨w1.heap.size, 0, none⟩ 1 1 [.int .i64 N] rfl rfl (cell_one_new _ _ _) (by simp [Value.oneCell']) (by simp only [maxLen]; omega) (by omega) (by simp; omega) ?_; intro v' w2 hown' hgrow _; obtain ⟨g', cap', rfl⟩ := ownsRow_succ hown')
  have hb : Below B w w2 := ((K1.out.mono hB).alloc (by omega) _).grown hgrow (by simp; omega) (fun k e => (R1.out.lt k e).1)
  have HB : Hid (Below B w w2) := hb
  have HO : Hid (w2.ownsRow B 3 1 (.slice (some ⟨g', 0, none⟩) (k + 1) cap') (k + 1) (ints (l ++ [N]))) := by
    rw [ints, List.map_append]; exact hown'
  clear hb hown' hgrow
  go_wp2
  go_ret
  exact ⟨g', cap', rfl, HO.out, HB.out⟩

end Go.Proofs.YtfbgblidlabipaaGreatDoor
end

section
/- prime.factors of a product of primes up to 23. -/
set_option linter.unusedSimpArgs false
set_option linter.unusedVariables false
set_option maxRecDepth 100000
namespace Go.Proofs.YtfbgblidlabipaaGreatDoor
open Go.RowKit
attribute [local go_sem] Oper.semAt_some

/-- d is told, r is left. -/
structure FS (h : Nat) (w : World) (d r : List Int) (o : Option Nat) (W : World) : Prop where
  n : Vr h (.int .i64 (prd r)) W
  l : ∃ a c, Vr (h + 1) (.slice a d.length c) W ∧ W.ownsRow (h + 4) 3 1 (.slice a d.length c) d.length (ints d) ∧ ∀ g, (Value.slice a d.length c).ownBlock = some g → o ≠ some g
  b : Below h w W
  o : ow (h + 2) o W

theorem FS.step {h : Nat} {w : World} {d r : List Int} {o o' : Option Nat} {W W' : World} (s : FS h w d r o W) (hg : W.grownBy W' o) (ho : o' = o ∨ ∃ g, o' = some g ∧ W.heap.size ≤ g) : FS h w d r o' W' := by
  obtain ⟨a, c, h1, h2, h3⟩ := s.l
  refine ⟨s.n.grown hg (s.o.ne (by omega)), ⟨a, c, h1.grown hg (s.o.ne (by omega)), row_kept h2 (fun g e => hg.block g (h2.lt g e).2 (fun e2 => h3 g e e2.symm)), ?_⟩, s.b.grown hg (by have := s.o.1; omega) (fun k e => by have := s.o.2 k e; omega), s.o.step hg ho⟩
  intro g e
  rcases ho with h4 | ⟨g2, h4, h5⟩
  · rw [h4]; exact h3 g e
  · rw [h4]; intro e2; cases e2; have := (h2.lt g e).2; omega

theorem FS.put {h : Nat} {w : World} {d r : List Int} {o : Option Nat} {W : World} (s : FS h w d r o W) (ob : Obj) (k : Nat) (hk : k = h + 2 ∨ k = h + 3) : FS h w d r o (W.putObj k ob) := by
  obtain ⟨a, c, h1, h2, h3⟩ := s.l
  exact ⟨s.n.put ob (by omega), ⟨a, c, h1.put ob (by omega), row_kept h2 (fun g e => World.putObj_heap_other (by have := (h2.lt g e).1; omega)), h3⟩, s.b.grown (grownBy_putObj' W _ ob) (by have := s.o.1; omega) (fun k e => by cases e; omega), s.o.put ob⟩

/-- The number that is left, off the world. -/
def leftAt (h : Nat) (W : World) : Nat := match W.cell? ⟨h, 0, none⟩ with
  | some (.int _ q) => q.toNat
  | _ => 0
theorem FS.left {h : Nat} {w : World} {d r : List Int} {o : Option Nat} {W : World} (s : FS h w d r o W) : leftAt h W = (prd r).toNat := by
  unfold leftAt; rw [s.n.c]

def FacPost (l : List Int) (w : World) (e : Ending) (w' : World) : Prop :=
  ∃ a c, e = .returned (.slice a l.length c) ∧ w'.ownsRow w.heap.size 3 1 (.slice a l.length c) l.length (ints l) ∧ Below w.heap.size w w'

set_option maxHeartbeats 2000000 in
theorem factors_sm (fs : List Int) (N : Int) (hfs : Sm fs) (hlen : fs.length ≤ 50) (hN : N = prd fs) (hN2 : N ≤ 1000000000000000000) (w : World) : Calls Tryz.prog 151 #[.int .i64 N] w (FacPost fs w) := by
  obtain ⟨i0, hi, hz0, hz1, hz2⟩ := info_parts Tryz.infoInt
  have HI : Hid (Tryz.prog.info? 3 = some i0 ∧ i0.zero = some (.int .i64 0) ∧ i0.size = 1 ∧ i0.bytes = 8) := ⟨hi, hz0, hz1, hz2⟩
  have HFS : Hid (Sm fs) := hfs
  have HLE : Hid (fs.length ≤ 50) := hlen
  have HN : Hid (N = prd fs) := hN
  have HBig : Hid (N ≤ 1000000000000000000) := hN2
  have HPos : Hid (∀ d r, fs = d ++ r → 1 ≤ prd r ∧ prd r ≤ 1000000000000000000) := by
    intro d r e
    have h1 : ∀ d : List Int, Sm (d ++ r) → prd r ≤ prd (d ++ r) := by
      intro d
      induction d with
      | nil => intro _; exact Int.le_refl _
      | cons a t ih =>
        intro hs
        have h2 := ih hs.tail
        have h3 := (sm_size a (hs.mem a (by simp))).1
        have h4 := prd_pos (Sm.right hs (d := a :: t))
        have h5 : prd (a :: t ++ r) = a * prd (t ++ r) := rfl
        have h6 := Int.mul_le_mul (show 1 ≤ a by omega) h2 (by omega) (by omega)
        omega
    have h7 := h1 d (e ▸ hfs)
    rw [← e, ← hN] at h7
    exact ⟨prd_pos (Sm.right (e ▸ hfs)), by omega⟩
  clear hi hz0 hz1 hz2 hfs hlen hN hN2
  refine (callsIn_wide (n := 5)).1 ?_
  refine callsIn_of_wp_marks Tryz.func151 rfl trivial ?_ rfl
  simp only [Tryz.ntmps151, List.size_toArray, List.length_cons, List.length_nil, Nat.reduceAdd, Nat.reduceSub, Array.replicate_succ, Array.replicate_zero, List.push_toArray, List.append_toArray, List.nil_append, List.cons_append]
  gi_wp2
  obtain ⟨W0, hW0⟩ : ∃ W0, W0 = (w.alloc (.cells #[.int .i64 N] 3)).alloc (.cells #[.slice none 0 0] 80) := ⟨_, rfl⟩
  rw [← hW0]
  have z0 : W0.heap.size = w.heap.size + 2 := by rw [hW0]; simp
  have v0 : Vr w.heap.size (.int .i64 N) W0 := by
    rw [hW0]; exact ⟨by rw [cell_old_at _ _ _ (by simp), cell_new_at _ _ _ _ _ rfl]; rfl, by rw [frozen_old_at _ _ _ (by simp), frozen_new_at _ _ _ _ _ rfl]⟩
  have v1 : Vr (w.heap.size + 1) (.slice none 0 0) W0 := by
    rw [hW0]; exact ⟨by rw [cell_new_at _ _ _ _ _ (by simp)]; rfl, by rw [frozen_new_at _ _ _ _ _ (by simp)]⟩
  have k0 : Below w.heap.size w W0 := by rw [hW0]; exact ((Below.refl _ _).alloc (Nat.le_refl _) _).alloc (by simp) _
  have hs0 : FS w.heap.size w [] fs none W0 := ⟨by rw [← HN.out]; exact v0, ⟨none, 0, v1, World.ownsRow_nil _ _ _ _, fun g e => by simp⟩, k0, by omega, fun g e => by cases e⟩
  clear hW0 v0 v1 k0
  refine wpIn_rangeO (F := Fence.wide) (n := 5) rfl (by decide) (gf := 204) rfl trivial (enters_of Tryz.func204 (by kernel_rfl) rfl) (rising_ten Fence.wide (5 - 1) trivial rfl (by decide)) rfl
    (fun o pre W => pre ≠ pr10 ∧ ∃ d r, fs = d ++ r ∧ (∀ y ∈ r, y ∉ pre) ∧ FS w.heap.size w d r o W)
    (fun c o pre W => c = .exit 0 ∧ ∃ d r, fs = d ++ r ∧ (r = [] ∨ ∃ q, r = [q]) ∧ FS w.heap.size w d r o W)
    ?ab ?abp ?abx ⟨by simp [pr10], [], fs, rfl, by simp, hs0⟩
    (fun x => { tmps := #[.int .i64 N, .pointer (some ⟨w.heap.size, 0, none⟩), .slice none 0 0, .pointer (some ⟨w.heap.size + 1, 0, none⟩), .int .i64 x, .int .i64 x, undef, undef, undef, undef, undef, undef, undef, undef, undef, undef, undef, undef, undef, undef, undef, undef, undef, undef, undef, undef, undef, undef, undef], defers := [] }) ?assign ?body ?hend ?stop
  case ab =>
    rintro o s A B o' ⟨h0, d, r, h1, h2, h3⟩ hg ho
    exact ⟨h0, d, r, h1, h2, h3.step hg ho⟩
  case abp =>
    rintro o s A ob ⟨h0, d, r, h1, h2, h3⟩
    exact ⟨h0, d, r, h1, h2, h3.put ob _ (by omega)⟩
  case abx =>
    rintro c o s A ob ⟨h0, d, r, h1, h2, h3⟩
    exact ⟨h0, d, r, h1, h2, h3.put ob _ (by omega)⟩
  case assign =>
    intro l x W K hK
    gi_wp2
    exact hK
  case body =>
    rintro l o pre x W ⟨_, d, r, hdr, hnin, hst⟩ hog hpre hz
    have hsr : Sm r := Sm.right (hdr ▸ HFS.out)
    obtain ⟨m, hm⟩ : ∃ m, m = prd r := ⟨_, rfl⟩
    have hm1 := HPos.out d r hdr
    have hx1 : 2 ≤ x ∧ x ≤ 29 := by
      have : x ∈ pr10 := hpre.subset (by simp)
      revert x; intro x; simp only [pr10, List.mem_cons, List.not_mem_nil, or_false]; omega
    have hxx : 0 ≤ x * x ∧ x * x ≤ 841 := by
      have h1 := Int.mul_le_mul hx1.2 hx1.2 (by omega) (by omega)
      have h2 := Int.mul_nonneg (show 0 ≤ x by omega) (show 0 ≤ x by omega)
      omega
    have hxb : decide ((1000 : Int) < x) = false := decide_eq_false (by omega)
    have hx0 : (x == 0) = false := beq_eq_false_iff_ne.2 (by omega)
    have q0 := hst.n.c
    rw [← hm] at q0 hm1
    have HDR : Hid (fs = d ++ r) := hdr
    have HNI : Hid (∀ y ∈ r, y ∉ pre) := hnin
    have HSR : Hid (Sm r) := hsr
    have HM : Hid (m = prd r) := hm
    have HPre : Hid (pre ++ [x] <+: pr10) := hpre
    have HST : Hid (FS w.heap.size w d r o W) := hst
    have HOG : Hid (∀ g, o = some g → W0.heap.size + 2 ≤ g ∧ g < W.heap.size) := hog
    have HM1 : Hid (1 ≤ m ∧ m ≤ 1000000000000000000) := hm1
    have hx2 := hx1.1
    have hx3 := hx1.2
    clear hdr hnin hsr hm hpre hst hog hx1 hm1
    by_cases hsq : m < x * x
    · have hsb : decide (m < x * x) = true := decide_eq_true hsq
      have hshort := sm_short HSR.out hx2 (sm_next HSR.out HPre.out HNI.out) (by rw [← HM.out]; exact hsq)
      have HSH : Hid (r = [] ∨ ∃ q, r = [q]) := hshort
      clear hshort hsq
      gi_wp2
      exact ⟨KP.refl _ _, rfl, d, r, HDR.out, HSH.out, HST.out⟩
    · have hsb : decide (m < x * x) = false := decide_eq_false hsq
      have HX9 : Hid (x ∈ nine) := sm_29 HSR.out HPre.out HNI.out (by rw [← HM.out]; exact hsq)
      clear hsq
      gi_wp2
      gi_loopw [15] (fun _ wx => Hid (∃ d r, fs = d ++ r ∧ (∀ y ∈ r, y ∉ pre) ∧ FS w.heap.size w d r o wx ∧ KP (keptO W0.heap.size o) W wx)) (fun _ wx => leftAt w.heap.size wx)
      case atStart => exact ⟨d, r, HDR.out, HNI.out, HST.out, KP.refl _ _⟩
      case round =>
        have HR := hrel
        clear hrel q0 hsb HDR HNI HSR HM HST HM1
        clear d r
        obtain ⟨d, r, hdr, hnin, hst, hkp⟩ := HR.out
        have hsr : Sm r := Sm.right (hdr ▸ HFS.out)
        obtain ⟨M, hm⟩ : ∃ M, M = prd r := ⟨_, rfl⟩
        obtain ⟨hm1, hm2⟩ := HPos.out d r hdr
        rw [← hm] at hm1 hm2
        have hdl : d.length ≤ 50 := by
          have h1 := HLE.out
          rw [hdr, List.length_append] at h1; omega
        obtain ⟨a, c, h1, h2, h3⟩ := hst.l
        obtain ⟨k, hk⟩ : ∃ k, k = d.length := ⟨_, rfl⟩
        rw [← hk] at h1 h2 h3 hdl
        have q1 := hst.n.c
        rw [← hm] at q1
        have q2 := h1.c
        have q3 := hst.n.f
        have q4 := h1.f
        have zk := hkp.size
        have HDR : Hid (fs = d ++ r) := hdr
        have HNI : Hid (∀ y ∈ r, y ∉ pre) := hnin
        have HSR : Hid (Sm r) := hsr
        have HM : Hid (M = prd r) := hm
        have HK : Hid (k = d.length) := hk
        have HST : Hid (FS w.heap.size w d r o wr) := hst
        have HKP : Hid (KP (keptO W0.heap.size o) W wr) := hkp
        have HV2 : Hid (Vr (w.heap.size + 1) (.slice a k c) wr) := h1
        have HROW : Hid (wr.ownsRow (w.heap.size + 4) 3 1 (.slice a k c) k (ints d)) := h2
        have HNO : Hid (∀ g, (Value.slice a k c).ownBlock = some g → o ≠ some g) := h3
        have HMM : Hid (M ≤ 1000000000000000000) := hm2
        clear hdr hnin hsr hm hk hst hkp h1 h2 h3 HR hm2
        by_cases hmod : M % x = 0
        · have hmb : ((M % x) == 0) = true := by rw [hmod]; rfl
          have hxr : x ∈ r := prd_mem HSR.out HX9.out (by rw [← HM.out]; exact Int.dvd_of_emod_eq_zero hmod)
          obtain ⟨t, ht⟩ := sm_head HSR.out hxr (sm_next HSR.out HPre.out HNI.out)
          obtain ⟨q, hq⟩ : ∃ q, q = prd t := ⟨_, rfl⟩
          have hmq : M = x * q := by rw [HM.out, ht, hq]; rfl
          have hdiv : M / x = q := by rw [hmq]; exact Int.mul_ediv_cancel_left q (by omega)
          have HT : Hid (r = x :: t) := ht
          have HQ : Hid (q = prd t) := hq
          have hq1 : 1 ≤ q := by rw [hq]; exact prd_pos (Sm.tail (ht ▸ HSR.out))
          have hqm : q < M := by
            rw [hmq]
            have := Int.mul_le_mul hx2 (Int.le_refl q) (by omega) (by omega)
            omega
          have HQ1 : Hid (1 ≤ q) := hq1
          have HQM : Hid (q < M) := hqm
          clear hmod hxr ht hq hmq hq1 hqm
          gi_wp2_with (gi_at_builtin; refine wpListIn_append_own_at _ rfl _ _ 80 rfl (w.heap.size + 4) 3 i0 (.int .i64 0) 1 8 Tryz.underlying80 HI.out.1 HI.out.2.1 HI.out.2.2.1 HI.out.2.2.2 rfl (by decide) (.slice a k c) k (ints d) rfl (HROW.out.alloc _) ⟨wr.heap.size, 0, none⟩ 1 1 [.int .i64 x] rfl rfl (cell_one_new _ _ _) (by simp [Value.oneCell']) (by simp only [maxLen]; omega) (by omega) (by simp; omega) ?_; intro v' w1 hown' hgrow _ hob; obtain ⟨g', cap', rfl⟩ := ownsRow_succ hown'; have hnb : ∀ b, b < w.heap.size + 4 → (Value.slice a k c).ownBlock ≠ some b := fun b hb e => by { have := (HROW.out.lt b e).1; omega }; have A1 : Vr w.heap.size (.int .i64 M) w1 := by { have h9 := (HST.out.n.grown (World.grownBy_alloc _ _ none) (by simp)).grown hgrow (hnb _ (by omega)); rw [← HM.out] at h9; exact h9 }; have A2 : Vr (w.heap.size + 1) (.slice a k c) w1 := (HV2.out.grown (World.grownBy_alloc _ _ none) (by simp)).grown hgrow (hnb _ (by omega)); have r1 := A1.c; have r2 := A2.c; have r3 := A1.f; have r4 := A2.f)
          have hq2 : 1 ≤ q := HQ1.out
          have hq3 : q < M := HQM.out
          have hq4 : M ≤ 1000000000000000000 := HMM.out
          have hw64 : wrap64 (M.tdiv x) = q := by
            rw [Int.tdiv_eq_ediv_of_nonneg (by omega), hdiv]; unfold wrap64; omega
          rw [hw64]
          have C1 : Vr w.heap.size (.int .i64 q) ((w1.setCell ⟨w.heap.size + 1, 0, none⟩ (.slice (some ⟨g', 0, none⟩) (k + 1) cap')).setCell ⟨w.heap.size, 0, none⟩ (.int .i64 q)) := (A1.other _ (by omega)).set _
          have C2 : Vr (w.heap.size + 1) (.slice (some ⟨g', 0, none⟩) (k + 1) cap') ((w1.setCell ⟨w.heap.size + 1, 0, none⟩ (.slice (some ⟨g', 0, none⟩) (k + 1) cap')).setCell ⟨w.heap.size, 0, none⟩ (.int .i64 q)) := (A2.set _).other _ (by omega)
          have hlen : (d ++ [x]).length = k + 1 := by rw [HK.out]; simp
          have hFS : FS w.heap.size w (d ++ [x]) t o ((w1.setCell ⟨w.heap.size + 1, 0, none⟩ (.slice (some ⟨g', 0, none⟩) (k + 1) cap')).setCell ⟨w.heap.size, 0, none⟩ (.int .i64 q)) := by
            refine ⟨by rw [← HQ.out]; exact C1, ⟨some ⟨g', 0, none⟩, cap', by rw [hlen]; exact C2, ?_, ?_⟩, ?_, ?_⟩
            · rw [hlen, show ints (d ++ [x]) = ints d ++ [.int .i64 x] by simp [ints]]
              exact ownsRow_setCell_below (ownsRow_setCell_below hown' (by show w.heap.size + 1 < _; omega) _) (by show w.heap.size < _; omega) _
            · intro g e e2
              have e3 : (Value.slice (some ⟨g', 0, none⟩) (k + 1) cap').ownBlock = some g := e
              rcases hob with h | h
              · exact HNO.out g (h ▸ e3) e2
              · rw [h] at e3
                have h5 := (HOG.out g e2).2
                simp at e3
                omega
            · exact (((HST.out.b.alloc (by have := HST.out.o.1; omega) _).grown hgrow (by simp; have := HST.out.o.1; omega) (fun r e => by have := (HROW.out.lt r e).1; omega)).setCell (by simp) _).setCell (by simp) _
            · refine HST.out.o.size ?_
              have := hgrow.size
              simp [World.setCell] at this ⊢
              omega
          refine ⟨⟨d ++ [x], t, by rw [HDR.out, HT.out]; simp, fun y hy => HNI.out y (by rw [HT.out]; exact List.mem_cons_of_mem _ hy), hFS, ?_⟩, ?_⟩
          · refine (((HKP.out.alloc _).grown hgrow (fun r e h => ?_)).setCell (fun h => ?_) _).setCell (fun h => ?_) _
            · have h5 := (HROW.out.lt r e).1
              rcases h with h | h | h
              · omega
              · omega
              · exact HNO.out r e h
            · rcases h with h | h | h
              · simp at h; omega
              · simp at h; omega
              · have := HST.out.o.2 _ h; simp at this <;> omega
            · rcases h with h | h | h
              · simp at h; omega
              · simp at h; omega
              · have := HST.out.o.2 _ h; simp at this <;> omega
          · rw [hFS.left, HST.out.left, ← HQ.out, ← HM.out]; omega
        · have hmb : ((M % x) == 0) = false := beq_eq_false_iff_ne.2 hmod
          have HMD : Hid (M % x ≠ 0) := hmod
          clear hmod
          gi_wp2
          refine ⟨HKP.out, ?_, d, r, HDR.out, fun y hy h => ?_, HST.out⟩
          · intro h
            have h2 := nine_size x HX9.out
            have h3 : (pre ++ [x]).getLast? = pr10.getLast? := by rw [h]
            simp [pr10] at h3
            omega
          rcases List.mem_append.1 h with h | h
          · exact HNI.out y hy h
          · simp at h
            subst h
            exact HMD.out (by rw [HM.out]; exact Int.emod_eq_zero_of_dvd (prd_dvd hy))
  case hend =>
    rintro o W ⟨h, _⟩
    exact h rfl
  case stop =>
    rintro c o pre W ⟨rfl, d, r, hdr, hsh, hst⟩ hK
    obtain ⟨a, c, h1, h2, h3⟩ := hst.l
    obtain ⟨k, hk⟩ : ∃ k, k = d.length := ⟨_, rfl⟩
    have hkl : k ≤ 50 := by
      have h4 := HLE.out
      rw [hdr, List.length_append] at h4; omega
    rw [← hk] at h1 h2
    obtain ⟨m, hm⟩ : ∃ m, m = prd r := ⟨_, rfl⟩
    have q1 := hst.n.c
    rw [← hm] at q1
    have q2 := h1.c
    have zW : W0.heap.size < W.heap.size := lt_of_some hK
    have HROW : Hid (W.ownsRow (w.heap.size + 4) 3 1 (.slice a k c) k (ints d)) := h2
    have HB : Hid (Below w.heap.size w W) := hst.b
    have HK : Hid (W.heap[W0.heap.size]? = some (.deferred (some []))) := hK
    have HD : Hid (k = d.length) := hk
    have HDR : Hid (fs = d ++ r) := hdr
    have HM : Hid (m = prd r) := hm
    have HRow2 : Hid (W.ownsRow w.heap.size 3 1 (.slice a k c) k (ints d)) := ownsRow_lower h2 (by omega)
    rcases hsh with hr | ⟨q, hr⟩
    · have hm1 : m = 1 := by rw [hm, hr]; rfl
      subst hm1
      have hfd : fs = d := by rw [hdr, hr, List.append_nil]
      have HFD : Hid (fs = d) := hfd
      clear h1 h2 h3 hK hst hdr hm hr hfd hk
      gi_wp2
      refine ⟨trivial, ?_⟩
      refine (callsIn_wide.2 (appendGreat_one (.slice a k c) W)).mono ?_
      rintro e w1 ⟨rfl, rfl⟩
      gi_wp2
      have hK1 := HK.out
      rw [z0] at hK1
      refine ⟨by simp, .inl ⟨_, _, rfl, run_takeDeferred hK1, ?_⟩⟩
      refine ⟨.slice a k c, by simp [results, Tryz.f151, go_sem], ?_⟩
      have hl : fs.length = k := by rw [HFD.out]; exact HD.out.symm
      refine ⟨a, c, by rw [hl], ?_, HB.out.grown (grownBy_putObj' _ (w.heap.size + 2) (.deferred none)) HB.out.size (fun k e => by cases e; omega)⟩
      rw [hl, HFD.out]
      exact row_kept HRow2.out (fun g e => World.putObj_heap_other (by have := (HROW.out.lt g e).1; omega))
    · have hq : q ∈ nine := HFS.out.mem q (by rw [hdr, hr]; simp)
      have hmq : m = q := by rw [hm, hr]; show q * 1 = q; omega
      subst hmq
      have hfd : fs = d ++ [m] := by rw [hdr, hr]
      have HFD : Hid (fs = d ++ [m]) := hfd
      have HQ : Hid (m ∈ nine) := hq
      clear h1 h2 h3 hK hst hdr hm hr hfd hk hq
      gi_wp2
      refine ⟨trivial, ?_⟩
      refine (callsIn_wide.2 (appendGreat_nine m HQ.out a c (w.heap.size + 3) k d W HD.out (by omega) (by omega) (ownsRow_lower HROW.out (by omega)))).mono ?_
      rintro e w1 ⟨g1, c', rfl, ho, hb⟩
      have z1 := hb.size
      have hK1 : w1.heap[W0.heap.size]? = some (.deferred (some [])) := (hb.block _ (by omega)).trans HK.out
      have KB1 : Hid (Below w.heap.size w w1) := HB.out.trans (hb.mono (by omega))
      have HO : Hid (w1.ownsRow w.heap.size 3 1 (.slice (some ⟨g1, 0, none⟩) (k + 1) c') (k + 1) (ints (d ++ [m]))) := ownsRow_lower ho (by omega)
      have hgg := (ho.lt g1 rfl).1
      clear ho hb
      rw [z0] at hK1
      gi_wp2
      refine ⟨by simp, .inl ⟨_, _, rfl, run_takeDeferred hK1, ?_⟩⟩
      have hl : fs.length = k + 1 := by rw [HFD.out, HD.out]; simp
      refine ⟨.slice (some ⟨g1, 0, none⟩) (k + 1) c', by simp [results, Tryz.f151, go_sem], some ⟨g1, 0, none⟩, c', by rw [hl], ?_, KB1.out.grown (grownBy_putObj' w1 (w.heap.size + 2) (.deferred none)) KB1.out.size (fun k e => by cases e; omega)⟩
      rw [hl, HFD.out]
      exact ownsRow_put HO.out (by omega)

end Go.Proofs.YtfbgblidlabipaaGreatDoor
end

section
/- slices.Sort of up to twelve numbers that are in order. -/
set_option linter.unusedSimpArgs false
set_option linter.unusedVariables false
set_option maxRecDepth 100000
namespace Go.Proofs.YtfbgblidlabipaaGreatDoor
open Go.RowKit

theorem Less_of (x y : Int) (w : World) :
    Calls Tryz.prog 250 #[.int .i64 x, .int .i64 y] w fun e w' => e = .returned (.bool (decide (x < y))) ∧ ∃ q, w' = w.drewN q := by
  have h1 : (x != x) = false := by simp
  go_enter Tryz.func250, Tryz.ntmps250
  go_wp2
  go_ret
  exact ⟨rfl, 0, rfl⟩

theorem Len_of (x : Int) (w : World) (h0 : 0 ≤ x) (h1 : x ≤ 100) :
    Calls Tryz.prog 207 #[.int .u64 x] w fun e w' => e = .returned (.int .i64 (Lib.bitLen x.toNat)) ∧ w' = w := by
  go_enter Tryz.func207, Tryz.ntmps207
  go_wp2_with fail
  refine (Len64_int x w h0 (by omega)).mono ?_
  rintro e w' ⟨rfl, rfl⟩
  go_wp2
  go_ret
  exact ⟨rfl, rfl⟩

/-- The numbers l lie in a slice of k, in order. -/
structure Ord (a : Option Addr) (k : Nat) (l : List Int) (w : World) : Prop where
  cell : ∀ g j, a = some ⟨g, 0, none⟩ → j < k → g < w.heap.size ∧ w.cell? ⟨g, j, none⟩ = some (.int .i64 (l.getD j 0))
  some : 0 < k → ∃ g, a = some ⟨g, 0, none⟩
  ord : ∀ j, j + 1 < k → l.getD j 0 ≤ l.getD (j + 1) 0
theorem Ord.below {a : Option Addr} {k : Nat} {l : List Int} {w w' : World} (h : Ord a k l w) (b : Below w.heap.size w w') : Ord a k l w' :=
  ⟨fun g j e hj => ⟨Nat.lt_of_lt_of_le (h.cell g j e hj).1 b.size, (b.cell (p := ⟨g, j, none⟩) (h.cell g j e hj).1).trans (h.cell g j e hj).2⟩, h.some, h.ord⟩

set_option maxHeartbeats 1000000 in
theorem insertion_ord (a : Option Addr) (k c : Nat) (l : List Int) (w : World) (hk : k ≤ 12) (hc : k ≤ c) (ho : Ord a k l w) :
    Calls Tryz.prog 244 #[.slice a k c, .int .i64 0, .int .i64 k] w fun e w' => (∃ v, e = .returned v) ∧ Below w.heap.size w w' := by
  have HO : Hid (Ord a k l w) := ho
  clear ho
  go_enter Tryz.func244, Tryz.ntmps244
  go_wp2
  go_loopw [6] (fun iv wx => ∃ i : Nat, iv = .int .i64 i ∧ 1 ≤ i ∧ (i ≤ k ∨ i = 1) ∧ Hid (Below w.heap.size w wx)) (fun iv _ => k - (intOf iv).toNat)
  case atStart => exact ⟨1, rfl, by omega, by omega, Below.refl _ _⟩
  case round =>
    obtain ⟨i, rfl, hi1, hi2, HB⟩ := hrel
    by_cases hlt : i < k
    · obtain ⟨wo, hwo⟩ : ∃ wo, wo = wr := ⟨_, rfl⟩
      subst hwo
      obtain ⟨g, rfl⟩ := HO.out.some (by omega)
      have O2 := HO.out.below HB.out
      have d0 := (O2.cell g (i - 1) rfl (by omega)).2
      have d1 := (O2.cell g i rfl (by omega)).2
      have hor := O2.ord (i - 1) (by omega)
      rw [show i - 1 + 1 = i by omega] at hor
      obtain ⟨x, hx⟩ : ∃ x, x = l.getD (i - 1) 0 := ⟨_, rfl⟩
      obtain ⟨y, hy⟩ : ∃ y, y = l.getD i 0 := ⟨_, rfl⟩
      rw [← hx] at d0 hor
      rw [← hy] at d1 hor
      have hlt2 : decide (y < x) = false := decide_eq_false (by omega)
      have hj0 : decide (0 < i) = true := decide_eq_true (by omega)
      clear hx hy hor O2
      go_wp2
      go_loopw [7] (fun jv wx => jv = .int .i64 i ∧ Hid (wx = wo)) (fun _ _ => 0)
      case atStart => exact ⟨rfl, rfl⟩
      case round =>
        obtain ⟨rfl, HW⟩ := hrel
        have hw := HW.out
        subst hw
        clear HW
        go_wp2
        go_quiet ((go_at_call 250; exact Calls.quiet_of (Less_of y x _)))
        go_wp2
        go_roundw
        case rel => exact ⟨i + 1, by go_num, by omega, by omega, below_drewN' HB.out⟩
        case measure => simp [intOf]; omega
    · go_wp2
      go_end0
      exact ⟨⟨_, rfl⟩, HB.out⟩

set_option maxHeartbeats 1000000 in
theorem pdq_ord (a : Option Addr) (k c : Nat) (l : List Int) (lim : Int) (w : World) (hk : k ≤ 12) (hc : k ≤ c) (ho : Ord a k l w) :
    Calls Tryz.prog 206 #[.slice a k c, .int .i64 0, .int .i64 k, .int .i64 lim] w fun e w' => (∃ v, e = .returned v) ∧ Below w.heap.size w w' := by
  have HO : Hid (Ord a k l w) := ho
  clear ho
  go_enter Tryz.func206, Tryz.ntmps206
  go_wp2
  go_loopw [1, 2, 3, 8, 9] (fun av bv lv x1 x2 wx => av = .int .i64 0 ∧ bv = .int .i64 k ∧ lv = .int .i64 lim ∧ x1 = .bool true ∧ x2 = .bool true ∧ Hid (wx = w)) (fun _ _ _ _ _ _ => 0)
  case atStart => exact ⟨rfl, rfl, rfl, rfl, rfl, rfl⟩
  case round =>
    obtain ⟨rfl, rfl, rfl, rfl, rfl, HW⟩ := hrel
    have hw := HW.out
    subst hw
    clear HW
    go_wp2_with fail
    refine (insertion_ord a k c l wr hk hc HO.out).mono ?_
    rintro e w1 ⟨⟨v, rfl⟩, k1⟩
    have K1 : Hid (Below wr.heap.size wr w1) := k1
    clear k1
    go_wp2
    exact bodyPost_ret (results_none rfl _ _ _) rfl ⟨⟨_, rfl⟩, K1.out⟩

theorem Sort_ord (a : Option Addr) (k c : Nat) (l : List Int) (w : World) (hk : k ≤ 12) (hc : k ≤ c) (ho : Ord a k l w) :
    Calls Tryz.prog 152 #[.slice a k c] w fun e w' => (∃ v, e = .returned v) ∧ Below w.heap.size w w' := by
  have HO : Hid (Ord a k l w) := ho
  clear ho
  go_enter Tryz.func152, Tryz.ntmps152
  go_wp2_with fail
  refine (Len_of k w (by omega) (by omega)).mono ?_
  rintro e w1 ⟨rfl, rfl⟩
  obtain ⟨lim, hlim⟩ : ∃ lim : Int, lim = (Lib.bitLen (Int.toNat k) : Int) := ⟨_, rfl⟩
  rw [← hlim]
  clear hlim
  go_wp2_with fail
  refine (pdq_ord a k c l lim w1 hk hc HO.out).mono ?_
  rintro e w2 ⟨⟨v, rfl⟩, k2⟩
  have K2 : Hid (Below w1.heap.size w1 w2) := k2
  clear k2
  go_wp2
  go_end0
  exact ⟨⟨_, rfl⟩, K2.out⟩

end Go.Proofs.YtfbgblidlabipaaGreatDoor
end

section
/- prime.tally of numbers in order; prime.Factor of a product of primes up to 23. -/
set_option linter.unusedSimpArgs false
set_option linter.unusedVariables false
set_option maxRecDepth 100000
namespace Go.Proofs.YtfbgblidlabipaaGreatDoor
open Go.RowKit

theorem Tryz.infoPower2 : (Tryz.prog.info? 66).map (fun i => (i.zero, i.size, i.bytes)) = some (some (.agg #[.int .i64 0, .int .i64 0]), 2, 16) := by kernel_rfl

/-- One number more: told again, or anew. -/
def stepT (acc : List (Int × Int)) (p : Int) : List (Int × Int) :=
  match acc.getLast? with
  | some (q, t) => if q = p then acc.dropLast ++ [(q, t + 1)] else acc ++ [(p, 1)]
  | none => [(p, 1)]
/-- Each number once, with how often it stands there. -/
def tly (l : List Int) : List (Int × Int) := l.foldl stepT []
def pvals : List (Int × Int) → List Value
  | [] => []
  | x :: r => .int .i64 x.1 :: .int .i64 x.2 :: pvals r
theorem pvals_append (x y : List (Int × Int)) : pvals (x ++ y) = pvals x ++ pvals y := by
  induction x with
  | nil => rfl
  | cons p t ih => simp only [List.cons_append, pvals, ih]
theorem pvals_len (x : List (Int × Int)) : (pvals x).length = x.length * 2 := by
  induction x with
  | nil => rfl
  | cons p t ih => simp only [pvals, List.length_cons, ih]; omega
theorem tly_succ (l : List Int) (i : Nat) (h : i < l.length) : tly (l.take (i + 1)) = stepT (tly (l.take i)) (l.getD i 0) := by
  rw [List.take_succ_eq_append_getElem h, tly, List.foldl_append, List.getD_eq_getElem?_getD, List.getElem?_eq_getElem h]; rfl
theorem stepT_nil (p : Int) : stepT [] p = [(p, 1)] := rfl
theorem stepT_same (acc : List (Int × Int)) (p t : Int) : stepT (acc ++ [(p, t)]) p = acc ++ [(p, t + 1)] := by simp [stepT]
theorem stepT_new (acc : List (Int × Int)) (q p t : Int) (h : q ≠ p) : stepT (acc ++ [(q, t)]) p = acc ++ [(q, t)] ++ [(p, 1)] := by simp [stepT, h]

def TlyPost (l : List Int) (w : World) (e : Ending) (w' : World) : Prop :=
  ∃ a c, e = .returned (.slice a (tly l).length c) ∧ w'.ownsRow w.heap.size 66 2 (.slice a (tly l).length c) (tly l).length (pvals (tly l)) ∧ Below w.heap.size w w'

theorem row2_kept {B e n : Nat} {v : Value} {W W' : World} {xs : List Value} (h : W.ownsRow B e 2 v n xs) (k : ∀ g, v.ownBlock = some g → W'.heap[g]? = W.heap[g]?) : W'.ownsRow B e 2 v n xs := by
  obtain ⟨h1, h2⟩ := h
  refine ⟨h1, ?_⟩
  rcases h2 with h3 | ⟨g, cap, cur, h3, h4, h5, h6⟩
  · exact .inl h3
  · exact .inr ⟨g, cap, cur, h3, h4, (k g (by rw [h3]; rfl)).trans h5, h6⟩

/-- What is told of the first i. -/
structure TL (w : World) (l : List Int) (i : Nat) (a : Option Addr) (m ac : Nat) (wx : World) : Prop where
  len : m = (tly (l.take i)).length
  b : Below w.heap.size w wx
  row : wx.ownsRow w.heap.size 66 2 (.slice a m ac) m (pvals (tly (l.take i)))
  t : ∀ x ∈ tly (l.take i), 0 ≤ x.2 ∧ x.2 ≤ i

set_option maxHeartbeats 1000000 in
theorem tally_ord (a0 : Option Addr) (k c : Nat) (l : List Int) (w : World) (hl : k = l.length) (hk : k ≤ 50) (hkc : k ≤ c)
    (hcell : ∀ g j, a0 = some ⟨g, 0, none⟩ → j < k → g < w.heap.size ∧ w.cell? ⟨g, j, none⟩ = some (.int .i64 (l.getD j 0))) (hsome : 0 < k → ∃ g, a0 = some ⟨g, 0, none⟩) :
    Calls Tryz.prog 153 #[.slice a0 k c] w (TlyPost l w) := by
  obtain ⟨i0, hi, hz0, hz1, hz2⟩ := info_parts Tryz.infoPower2
  have HI : Hid (Tryz.prog.info? 66 = some i0 ∧ i0.zero = some (.agg #[.int .i64 0, .int .i64 0]) ∧ i0.size = 2 ∧ i0.bytes = 16) := ⟨hi, hz0, hz1, hz2⟩
  have HC : Hid (∀ g j, a0 = some ⟨g, 0, none⟩ → j < k → g < w.heap.size ∧ w.cell? ⟨g, j, none⟩ = some (.int .i64 (l.getD j 0))) := hcell
  have HS : Hid (0 < k → ∃ g, a0 = some ⟨g, 0, none⟩) := hsome
  have HL : Hid (k = l.length) := hl
  clear hi hz0 hz1 hz2 hcell hsome hl
  go_enter Tryz.func153, Tryz.ntmps153
  go_wp2
  go_loopw [3, 9] (fun av iv wx => ∃ (i m : Nat) (a : Option Addr) (ac : Nat), i ≤ k ∧ av = .slice a m ac ∧ iv = .int .i64 i ∧ m ≤ i ∧ m ≤ ac ∧ Hid (TL w l i a m ac wx)) (fun _ iv _ => k - (intOf iv).toNat)
  case atStart => exact ⟨0, 0, none, 0, Nat.zero_le _, rfl, rfl, Nat.le_refl _, Nat.le_refl _, rfl, Below.refl _ _, World.ownsRow_nil _ _ _ _, by simp [tly]⟩
  case round =>
    obtain ⟨i, m, a, ac, hi1, rfl, rfl, hmi, hma, HT⟩ := hrel
    have zr := HT.out.b.size
    by_cases hlt : i < k
    · obtain ⟨g, rfl⟩ := HS.out (by omega)
      have hg := (HC.out g i rfl hlt).1
      have hc1 : wr.cell? ⟨g, i, none⟩ = some (.int .i64 (l.getD i 0)) := (HT.out.b.cell (p := ⟨g, i, none⟩) hg).trans (HC.out g i rfl hlt).2
      obtain ⟨p, hp⟩ : ∃ p, p = l.getD i 0 := ⟨_, rfl⟩
      rw [← hp] at hc1
      have HSt : Hid (tly (l.take (i + 1)) = stepT (tly (l.take i)) p) := by rw [hp]; exact tly_succ l i (by have := HL.out; omega)
      clear hp
      obtain ⟨acc, hacc⟩ : ∃ acc, acc = tly (l.take i) := ⟨_, rfl⟩
      have HA : Hid (acc = tly (l.take i)) := hacc
      have hml := HT.out.len
      rw [← hacc] at hml
      rcases List.eq_nil_or_concat acc with h0 | ⟨acc', qt, h0⟩
      · subst h0
        have hm0 : m = 0 := by simpa using hml
        subst hm0
        have HROW : Hid (wr.ownsRow w.heap.size 66 2 (.slice a 0 ac) 0 []) := by
          have := HT.out.row
          rw [← hacc] at this; exact this
        clear hml hacc
        go_wp2_with (at_builtin; refine wpList_append_own _ rfl _ _ 61 rfl w.heap.size 66 i0 (.agg #[.int .i64 0, .int .i64 0]) 2 16 Tryz.underlying61 HI.out.1 HI.out.2.1 HI.out.2.2.1 HI.out.2.2.2 rfl (by decide) (.slice a 0 ac) 0 [] rfl (HROW.out.alloc _) ⟨wr.heap.size, 0, none⟩ 1 1 [.int .i64 p, .int .i64 1] rfl rfl (cell_two_new _ _ _ _) (by simp [Value.oneCell']) (by simp only [maxLen]; omega) (by omega) (by simp; omega) ?_; intro v' w1 hown' hgrow _; obtain ⟨g', cap', rfl⟩ := ownsRow_succ hown')
        have hcap : 0 + 1 ≤ cap' := by
          rcases hown'.2 with ⟨h, _⟩ | ⟨_, _, _, h, _, _, h4, _⟩
          · cases h
          · cases h; exact h4
        have e1 : tly (l.take (i + 1)) = [(p, 1)] := by rw [HSt.out, ← HA.out]; rfl
        have HN : Hid (TL w l (i + 1) (some ⟨g', 0, none⟩) (0 + 1) cap' w1) := by
          refine ⟨by rw [e1]; rfl, (HT.out.b.alloc zr _).grown hgrow (by simp; omega) (fun k e => (HROW.out.lt k e).1), by rw [e1]; exact hown', ?_⟩
          rw [e1]; intro x hx; simp at hx; subst hx; simp; omega
        clear hown' hgrow e1
        go_wp2
        go_roundw
        case rel => exact ⟨i + 1, 0 + 1, some ⟨g', 0, none⟩, cap', by omega, rfl, by go_num, by omega, hcap, HN.out⟩
        case measure => simp [intOf]; omega
      · obtain ⟨q, t⟩ := qt
        rw [List.concat_eq_append] at h0
        subst h0
        obtain ⟨m', rfl⟩ : ∃ m', m = m' + 1 := ⟨acc'.length, by rw [hml]; simp⟩
        have hm' : acc'.length = m' := by simp at hml; omega
        have HROW : Hid (wr.ownsRow w.heap.size 66 2 (.slice a (m' + 1) ac) (m' + 1) (pvals (acc' ++ [(q, t)]))) := by
          have := HT.out.row
          rw [← hacc] at this; exact this
        obtain ⟨ga, rfl⟩ : ∃ ga, a = some ⟨ga, 0, none⟩ := by
          rcases HROW.out.2 with ⟨_, h0⟩ | ⟨ga, _, _, h1, _⟩
          · omega
          · simp only [Value.slice.injEq] at h1; exact ⟨ga, h1.1⟩
        have hq1 : wr.cell? ⟨ga, m' * 2, none⟩ = some (.int .i64 q) := by
          rw [HROW.out.cellAt (m' * 2) (by omega), pvals_append, List.getElem?_append_right (by rw [pvals_len]; omega), pvals_len, hm']
          simp [pvals]
        have hq2 : wr.cell? ⟨ga, m' * 2 + 1, none⟩ = some (.int .i64 t) := by
          rw [HROW.out.cellAt (m' * 2 + 1) (by omega), pvals_append, List.getElem?_append_right (by rw [pvals_len]; omega), pvals_len, hm', show m' * 2 + 1 - m' * 2 = 1 by omega]
          simp [pvals]
        have hq3 := HROW.out.frozenAt (m' * 2 + 1)
        have ht := HT.out.t (q, t) (by rw [← hacc]; simp)
        simp at ht
        have HM : Hid (acc'.length = m') := hm'
        clear hml hacc hm'
        by_cases hqp : q = p
        · subst hqp
          have hqb : (q == q) = true := by simp
          have e1 : tly (l.take (i + 1)) = acc' ++ [(q, t + 1)] := by rw [HSt.out, ← HA.out, stepT_same]
          have HE : Hid (tly (l.take (i + 1)) = acc' ++ [(q, t + 1)]) := e1
          clear e1
          go_wp2
          go_roundw
          case rel =>
            have hs := (HROW.out.stored (m' * 2 + 1) (.int .i64 (t + 1))).1
            have hset : (pvals (acc' ++ [(q, t)])).set (m' * 2 + 1) (.int .i64 (t + 1)) = pvals (acc' ++ [(q, t + 1)]) := by
              rw [pvals_append, pvals_append, List.set_append_right _ _ (by rw [pvals_len, HM.out]; omega), pvals_len, HM.out, show m' * 2 + 1 - m' * 2 = 1 by omega]
              rfl
            rw [hset] at hs
            refine ⟨i + 1, m' + 1, some ⟨ga, 0, none⟩, ac, by omega, rfl, by go_num, by omega, hma, by rw [HE.out]; simp; exact HM.out.symm, HT.out.b.setCell (HROW.out.lt ga rfl).1 _, by rw [HE.out]; exact hs, ?_⟩
            rw [HE.out]; intro x hx
            rcases List.mem_append.1 hx with h | h
            · have := HT.out.t x (by rw [← HA.out]; exact List.mem_append_left _ h); omega
            · simp at h; subst h; simp; omega
          case measure => simp [intOf]; omega
        · have hqb : (q == p) = false := beq_eq_false_iff_ne.2 hqp
          have e1 : tly (l.take (i + 1)) = acc' ++ [(q, t)] ++ [(p, 1)] := by rw [HSt.out, ← HA.out, stepT_new _ _ _ _ hqp]
          have HE : Hid (tly (l.take (i + 1)) = acc' ++ [(q, t)] ++ [(p, 1)]) := e1
          clear e1 hqp
          go_wp2_with (at_builtin; refine wpList_append_own _ rfl _ _ 61 rfl w.heap.size 66 i0 (.agg #[.int .i64 0, .int .i64 0]) 2 16 Tryz.underlying61 HI.out.1 HI.out.2.1 HI.out.2.2.1 HI.out.2.2.2 rfl (by decide) (.slice (some ⟨ga, 0, none⟩) (m' + 1) ac) (m' + 1) (pvals (acc' ++ [(q, t)])) rfl (HROW.out.alloc _) ⟨wr.heap.size, 0, none⟩ 1 1 [.int .i64 p, .int .i64 1] rfl rfl (cell_two_new _ _ _ _) (by simp [Value.oneCell']) (by simp only [maxLen]; omega) (by omega) (by simp; omega) ?_; intro v' w1 hown' hgrow _; obtain ⟨g', cap', rfl⟩ := ownsRow_succ hown')
          have hcap : (m' + 1) + 1 ≤ cap' := by
            rcases hown'.2 with ⟨h, _⟩ | ⟨_, _, _, h, _, _, h4, _⟩
            · cases h
            · cases h; exact h4
          have HN : Hid (TL w l (i + 1) (some ⟨g', 0, none⟩) (m' + 1 + 1) cap' w1) := by
            refine ⟨by rw [HE.out]; simp; exact HM.out.symm, (HT.out.b.alloc zr _).grown hgrow (by simp; omega) (fun k e => (HROW.out.lt k e).1), by rw [HE.out, pvals_append]; exact hown', ?_⟩
            rw [HE.out]; intro x hx
            rcases List.mem_append.1 hx with h | h
            · have := HT.out.t x (by rw [← HA.out]; exact h); omega
            · simp at h; subst h; simp; omega
          clear hown' hgrow
          go_wp2
          go_roundw
          case rel => exact ⟨i + 1, m' + 1 + 1, some ⟨g', 0, none⟩, cap', by omega, rfl, by go_num, by omega, hcap, HN.out⟩
          case measure => simp [intOf]; omega
    · obtain rfl : i = k := by omega
      go_wp2
      go_ret
      have h := HT.out.row
      have h2 := HT.out.len
      rw [HL.out, List.take_length] at h h2
      subst h2
      exact ⟨a, ac, rfl, h, HT.out.b⟩

def FctPost (l : List Int) (w : World) (e : Ending) (w' : World) : Prop :=
  ∃ a c, e = .returned (.tuple #[.slice a (tly l).length c, .agg #[.int .i64 0, .int .i64 0]]) ∧ w'.ownsRow w.heap.size 66 2 (.slice a (tly l).length c) (tly l).length (pvals (tly l)) ∧ Below w.heap.size w w'

theorem Sm.ord {l : List Int} (h : Sm l) (j : Nat) (hj : j + 1 < l.length) : l.getD j 0 ≤ l.getD (j + 1) 0 := by
  have h1 := List.pairwise_iff_getElem.1 h.sort j (j + 1) (by omega) hj (by omega)
  rw [List.getD_eq_getElem?_getD, List.getD_eq_getElem?_getD, List.getElem?_eq_getElem hj, List.getElem?_eq_getElem (by omega)]
  exact h1

set_option maxHeartbeats 1000000 in
theorem Factor_sm (fs : List Int) (N : Int) (hfs : Sm fs) (hlen : fs.length ≤ 12) (hN : N = prd fs) (hN2 : N ≤ 1000000000000000000) (w : World) :
    Calls Tryz.prog 95 #[.int .i64 N] w (FctPost fs w) := by
  have HF : Hid (∀ w, Calls Tryz.prog 151 #[.int .i64 N] w (FacPost fs w)) := fun w => factors_sm fs N hfs (by omega) hN hN2 w
  have HFS : Hid (Sm fs) := hfs
  obtain ⟨k, hk⟩ : ∃ k, k = fs.length := ⟨_, rfl⟩
  have HK : Hid (k = fs.length) := hk
  have hk12 : k ≤ 12 := by omega
  have hN1 : 1 ≤ N := by rw [hN]; exact prd_pos hfs
  have hN3 : decide (N < 1) = false := decide_eq_false (by omega)
  have hN4 : decide ((1000000000000000000 : Int) < N) = false := decide_eq_false (by omega)
  clear hfs hlen hN hN1 hN2 hk
  go_enter Tryz.func95, Tryz.ntmps95
  go_wp2_with fail
  refine (HF.out _).mono ?_
  rintro e w1 ⟨a, c, rfl, row, k1⟩
  rw [← HK.out] at row ⊢
  have z1 := k1.size
  simp at z1
  have S1 : Hid (Sv w.heap.size 0 0 w1) := (Sv.new 0 0 w).below k1
  have hkc : k ≤ c := by
    rcases row.2 with ⟨h, h2⟩ | ⟨_, _, _, h, _, _, h4, _⟩
    · omega
    · cases h; exact h4
  have O1 : Ord a k fs w1 := by
    refine ⟨?_, ?_, fun j hj => HFS.out.ord j (by rw [← HK.out]; exact hj)⟩
    · rintro g j rfl hj
      refine ⟨(row.lt g rfl).2, ?_⟩
      rw [row.cellAt j (by omega), ints, List.getElem?_map, List.getD_eq_getElem?_getD, List.getElem?_eq_getElem (by rw [← HK.out]; exact hj)]; rfl
    · intro h0
      rcases row.2 with ⟨_, h⟩ | ⟨g, _, _, h, _⟩
      · omega
      · simp only [Value.slice.injEq] at h; exact ⟨g, h.1⟩
  have HO1 : Hid (Ord a k fs w1) := O1
  have K1 : Hid (Below w.heap.size w w1) := ((Below.refl _ _).alloc (Nat.le_refl _) _).trans (k1.mono (by simp))
  clear row k1 O1
  go_wp2_with fail
  refine (Sort_ord a k c fs w1 hk12 hkc HO1.out).mono ?_
  rintro e w2 ⟨⟨v, rfl⟩, k2⟩
  have z2 := k2.size
  have S2 : Hid (Sv w.heap.size 0 0 w2) := S1.out.below k2
  have HO2 : Hid (Ord a k fs w2) := HO1.out.below k2
  have K2 : Hid (Below w.heap.size w w2) := K1.out.trans (k2.mono (by omega))
  clear k2 S1 HO1 K1
  go_wp2_with fail
  refine (tally_ord a k c fs w2 HK.out (by omega) hkc (fun g j e hj => HO2.out.cell g j e hj) HO2.out.some).mono ?_
  rintro e w3 ⟨a3, c3, rfl, row3, k3⟩
  obtain ⟨n, hn⟩ : ∃ n, n = (tly fs).length := ⟨_, rfl⟩
  rw [← hn] at row3 ⊢
  have S3 := S2.out.below k3
  have q0 := S3.c0
  have q1 := S3.c1
  have q2 := S3.f0
  have q3 := S3.f1
  have q4 := S3.lt
  have z3 := k3.size
  have K3 : Hid (Below w.heap.size w w3) := K2.out.trans (k3.mono (by omega))
  have HRow : Hid (w3.ownsRow w2.heap.size 66 2 (.slice a3 n c3) n (pvals (tly fs))) := row3
  have HNn : Hid (n = (tly fs).length) := hn
  clear S3 row3 k3 S2 K2 HO2 hn
  go_wp2
  refine bodyPost_ret (v := .tuple #[.slice a3 n c3, .agg #[.int .i64 0, .int .i64 0]]) (by simp [results, Tryz.results95, go_sem, q0, q1, q4]) rfl ?_
  have h5 := ownsRow_setCell_below (ownsRow_setCell_below HRow.out (a := ⟨w.heap.size, 0, none⟩) (by show w.heap.size < _; omega) (.int .i64 0)) (a := ⟨w.heap.size, 1, none⟩) (by show w.heap.size < _; omega) (.int .i64 0)
  refine ⟨a3, c3, by rw [HNn.out], ?_, (K3.out.setCell (by simp) _).setCell (by simp) _⟩
  obtain ⟨h6, h7⟩ := h5
  rw [← HNn.out]
  refine ⟨h6, ?_⟩
  rcases h7 with h8 | ⟨g9, cap, cur, h9, h10, h11⟩
  · exact .inl h8
  · exact .inr ⟨g9, cap, cur, h9, by omega, h11⟩

end Go.Proofs.YtfbgblidlabipaaGreatDoor
end
