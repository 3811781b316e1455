import Derived.Test.YtcnfhndejkngkaaGreatDoorJpU
import Derived.Test.YtcnfhndejkngkaaGreatDoorJpR
import Derived.Deep.LoopGhost
section
set_option linter.unusedSimpArgs false
set_option linter.unusedVariables false
set_option maxRecDepth 100000
namespace Go.Proofs.YtcnfhndejkngkaaGreatDoor
namespace OR
theorem prd_app (a : List Int) (p : Int) : prd (a ++ [p]) = prd a * p := by
  induction a with
  | nil => show p * 1 = 1 * p; omega
  | cons x t ih => show x * prd (t ++ [p]) = x * prd t * p; rw [ih, Int.mul_assoc]
theorem prc {r c : Nat} (hr : Pr r) (h : ¬ r ∣ c) : Nat.Coprime r c := by
  rcases hr.2 (Nat.gcd r c) (Nat.gcd_dvd_left ..) with hg | hg
  · exact hg
  · exact absurd (hg ▸ Nat.gcd_dvd_right r c) h
def pf (x : Int × Int) : Nat := (x.1.toNat - 1) * x.1.toNat ^ (x.2.toNat - 1)
def pq (x : Int × Int) : Nat := x.1.toNat ^ x.2.toNat
def phN (T : List (Int × Int)) : Nat := T.foldl (fun z x => z * pf x) 1
def pwT (T : List (Int × Int)) : Nat := T.foldl (fun z x => z * pq x) 1
theorem phN_app (T : List (Int × Int)) (x : Int × Int) : phN (T ++ [x]) = phN T * pf x := by unfold phN; rw [List.foldl_append]; rfl
theorem pwT_app (T : List (Int × Int)) (x : Int × Int) : pwT (T ++ [x]) = pwT T * pq x := by unfold pwT; rw [List.foldl_append]; rfl
structure Tp (T : List (Int × Int)) : Prop where
  mem : ∀ x ∈ T, ∃ p t : Nat, x = ((p : Int), (t : Int)) ∧ Pr p ∧ 1 ≤ t
  inc : T.Pairwise (fun x y => x.1 < y.1)
theorem tly_tp : ∀ (l : List Int), Pmv l → Tp (tly l) ∧ ((pwT (tly l) : Nat) : Int) = prd l ∧ (∀ x, l.getLast? = some x → ∃ t, (tly l).getLast? = some (x, t)) ∧ (∀ y, y ∈ l → ∃ x ∈ tly l, x.1 = y) ∧ (∀ x ∈ tly l, x.1 ∈ l) ∧ (l = [] → tly l = []) := by
  intro l
  obtain ⟨n, hn⟩ : ∃ n, n = l.length := ⟨_, rfl⟩
  induction n generalizing l with
  | zero =>
    obtain rfl : l = [] := List.eq_nil_of_length_eq_zero hn.symm
    intro _
    exact ⟨⟨by simp [tly], by simp [tly]⟩, by simp [tly, pwT, prd], by simp, by simp, by simp [tly], fun _ => rfl⟩
  | succ n ihn =>
    obtain ⟨l, p, rfl⟩ : ∃ l' p, l = l' ++ [p] := by
      rcases List.eq_nil_or_concat l with h | ⟨l', p, h⟩
      · subst h; simp at hn
      · exact ⟨l', p, by rw [h]; simp⟩
    intro hP
    obtain ⟨h1, h2, h3⟩ := List.pairwise_append.1 hP.sort
    have hPl : Pmv l := ⟨fun y hy => hP.mem y (by simp [hy]), h1⟩
    obtain ⟨i1, i2, i3, i4, i5, i6⟩ := ihn l (by simp at hn; omega) hPl
    obtain ⟨P, rfl, hPp⟩ := hP.mem p (by simp)
    have e : tly (l ++ [(P : Int)]) = stepT (tly l) P := by rw [tly, List.foldl_append]; rfl
    rcases (show l = [] ∨ ∃ l' q, l = l' ++ [q] from by
      rcases List.eq_nil_or_concat l with h | ⟨l', p, h⟩
      · exact .inl h
      · exact .inr ⟨l', p, by rw [h]; simp⟩) with rfl | ⟨l', q, hl⟩
    · rw [e, i6 rfl, stepT_nil]
      refine ⟨⟨by intro x hx; obtain rfl : x = ((P : Int), 1) := by simpa using hx
                  exact ⟨P, 1, rfl, hPp, Nat.le_refl _⟩, by simp⟩, ?_, by simp, by simp, by simp, by simp⟩
      show ((1 * pq ((P : Int), 1) : Nat) : Int) = (P : Int) * 1
      unfold pq
      simp
    · obtain ⟨t, ht⟩ := i3 q (by rw [hl]; simp)
      obtain ⟨T, hT⟩ := List.getLast?_eq_some_iff.1 ht
      have hqP : q ≤ P := h3 q (by rw [hl]; simp) P (by simp)
      have inc := i1.inc
      rw [hT] at inc
      obtain ⟨j1, _, j3⟩ := List.pairwise_append.1 inc
      have hlt : ∀ x ∈ T, x.1 < q := fun x hx => j3 x hx (q, t) (by simp)
      obtain ⟨Q, t', hQ, hQp, ht1⟩ := i1.mem (q, t) (by rw [hT]; simp)
      obtain ⟨rfl, rfl⟩ := Prod.mk.inj hQ
      rw [e, hT]
      rw [hT] at i2
      by_cases hq : (Q : Int) = P
      · obtain rfl : Q = P := by omega
        rw [stepT_same]
        refine ⟨⟨fun x hx => ?_, ?_⟩, ?_, ?_, ?_, ?_, ?_⟩
        · rcases List.mem_append.1 hx with h | h
          · exact i1.mem x (by rw [hT]; simp [h])
          · obtain rfl : x = ((Q : Int), (t' : Int) + 1) := by simpa using h
            exact ⟨Q, t' + 1, by simp, hQp, by omega⟩
        · refine List.pairwise_append.2 ⟨j1, by simp, fun x hx y hy => ?_⟩
          obtain rfl : y = ((Q : Int), (t' : Int) + 1) := by simpa using hy
          exact hlt x hx
        · rw [pwT_app] at i2 ⊢
          rw [prd_app, ← i2]
          unfold pq
          have e1 : ((t' : Int) + 1).toNat = t' + 1 := by omega
          simp only [Int.toNat_natCast, e1, Nat.pow_succ]
          push_cast
          rw [Int.mul_assoc]
        · intro x hx
          have : x = (Q : Int) := by simpa using hx.symm
          exact ⟨(t' : Int) + 1, by rw [this]; simp⟩
        · intro y hy
          rcases List.mem_append.1 hy with h | h
          · obtain ⟨x, hx, hxy⟩ := i4 y h
            rw [hT] at hx
            rcases List.mem_append.1 hx with h4 | h4
            · exact ⟨x, by simp [h4], hxy⟩
            · obtain rfl : x = ((Q : Int), (t' : Int)) := by simpa using h4
              exact ⟨((Q : Int), (t' : Int) + 1), by simp, hxy⟩
          · exact ⟨((Q : Int), (t' : Int) + 1), by simp, (List.mem_singleton.1 h).symm⟩
        · intro x hx
          rcases List.mem_append.1 hx with h | h
          · exact List.mem_append_left _ (i5 x (by rw [hT]; simp [h]))
          · obtain rfl : x = ((Q : Int), (t' : Int) + 1) := by simpa using h
            simp
        · intro h; simp at h
      · rw [stepT_new _ _ _ _ hq]
        refine ⟨⟨fun x hx => ?_, ?_⟩, ?_, ?_, ?_, ?_, ?_⟩
        · rcases List.mem_append.1 hx with h | h
          · exact i1.mem x (by rw [hT]; exact h)
          · obtain rfl : x = ((P : Int), 1) := by simpa using h
            exact ⟨P, 1, rfl, hPp, Nat.le_refl _⟩
        · refine List.pairwise_append.2 ⟨inc, by simp, fun x hx y hy => ?_⟩
          obtain rfl : y = ((P : Int), 1) := by simpa using hy
          rcases List.mem_append.1 hx with h | h
          · have := hlt x h; show x.1 < (P : Int); omega
          · obtain rfl : x = ((Q : Int), (t' : Int)) := by simpa using h
            show (Q : Int) < P; omega
        · rw [pwT_app, prd_app]
          show ((pwT (T ++ [((Q : Int), (t' : Int))]) * pq ((P : Int), 1) : Nat) : Int) = _
          push_cast
          rw [i2]
          unfold pq
          simp
        · intro x hx
          have : x = (P : Int) := by simpa using hx.symm
          exact ⟨1, by rw [this]; simp⟩
        · intro y hy
          rcases List.mem_append.1 hy with h | h
          · obtain ⟨x, hx, hxy⟩ := i4 y h
            rw [hT] at hx
            exact ⟨x, List.mem_append_left _ hx, hxy⟩
          · exact ⟨((P : Int), 1), by simp, (List.mem_singleton.1 h).symm⟩
        · intro x hx
          rcases List.mem_append.1 hx with h | h
          · exact List.mem_append_left _ (i5 x (by rw [hT]; exact h))
          · obtain rfl : x = ((P : Int), 1) := by simpa using h
            simp
        · intro h; simp at h
theorem pf_mem : ∀ (T : List (Int × Int)) (x : Int × Int), x ∈ T → pf x ∣ phN T := by
  intro T
  obtain ⟨n, hn⟩ : ∃ n, n = T.length := ⟨_, rfl⟩
  induction n generalizing T with
  | zero => intro x hx; rw [List.eq_nil_of_length_eq_zero hn.symm] at hx; simp at hx
  | succ n ih =>
    obtain ⟨T, y, rfl⟩ : ∃ l' p, T = l' ++ [p] := by
      rcases List.eq_nil_or_concat T with h | ⟨l', p, h⟩
      · subst h; simp at hn
      · exact ⟨l', p, by rw [h]; simp⟩
    intro x hx
    rw [phN_app]
    rcases List.mem_append.1 hx with h | h
    · exact Nat.dvd_mul_right_of_dvd (ih T (by simp at hn; omega) x h) _
    · obtain rfl : x = y := by simpa using h
      exact Nat.dvd_mul_left _ _
theorem all_dvd {N : Nat} : ∀ (T : List (Int × Int)), Tp T → (∀ x ∈ T, pq x ∣ N) → pwT T ∣ N ∧ ∀ q, Pr q → q ∣ pwT T → ∃ x ∈ T, x.1 = (q : Int) := by
  intro T
  obtain ⟨n, hn⟩ : ∃ n, n = T.length := ⟨_, rfl⟩
  induction n generalizing T with
  | zero =>
    intro _ _
    rw [List.eq_nil_of_length_eq_zero hn.symm]
    refine ⟨Nat.one_dvd _, fun q hq h => ?_⟩
    have := Nat.le_of_dvd (by decide) (show q ∣ 1 from h)
    have := hq.1
    omega
  | succ n ih =>
    obtain ⟨T, y, rfl⟩ : ∃ l' p, T = l' ++ [p] := by
      rcases List.eq_nil_or_concat T with h | ⟨l', p, h⟩
      · subst h; simp at hn
      · exact ⟨l', p, by rw [h]; simp⟩
    intro hT hN
    obtain ⟨j1, _, j3⟩ := List.pairwise_append.1 hT.inc
    obtain ⟨i1, i2⟩ := ih T (by simp at hn; omega) ⟨fun x hx => hT.mem x (by simp [hx]), j1⟩ (fun x hx => hN x (by simp [hx]))
    obtain ⟨p, t, rfl, hp, ht⟩ := hT.mem y (by simp)
    have hnd : ¬ p ∣ pwT T := fun h => by
      obtain ⟨x, hx, hxp⟩ := i2 p hp h
      have := j3 x hx _ (List.mem_singleton.2 rfl)
      have h4 : x.1 < (p : Int) := this
      omega
    have hcp : Nat.Coprime (pwT T) (pq ((p : Int), (t : Int))) := by
      unfold pq
      simp only [Int.toNat_natCast]
      exact ((prc hp hnd).pow_left t).symm
    rw [pwT_app]
    refine ⟨Nat.Coprime.mul_dvd_of_dvd_of_dvd hcp i1 (hN _ (by simp)), fun q hq h => ?_⟩
    rcases pr_mul hq h with h | h
    · obtain ⟨x, hx, hxq⟩ := i2 q hq h
      exact ⟨x, by simp [hx], hxq⟩
    · unfold pq at h
      simp only [Int.toNat_natCast] at h
      have h5 := pr_pow hq _ h
      rcases hp.2 q h5 with h6 | h6
      · have := hq.1; omega
      · exact ⟨((p : Int), (t : Int)), by simp, by simp [h6]⟩
theorem pow_one_more {D u : Int} (h : D ∣ u - 1) : ∀ k : Nat, D ∣ u ^ k - 1
  | 0 => by simp
  | k + 1 => by
    have h1 := pow_one_more h k
    have e : u ^ (k + 1) - 1 = u * (u ^ k - 1) + (u - 1) := by rw [Int.pow_succ]; grind
    rw [e]
    exact Int.dvd_add (Int.dvd_mul_of_dvd_right h1) h
theorem prime_pow {p b : Nat} (hp : Pr p) (hb : b % p ≠ 0) : ∀ t, ((p : Int) ^ (t + 1)) ∣ (b : Int) ^ ((p - 1) * p ^ t) - 1
  | 0 => by
    have h := fermat hp hb
    have h2 : ((b ^ (p - 1) : Nat) : Int) % (p : Int) = 1 := by exact_mod_cast h
    rw [Nat.pow_zero, Nat.mul_one, Int.pow_succ, Int.pow_zero, Int.one_mul]
    have h3 := Int.emod_emod_of_dvd
    rw [Int.natCast_pow] at h2
    have h4 : ((b : Int) ^ (p - 1) - 1) % (p : Int) = 0 := by
      have h5 : (1 : Int) % (p : Int) = 1 := Int.emod_eq_of_lt (by omega) (by have := hp.1; omega)
      rw [Int.sub_emod, h2, h5]; simp
    exact Int.dvd_of_emod_eq_zero h4
  | t + 1 => by
    have h := pow_lift (u := (b : Int) ^ ((p - 1) * p ^ t)) (v := 1) (p := p) (j := t + 1) (by have := hp.1; omega) (by omega) (prime_pow hp hb t)
    rw [Int.one_pow, ← Int.pow_mul, Nat.mul_assoc, ← Nat.pow_succ] at h
    exact h
theorem dvd_mod {d b n : Nat} (hb : 1 ≤ b) (h : (d : Int) ∣ (b : Int) ^ n - 1) : b ^ n % d = 1 % d := by
  have h1 : ((b ^ n : Nat) : Int) % (d : Int) = (1 : Int) % (d : Int) := by
    rw [Int.natCast_pow]
    obtain ⟨c, hc⟩ := h
    rw [show (b : Int) ^ n = 1 + (d : Int) * c by omega, Int.add_mul_emod_self_left]
  exact_mod_cast h1
theorem euler {T : List (Int × Int)} (hT : Tp T) {b : Nat} (hb1 : 1 ≤ b) (hb : ∀ x ∈ T, b % x.1.toNat ≠ 0) : b ^ phN T % pwT T = 1 % pwT T := by
  have h1 : ∀ x ∈ T, pq x ∣ b ^ phN T - 1 := fun x hx => by
    obtain ⟨p, t, rfl, hp, ht⟩ := hT.mem x hx
    obtain ⟨s, rfl⟩ : ∃ s, t = s + 1 := ⟨t - 1, by omega⟩
    have h2 := prime_pow hp (by have := hb _ hx; simpa using this) s
    obtain ⟨c, hc⟩ := pf_mem T _ hx
    have e1 : pf ((p : Int), ((s + 1 : Nat) : Int)) = (p - 1) * p ^ s := by
      unfold pf; simp only [Int.toNat_natCast]; rfl
    rw [e1] at hc
    have h3 := pow_one_more h2 c
    rw [← Int.pow_mul, ← hc] at h3
    have e2 : pq ((p : Int), ((s + 1 : Nat) : Int)) = p ^ (s + 1) := by
      unfold pq; simp only [Int.toNat_natCast]
    rw [e2]
    have hge : 1 ≤ b ^ phN T := Nat.one_le_pow _ _ (by omega)
    have e3 : ((b ^ phN T - 1 : Nat) : Int) = (b : Int) ^ phN T - 1 := by
      rw [Int.natCast_sub hge, Int.natCast_pow]; rfl
    apply Int.natCast_dvd_natCast.1
    rw [e3, Int.natCast_pow]
    exact h3
  have h2 := (all_dvd T hT h1).1
  have hge : 1 ≤ b ^ phN T := Nat.one_le_pow _ _ (by omega)
  apply dvd_mod hb1
  have e3 : ((b ^ phN T - 1 : Nat) : Int) = (b : Int) ^ phN T - 1 := by
    rw [Int.natCast_sub hge, Int.natCast_pow]; rfl
  rw [← e3]
  exact Int.natCast_dvd_natCast.2 h2
theorem phN_le : ∀ (T : List (Int × Int)), Tp T → 1 ≤ phN T ∧ phN T ≤ pwT T := by
  intro T
  obtain ⟨n, hn⟩ : ∃ n, n = T.length := ⟨_, rfl⟩
  induction n generalizing T with
  | zero => intro _; rw [List.eq_nil_of_length_eq_zero hn.symm]; exact ⟨Nat.le_refl _, Nat.le_refl _⟩
  | succ n ih =>
    obtain ⟨T, y, rfl⟩ : ∃ l' p, T = l' ++ [p] := by
      rcases List.eq_nil_or_concat T with h | ⟨l', p, h⟩
      · subst h; simp at hn
      · exact ⟨l', p, by rw [h]; simp⟩
    intro hT
    obtain ⟨j1, _, j3⟩ := List.pairwise_append.1 hT.inc
    obtain ⟨i1, i2⟩ := ih T (by simp at hn; omega) ⟨fun x hx => hT.mem x (by simp [hx]), j1⟩
    obtain ⟨p, t, rfl, hp, ht⟩ := hT.mem y (by simp)
    obtain ⟨s, rfl⟩ : ∃ s, t = s + 1 := ⟨t - 1, by omega⟩
    have e1 : pf ((p : Int), ((s + 1 : Nat) : Int)) = (p - 1) * p ^ s := by
      unfold pf; simp only [Int.toNat_natCast]; rfl
    have e2 : pq ((p : Int), ((s + 1 : Nat) : Int)) = p * p ^ s := by
      unfold pq; simp only [Int.toNat_natCast]; rw [Nat.pow_succ, Nat.mul_comm]
    have h2 := hp.1
    have h3 : 1 ≤ p ^ s := Nat.one_le_pow _ _ (by omega)
    rw [phN_app, pwT_app, e1, e2]
    refine ⟨?_, Nat.mul_le_mul i2 (Nat.mul_le_mul_right _ (by omega))⟩
    have h4 : 1 ≤ (p - 1) * p ^ s := Nat.mul_pos (by omega) h3
    exact Nat.mul_pos i1 h4
theorem pow_rep {a M n : Nat} (h : a ^ n % M = 1 % M) (c : Nat) : a ^ (n * c) % M = 1 % M := by
  rw [Nat.pow_mul, Nat.pow_mod, h, ← Nat.pow_mod, Nat.one_pow]
theorem pow_add_rep {a M n : Nat} (h : a ^ n % M = 1 % M) (r c : Nat) : a ^ (r + n * c) % M = a ^ r % M := by
  rw [Nat.pow_add, Nat.mul_mod, pow_rep h c, ← Nat.mul_mod, Nat.mul_one]
theorem least {a M o : Nat} (ho : 1 ≤ o) (h1 : a ^ o % M = 1 % M) (h2 : ∀ q, Pr q → q ∣ o → a ^ (o / q) % M ≠ 1 % M) (n : Nat) (hn : 1 ≤ n) (h : a ^ n % M = 1 % M) : o ∣ n := by
  have key : ∃ m, 1 ≤ m ∧ a ^ m % M = 1 % M ∧ ∀ k, 1 ≤ k → k < m → a ^ k % M ≠ 1 % M := by
    have : ∀ b, (∃ m, m ≤ b ∧ 1 ≤ m ∧ a ^ m % M = 1 % M) → ∃ m, 1 ≤ m ∧ a ^ m % M = 1 % M ∧ ∀ k, 1 ≤ k → k < m → a ^ k % M ≠ 1 % M := by
      intro b
      induction b with
      | zero => rintro ⟨m, h1, h2, _⟩; omega
      | succ b ih =>
        rintro ⟨m, h3, h4, h5⟩
        by_cases hk : ∃ k, k ≤ b ∧ 1 ≤ k ∧ a ^ k % M = 1 % M
        · exact ih hk
        · exact ⟨m, h4, h5, fun k h6 h7 h8 => hk ⟨k, by omega, h6, h8⟩⟩
    exact this o ⟨o, Nat.le_refl _, ho, h1⟩
  obtain ⟨m, m1, m2, m3⟩ := key
  have hdv : ∀ k, a ^ k % M = 1 % M → m ∣ k := fun k hk => by
    have e := pow_add_rep m2 (k % m) (k / m)
    rw [show k % m + m * (k / m) = k from Nat.mod_add_div k m, hk] at e
    rcases Nat.eq_zero_or_pos (k % m) with h0 | h0
    · exact Nat.dvd_of_mod_eq_zero h0
    · exact absurd e.symm (m3 _ h0 (Nat.mod_lt _ m1))
  obtain ⟨c, hc⟩ := hdv o h1
  have hc1 : c = 1 := by
    rcases Nat.lt_or_ge c 2 with h3 | h3
    · rcases Nat.eq_zero_or_pos c with h0 | h0
      · rw [h0] at hc; omega
      · omega
    · obtain ⟨q, hq, d, hd⟩ := pr_divisor c h3
      have h4 := hq.1
      have h5 : o = m * d * q := by rw [hc, hd]; grind
      have h6 := h2 q hq ⟨m * d, by rw [h5]; grind⟩
      rw [h5, Nat.mul_div_cancel _ (by omega)] at h6
      exact absurd (pow_rep m2 d) h6
  rw [hc1] at hc
  have := hdv n h
  rw [show o = m by omega]
  exact this
theorem phN_cat (a : List (Int × Int)) : ∀ b : List (Int × Int), phN (a ++ b) = phN a * phN b := by
  intro b
  obtain ⟨n, hn⟩ : ∃ n, n = b.length := ⟨_, rfl⟩
  induction n generalizing b with
  | zero => rw [List.eq_nil_of_length_eq_zero hn.symm, List.append_nil]; exact (Nat.mul_one _).symm
  | succ n ih =>
    obtain ⟨b, y, rfl⟩ : ∃ l' p, b = l' ++ [p] := by
      rcases List.eq_nil_or_concat b with h | ⟨l', p, h⟩
      · subst h; simp at hn
      · exact ⟨l', p, by rw [h]; simp⟩
    rw [← List.append_assoc, phN_app, phN_app, ih b (by simp at hn; omega), Nat.mul_assoc]
theorem phN_take (T : List (Int × Int)) (i : Nat) (h : i < T.length) : phN (T.take (i + 1)) = phN (T.take i) * pf (T.getD i (0, 0)) := by
  rw [List.take_succ_eq_append_getElem h, phN_app, List.getD_eq_getElem?_getD, List.getElem?_eq_getElem h]; rfl
theorem phN_take_le {T : List (Int × Int)} (hT : Tp T) (i : Nat) : 1 ≤ phN (T.take i) ∧ phN (T.take i) ≤ phN T := by
  have h1 := phN_cat (T.take i) (T.drop i)
  rw [List.take_append_drop] at h1
  have h2 := (phN_le T hT).1
  rcases Nat.eq_zero_or_pos (phN (T.take i)) with h | h
  · rw [h, Nat.zero_mul] at h1; omega
  · rcases Nat.eq_zero_or_pos (phN (T.drop i)) with h3 | h3
    · rw [h3, Nat.mul_zero] at h1; omega
    · refine ⟨h, ?_⟩
      rw [h1]
      exact Nat.le_mul_of_pos_right _ h3
theorem pq_mem : ∀ (T : List (Int × Int)) (x : Int × Int), x ∈ T → pq x ∣ pwT T := by
  intro T
  obtain ⟨n, hn⟩ : ∃ n, n = T.length := ⟨_, rfl⟩
  induction n generalizing T with
  | zero => intro x hx; rw [List.eq_nil_of_length_eq_zero hn.symm] at hx; simp at hx
  | succ n ih =>
    obtain ⟨T, y, rfl⟩ : ∃ l' p, T = l' ++ [p] := by
      rcases List.eq_nil_or_concat T with h | ⟨l', p, h⟩
      · subst h; simp at hn
      · exact ⟨l', p, by rw [h]; simp⟩
    intro x hx
    rw [pwT_app]
    rcases List.mem_append.1 hx with h | h
    · exact Nat.dvd_mul_right_of_dvd (ih T (by simp at hn; omega) x h) _
    · obtain rfl : x = y := by simpa using h
      exact Nat.dvd_mul_left _ _
structure Ld (a M U : Nat) (T : List (Int × Int)) (i o : Nat) : Prop where
  pos : 1 ≤ o
  dv : o ∣ U
  one : a ^ o % M = 1 % M
  out : ∀ j, j < i → ∀ p : Nat, (T.getD j (0, 0)).1 = (p : Int) → ¬ (p ∣ o ∧ a ^ (o / p) % M = 1 % M)
theorem Ld.div {a M U i o p : Nat} {T : List (Int × Int)} (h : Ld a M U T i o) (hp : 2 ≤ p) (hd : p ∣ o) (h1 : a ^ (o / p) % M = 1 % M) : Ld a M U T i (o / p) := by
  obtain ⟨c, rfl⟩ := hd
  have hc : 1 ≤ c := by
    have := h.pos
    rcases Nat.eq_zero_or_pos c with h2 | h2
    · rw [h2] at this; omega
    · exact h2
  rw [Nat.mul_div_cancel_left _ (by omega)] at h1 ⊢
  refine ⟨hc, Nat.dvd_trans ⟨p, by rw [Nat.mul_comm]⟩ h.dv, h1, fun j hj q hq hx => h.out j hj q hq ⟨Nat.dvd_trans hx.1 ⟨p, by rw [Nat.mul_comm]⟩, ?_⟩⟩
  obtain ⟨d, rfl⟩ := hx.1
  rcases Nat.eq_zero_or_pos q with h0 | h0
  · subst h0; simp at hc
  · have e1 : p * (q * d) / q = d * p := by rw [show p * (q * d) = q * (d * p) by grind, Nat.mul_div_cancel_left _ h0]
    have e2 : q * d / q = d := Nat.mul_div_cancel_left _ h0
    rw [e1]
    rw [e2] at hx
    exact pow_rep hx.2 p
theorem Ld.next {a M U i o p : Nat} {T : List (Int × Int)} (h : Ld a M U T i o) (hp : (T.getD i (0, 0)).1 = (p : Int)) (hx : ¬ (p ∣ o ∧ a ^ (o / p) % M = 1 % M)) : Ld a M U T (i + 1) o :=
  ⟨h.pos, h.dv, h.one, fun j hj q hq => by
    by_cases e : j = i
    · subst e
      rw [hp] at hq
      obtain rfl : p = q := by omega
      exact hx
    · exact h.out j (by omega) q hq⟩
theorem Ld.last {a M U o : Nat} {T : List (Int × Int)} (h : Ld a M U T T.length o) (hT : ∀ q, Pr q → q ∣ U → ∃ x ∈ T, x.1 = (q : Int)) : 1 ≤ o ∧ a ^ o % M = 1 % M ∧ ∀ k, 1 ≤ k → a ^ k % M = 1 % M → o ≤ k := by
  refine ⟨h.pos, h.one, fun k hk h1 => Nat.le_of_dvd (by omega) (least h.pos h.one (fun q hq hd hx => ?_) k hk h1)⟩
  · obtain ⟨x, hx1, hx2⟩ := hT q hq (Nat.dvd_trans hd h.dv)
    obtain ⟨j, hj, rfl⟩ := List.getElem_of_mem hx1
    exact h.out j hj q (by rw [List.getD_eq_getElem?_getD, List.getElem?_eq_getElem hj]; exact hx2) ⟨hd, hx⟩
end OR
end Go.Proofs.YtcnfhndejkngkaaGreatDoor
end

section
set_option linter.unusedSimpArgs false
set_option linter.unusedVariables false
set_option maxRecDepth 100000
namespace Go.Proofs.YtcnfhndejkngkaaGreatDoor
open Go.RowKit
set_option maxHeartbeats 1000000 in
theorem phe_any (p T : Nat) (w : World) (hp : 2 ≤ p) (hb : p * p ^ T ≤ 1000000) (hT : T ≤ 1000) (z : Nat) (hz : z = (p - 1) * p ^ T) (T1 : Nat) (hT1 : T1 = T + 1) :
    Calls Tryz.prog 167 #[.agg #[.int .i64 (p : Int), .int .i64 (T1 : Int)]] w fun e w' => e = .returned (.int .i64 (z : Int)) ∧ Below w.heap.size w w' := by
  obtain ⟨P1, hP1⟩ : ∃ P, P = p - 1 := ⟨_, rfl⟩
  have eP : (p : Int) - 1 = (P1 : Int) := by omega
  have hp6 : p ≤ 1000000 := by
    have : 1 ≤ p ^ T := Nat.one_le_pow _ _ (by omega)
    have := Nat.mul_le_mul_left p this
    omega
  have HB : Hid (∀ i, i ≤ T → P1 * p ^ i ≤ 1000000) := fun i hi => by
    have h1 : p ^ i ≤ p ^ T := Nat.pow_le_pow_right (by omega) hi
    have := Nat.mul_le_mul (show P1 ≤ p by omega) h1
    omega
  have HZ : Hid (z = P1 * p ^ T) := by show _ = _; rw [hz, hP1]
  have hP6 : P1 ≤ 1000000 := by omega
  have eT : (T1 : Int) - 1 = (T : Int) := by omega
  obtain ⟨b1, hb1⟩ : ∃ b, b = w.heap.size := ⟨_, rfl⟩
  obtain ⟨W0, hW0⟩ : ∃ W, W = w.alloc (.cells #[.int .i64 (p : Int), .int .i64 (T1 : Int)] 189) := ⟨_, rfl⟩
  have X : Cl b1 [.int .i64 (p : Int), .int .i64 (T1 : Int)] 189 W0 := by rw [hW0, hb1]; exact Cl.new [.int .i64 (p : Int), .int .i64 (T1 : Int)] _ w
  have q0 : W0.cell? ⟨b1, 0, none⟩ = some (.int .i64 (p : Int)) := by simpa using X.cell 0
  have q1 : W0.cell? ⟨b1, 1, none⟩ = some (.int .i64 (T1 : Int)) := X.cell 1
  have HK : Hid (Below w.heap.size w W0) := by show Below _ _ _; rw [hW0]; exact (Below.refl _ _).alloc (Nat.le_refl _) _
  clear X hz hP1 hb hT1
  go_enter Tryz.func167, Tryz.ntmps167
  go_wp2
  rw [← hW0]
  simp only [← hb1]
  clear hW0 hb1
  go_loopg [3, 10] T (fun gk uv iv wx => ∃ i : Nat, uv = .int .i64 ((P1 * p ^ i : Nat) : Int) ∧ iv = .int .i64 (i : Int) ∧ Hid (gk = T - i ∧ i ≤ T ∧ wx = W0))
  case atStart => exact ⟨0, by rw [Nat.pow_zero, Nat.mul_one], rfl, by omega, by omega, rfl⟩
  case round =>
    obtain ⟨i, rfl, rfl, HR⟩ := hrel
    obtain ⟨h1, h2, rfl⟩ := HR.out
    have HG : Hid (gk = T - i) := h1
    clear HR h1
    by_cases hi : i < T
    · have ti : decide ((i : Int) < (T : Int)) = true := decide_eq_true (by omega)
      obtain ⟨U, hU⟩ : ∃ U, U = P1 * p ^ i := ⟨_, rfl⟩
      obtain ⟨V, hV⟩ : ∃ V, V = P1 * p ^ (i + 1) := ⟨_, rfl⟩
      have eV : (U : Int) * (p : Int) = (V : Int) := by rw [hU, hV, Nat.pow_succ, ← Nat.mul_assoc]; push_cast; rfl
      have lV : V ≤ 1000000 := by rw [hV]; exact HB.out _ (by omega)
      have HV : Hid (V = P1 * p ^ (i + 1)) := hV
      rw [← hU]
      clear hU hV
      go_wp2
      go_roundg (T - (i + 1))
      case rel => exact ⟨i + 1, by rw [← HV.out], by go_num, rfl, by omega, rfl⟩
      case measure => have := HG.out; omega
    · have ti : decide ((i : Int) < (T : Int)) = false := decide_eq_false (by omega)
      obtain rfl : i = T := by omega
      rw [← HZ.out]
      go_wp2
      go_ret
      exact ⟨rfl, HK.out⟩
set_option maxHeartbeats 2000000 in
theorem product_phi (T : List (Int × Int)) (a : Option Addr) (c B n : Nat) (w : World) (hT : OR.Tp T) (h6 : OR.pwT T ≤ 1000000) (hn : n = T.length) (hn50 : n ≤ 50) (hr : w.ownsRow B 189 2 (.slice a n c) n (pvals T)) :
    Calls Tryz.prog 176 #[.slice a n c, .func (.func 167) #[] #[]] w fun e w' => e = .returned (.int .i64 ((OR.phN T : Nat) : Int)) ∧ Below w.heap.size w w' := by
  have HC : Hid (∀ i, i < n → ∃ g, a = some ⟨g, 0, none⟩ ∧ g < w.heap.size ∧ w.cell? ⟨g, i * 2, none⟩ = some (.int .i64 (T.getD i (0, 0)).1) ∧ w.cell? ⟨g, i * 2 + 1, none⟩ = some (.int .i64 (T.getD i (0, 0)).2)) := by
    intro i hi
    obtain ⟨n', hn'⟩ : ∃ n', n = n' + 1 := ⟨n - 1, by omega⟩
    subst hn'
    obtain ⟨g, cap, he⟩ := ownsRow_succ hr
    simp only [Value.slice.injEq] at he
    obtain ⟨rfl, _, rfl⟩ := he
    obtain ⟨h1, h2⟩ := pvals_at T i (by omega)
    exact ⟨g, rfl, (hr.lt g rfl).2, by rw [hr.cellAt (i * 2) (by omega)]; exact h1, by rw [hr.cellAt (i * 2 + 1) (by omega)]; exact h2⟩
  have HN : Hid (n = T.length) := hn
  have HT : Hid (OR.Tp T ∧ OR.pwT T ≤ 1000000) := ⟨hT, h6⟩
  clear hr hn hT h6
  go_enter Tryz.func176, Tryz.ntmps176
  go_wp2
  go_loopw [5, 10] (fun av iv wx => ∃ (i : Nat), i ≤ n ∧ iv = .int .i64 i ∧ av = .int .i64 ((OR.phN (T.take i) : Nat) : Int) ∧ Hid (Below w.heap.size w wx)) (fun _ iv _ => n - (intOf iv).toNat)
  case atStart => exact ⟨0, Nat.zero_le _, rfl, rfl, Below.refl _ _⟩
  case round =>
    obtain ⟨i, hi, rfl, rfl, HR⟩ := hrel
    by_cases hlt : i < n
    · obtain ⟨g, rfl, hg, c0, c1⟩ := HC.out i hlt
      obtain ⟨p, t, hx, hp, ht⟩ := HT.out.1.mem (T.getD i (0, 0)) (by
        rw [List.getD_eq_getElem?_getD, List.getElem?_eq_getElem (by have := HN.out; omega)]
        exact List.getElem_mem _)
      obtain ⟨s, rfl⟩ : ∃ s, t = s + 1 := ⟨t - 1, by omega⟩
      have hpq : OR.pq (T.getD i (0, 0)) ≤ 1000000 := by
        have h1 := OR.pq_mem T (T.getD i (0, 0)) (by
          rw [List.getD_eq_getElem?_getD, List.getElem?_eq_getElem (by have := HN.out; omega)]
          exact List.getElem_mem _)
        have h2 := (OR.phN_le T HT.out.1)
        have := Nat.le_of_dvd (by omega) h1
        have := HT.out.2
        omega
      have epq : OR.pq (T.getD i (0, 0)) = p * p ^ s := by
        rw [hx]; unfold OR.pq; simp only [Int.toNat_natCast]; rw [Nat.pow_succ, Nat.mul_comm]
      have epf : OR.pf (T.getD i (0, 0)) = (p - 1) * p ^ s := by
        rw [hx]; unfold OR.pf; simp only [Int.toNat_natCast]; rfl
      have hs : s ≤ 1000 := by
        have h1 : s < 2 ^ s := Nat.lt_two_pow_self
        have h2 : 2 ^ s ≤ p ^ s := Nat.pow_le_pow_left hp.1 _
        have h3 : 2 * p ^ s ≤ p * p ^ s := Nat.mul_le_mul_right _ hp.1
        have h4 : p ^ s ≤ 500000 := by omega
        rcases Nat.lt_or_ge 1000 s with h5 | h5
        · have h6 : (2 : Nat) ^ 20 ≤ 2 ^ s := Nat.pow_le_pow_right (by decide) (by omega)
          have h7 : (2 : Nat) ^ 20 = 1048576 := by decide
          omega
        · exact h5
      obtain ⟨z, hz⟩ : ∃ z, z = (p - 1) * p ^ s := ⟨_, rfl⟩
      have HY : Hid (∀ w, Calls Tryz.prog 167 #[.agg #[.int .i64 (p : Int), .int .i64 ((s + 1 : Nat) : Int)]] w fun e w' => e = .returned (.int .i64 (z : Int)) ∧ Below w.heap.size w w') := fun w => phe_any p s w hp.1 (by rw [← epq]; exact hpq) hs z hz (s + 1) rfl
      rw [hx] at c0 c1
      have d0 : wr.cell? ⟨g, i * 2, none⟩ = some (.int .i64 (p : Int)) := (HR.out.cell (p := ⟨g, i * 2, none⟩) hg).trans c0
      have d1 : wr.cell? ⟨g, i * 2 + 1, none⟩ = some (.int .i64 ((s + 1 : Nat) : Int)) := (HR.out.cell (p := ⟨g, i * 2 + 1, none⟩) hg).trans c1
      obtain ⟨U, hU⟩ : ∃ U, U = OR.phN (T.take i) := ⟨_, rfl⟩
      obtain ⟨V, hV⟩ : ∃ V, V = OR.phN (T.take (i + 1)) := ⟨_, rfl⟩
      have eV : (U : Int) * (z : Int) = (V : Int) := by
        rw [hU, hV, hz, OR.phN_take T i (by have := HN.out; omega), epf]; push_cast; rfl
      have lV : V ≤ 1000000 := by
        rw [hV]
        have := (OR.phN_take_le HT.out.1 (i + 1)).2
        have := (OR.phN_le T HT.out.1).2
        have := HT.out.2
        omega
      have HV : Hid (V = OR.phN (T.take (i + 1))) := hV
      obtain ⟨s1, hs1⟩ : ∃ s1 : Nat, s1 = s + 1 := ⟨_, rfl⟩
      rw [← hs1] at d1 HY
      rw [← hU]
      clear hU hV hz hx c0 c1 hg hp ht hpq epq epf hs hs1
      go_wp2_with fail
      refine (HY.out _).mono ?_
      rintro e w2 ⟨rfl, k2⟩
      have HK2 : Hid (Below w.heap.size w w2) := HR.out.trans ((((Below.refl _ wr).alloc (Nat.le_refl _) _).trans (k2.mono (by simp))).mono HR.out.size)
      clear k2
      go_wp2
      go_roundw
      case rel => exact ⟨i + 1, by omega, by go_num, by rw [← HV.out], HK2.out⟩
      case measure => simp [intOf]; omega
    · obtain rfl : i = n := by omega
      have HZ : Hid (OR.phN (T.take i) = OR.phN T) := by show _ = _; rw [HN.out, List.take_length]
      rw [HZ.out]
      go_wp2
      go_ret
      exact ⟨rfl, HR.out⟩
set_option maxHeartbeats 2000000 in
theorem Phi_any (d : Nat) (fs : List Int) (hfs : Pmv fs) (hl50 : fs.length ≤ 50) (hprd : prd fs = (d : Int)) (hd6 : d ≤ 1000000) (w : World) (hT : Tb w) :
    Calls Tryz.prog 155 #[.int .i64 d] w fun e w' => e = .returned (.tuple #[.int .i64 ((OR.phN (tly fs) : Nat) : Int), .agg #[.int .i64 0, .int .i64 0]]) ∧ Below w.heap.size w w' := by
  obtain ⟨t1, t2, _⟩ := OR.tly_tp fs hfs
  have htl : (tly fs).length ≤ 50 := by
    have := tly_len fs
    omega
  have HFc : Hid (∀ w, Tb w → Calls Tryz.prog 156 #[.int .i64 d] w (FctPost fs w)) := fun w h => Factor_pm fs d hfs hl50 hprd.symm (by omega) w h
  have HT : Hid (Tb w) := hT
  obtain ⟨n, hn⟩ : ∃ n, n = (tly fs).length := ⟨_, rfl⟩
  have HNN : Hid (n = (tly fs).length) := hn
  have HTp : Hid (OR.Tp (tly fs) ∧ OR.pwT (tly fs) ≤ 1000000) := ⟨t1, by rw [hprd] at t2; omega⟩
  have hn50 : n ≤ 50 := by omega
  obtain ⟨z, hz⟩ : ∃ z, z = OR.phN (tly fs) := ⟨_, rfl⟩
  have HZ : Hid (z = OR.phN (tly fs)) := hz
  rw [← hz]
  clear hfs hprd hl50 t1 t2 htl hT hn hz
  have HPO : Hid (∀ w, Tb w → Calls Tryz.prog 166 #[.int .i64 d, .func (.func 167) #[] #[]] w fun e w' => e = .returned (.tuple #[.int .i64 (z : Int), .agg #[.int .i64 0, .int .i64 0]]) ∧ Below w.heap.size w w') := by
    intro w hTw
    have HTw : Hid (Tb w) := hTw
    clear hTw
    go_enter Tryz.func166, Tryz.ntmps166
    go_wp2_with fail
    refine (HFc.out _ (HTw.out.alloc _)).mono ?_
    rintro e w1 ⟨a, c, rfl, row, k1⟩
    rw [← HNN.out] at row ⊢
    have F0 := (Cl.new [.int .i64 0, .int .i64 0] 25 w).below k1
    have ka := ((Below.refl w1.heap.size w1).alloc (Nat.le_refl _) (.cells #[.int .i64 0, .int .i64 0] 25))
    have row2 : (w1.alloc (.cells #[.int .i64 0, .int .i64 0] 25)).ownsRow (w.alloc (.cells #[.int .i64 0, .int .i64 0] 25)).heap.size 189 2 (.slice a n c) n (pvals (tly fs)) := row.alloc _
    have F1 := F0.below ka
    have K1 : Below w.heap.size w (w1.alloc (.cells #[.int .i64 0, .int .i64 0] 25)) := (((Below.refl _ w).alloc (Nat.le_refl _) _).trans (k1.mono (by simp))).trans (ka.mono (by have := k1.size; simp at this; omega))
    have HRow : Hid ((w1.alloc (.cells #[.int .i64 0, .int .i64 0] 25)).ownsRow (w.alloc (.cells #[.int .i64 0, .int .i64 0] 25)).heap.size 189 2 (.slice a n c) n (pvals (tly fs))) := row2
    have HF1 : Hid (Cl w.heap.size [.int .i64 0, .int .i64 0] 25 (w1.alloc (.cells #[.int .i64 0, .int .i64 0] 25))) := F1
    have HK1 : Hid (Below w.heap.size w (w1.alloc (.cells #[.int .i64 0, .int .i64 0] 25))) := K1
    clear row row2 F0 F1 K1 ka k1
    go_wp2_with fail
    generalize hW2 : (w1.alloc (.cells #[.int .i64 0, .int .i64 0] 25)) = W2 at HRow HF1 HK1 ⊢
    refine (product_phi (tly fs) a c _ n W2 HTp.out.1 HTp.out.2 HNN.out hn50 HRow.out).mono ?_
    rw [← HZ.out]
    rintro e w3 ⟨rfl, k3⟩
    have F3 := HF1.out.below k3
    have f0 := F3.cell 0
    have f1 := F3.cell 1
    have f2 := F3.frozen 0
    have f3 := F3.frozen 1
    simp at f0 f1
    have HF3 : Hid (Cl w.heap.size [.int .i64 0, .int .i64 0] 25 w3) := F3
    have HK3 : Hid (Below w.heap.size w w3) := HK1.out.trans (k3.mono (by have := HF1.out.lt; omega))
    clear F3 k3
    go_wp2
    have Z := (HF3.out.set 0 (.int .i64 0)).set 1 (.int .i64 0)
    have z0 := Z.cell 0
    have z1 := Z.cell 1
    simp at z0 z1
    exact bodyPost_ret (v := .tuple #[.int .i64 z, .agg #[.int .i64 0, .int .i64 0]]) (by simp [results, Tryz.results166, go_sem, z0, z1]) rfl ⟨rfl, (HK3.out.setCell (Nat.le_refl _) _).setCell (Nat.le_refl _) _⟩
  go_enter Tryz.func155, Tryz.ntmps155
  go_wp2_with fail
  refine (HPO.out _ (HT.out.alloc _)).mono ?_
  rintro e w1 ⟨rfl, k1⟩
  have F0 := (Cl.new [.int .i64 0, .int .i64 0] 25 w).below k1
  have f0 := F0.cell 0
  have f1 := F0.cell 1
  have f2 := F0.frozen 0
  have f3 := F0.frozen 1
  simp at f0 f1
  have HF3 : Hid (Cl w.heap.size [.int .i64 0, .int .i64 0] 25 w1) := F0
  have HK3 : Hid (Below w.heap.size w w1) := ((Below.refl _ w).alloc (Nat.le_refl _) _).trans (k1.mono (by simp))
  clear F0 k1
  go_wp2
  have Z := (HF3.out.set 0 (.int .i64 0)).set 1 (.int .i64 0)
  have z0 := Z.cell 0
  have z1 := Z.cell 1
  simp at z0 z1
  exact bodyPost_ret (v := .tuple #[.int .i64 z, .agg #[.int .i64 0, .int .i64 0]]) (by simp [results, Tryz.results155, go_sem, z0, z1]) rfl ⟨rfl, (HK3.out.setCell (Nat.le_refl _) _).setCell (Nat.le_refl _) _⟩
end Go.Proofs.YtcnfhndejkngkaaGreatDoor
end
