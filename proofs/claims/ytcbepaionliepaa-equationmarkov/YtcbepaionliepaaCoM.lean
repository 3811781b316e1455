/- Plain facts: sums of coins. -/
import Derived.Test.YtcbepaionliepaaRows
set_option linter.unusedSimpArgs false
set_option linter.unusedVariables false
set_option maxRecDepth 100000
namespace Go.Proofs.Ytcbepaionliepaa
namespace CO

/-- n is a sum of numbers of the list, each as often as one likes. -/
def Sm : List Nat → Nat → Prop
  | [], n => n = 0
  | c :: S, n => ∃ k r, n = k * c + r ∧ Sm S r
theorem Sm.zero (S : List Nat) : Sm S 0 := by
  induction S with
  | nil => rfl
  | cons c S ih => exact ⟨0, 0, by omega, ih⟩
theorem Sm.mul {S : List Nat} {n c : Nat} (h : Sm S n) (hc : c ∈ S) (k : Nat) : Sm S (n + k * c) := by
  induction S generalizing n with
  | nil => cases hc
  | cons a S ih =>
    obtain ⟨x, r, e, hr⟩ := h
    rcases List.mem_cons.1 hc with rfl | hc
    · exact ⟨x + k, r, by rw [Nat.add_mul]; omega, hr⟩
    · exact ⟨x, r + k * c, by omega, ih hr hc⟩
theorem Sm.add {S : List Nat} {n c : Nat} (h : Sm S n) (hc : c ∈ S) : Sm S (n + c) := by
  have := h.mul hc 1; rwa [Nat.one_mul] at this
theorem Sm.step {S : List Nat} {n : Nat} (h : Sm S n) (hn : 0 < n) : ∃ c, c ∈ S ∧ 0 < c ∧ c ≤ n ∧ Sm S (n - c) := by
  induction S generalizing n with
  | nil => have : n = 0 := h; omega
  | cons a S ih =>
    obtain ⟨x, r, e, hr⟩ := h
    by_cases h0 : x * a = 0
    · have hr' : Sm S n := by rw [e, h0, Nat.zero_add]; exact hr
      obtain ⟨c, h1, h2, h3, h4⟩ := ih hr' hn
      exact ⟨c, List.mem_cons_of_mem _ h1, h2, h3, 0, n - c, by omega, h4⟩
    · obtain ⟨y, rfl⟩ : ∃ y, x = y + 1 := by
        rcases x with _ | x
        · simp at h0
        · exact ⟨x, rfl⟩
      have ha : a ≠ 0 := by rintro rfl; simp at h0
      rw [Nat.add_mul, Nat.one_mul] at e
      exact ⟨a, List.mem_cons_self, by omega, by omega, y, r, by omega, hr⟩

/-- The state between two coins: least sums by what they leave, as far as they are known. -/
structure G (m : Nat) (l : List Nat) (k : Nat) (L : Nat → Nat) : Prop where
  z : L 0 = 0
  le : ∀ r, r < m → L r ≤ 1000000000000000000
  so : ∀ r, r < m → L r < 1000000000000000000 → Sm l (L r) ∧ L r % m = r
  cl : ∀ c, c ∈ l.take k → ∀ r, r < m → L ((r + c) % m) ≤ L r + c

def upd (L : Nat → Nat) (i v : Nat) : Nat → Nat := fun j => if j = i then v else L j

theorem G.start (m : Nat) (l : List Nat) : G m l 0 (fun r => if r = 0 then 0 else 1000000000000000000) where
  z := rfl
  le r _ := by show (if r = 0 then 0 else 1000000000000000000) ≤ 1000000000000000000; split <;> omega
  so r hr h := by
    by_cases e : r = 0
    · subst e; exact ⟨Sm.zero l, Nat.zero_mod _⟩
    · rw [if_neg e] at h; omega
  cl c hc := by simp at hc

/-- What is made of the sums ahead by one coin. -/
def J (m c : Nat) (A L : Nat → Nat) : Prop := ∀ r, r < m → L r ≤ A r ∧ ∃ q j, q < m ∧ (q + j * c) % m = r ∧ L r = A q + j * c
theorem J.refl (m c : Nat) (A : Nat → Nat) : J m c A A := fun r hr => ⟨Nat.le_refl _, r, 0, hr, by simp [Nat.mod_eq_of_lt hr], by omega⟩
theorem J.step {m c : Nat} {A L : Nat → Nat} (h : J m c A L) (hm : 0 < m) {r : Nat} (hr : r < m) : J m c A (upd L ((r + c) % m) (min (L ((r + c) % m)) (L r + c))) := fun i hi => by
  unfold upd
  have hn : (r + c) % m < m := Nat.mod_lt _ hm
  by_cases e : i = (r + c) % m
  · rw [if_pos e]
    obtain ⟨h1, q, j, h2, h3, h4⟩ := h _ hn
    obtain ⟨g1, q', j', g2, g3, g4⟩ := h _ hr
    rw [e]
    refine ⟨by omega, ?_⟩
    by_cases hmin : L ((r + c) % m) ≤ L r + c
    · exact ⟨q, j, h2, h3, by omega⟩
    · refine ⟨q', j' + 1, g2, ?_, by rw [Nat.add_mul]; omega⟩
      rw [Nat.add_mul, Nat.one_mul, ← Nat.add_assoc, ← Nat.mod_add_mod, g3]
  · rw [if_neg e]; exact h i hi
theorem J.le18 {m c : Nat} {A L : Nat → Nat} (h : J m c A L) (hA : ∀ r, r < m → A r ≤ 1000000000000000000) : ∀ r, r < m → L r ≤ 1000000000000000000 := fun r hr => Nat.le_trans (h r hr).1 (hA r hr)

def pos (m c s k : Nat) : Nat := (s + k * c) % m
theorem pos_lt {m c s k : Nat} (hm : 0 < m) : pos m c s k < m := Nat.mod_lt _ hm
theorem pos_next (m c s k : Nat) : (pos m c s k + c) % m = pos m c s (k + 1) := by
  unfold pos; rw [Nat.add_mul, Nat.one_mul, ← Nat.add_assoc, Nat.mod_add_mod]
theorem pos_zero {m c s : Nat} (hs : s < m) : pos m c s 0 = s := by unfold pos; simp [Nat.mod_eq_of_lt hs]

theorem bezN (a b : Nat) : ∃ x y : Int, (a : Int) * x + b * y = (Nat.gcd a b : Nat) := by
  induction a, b using Nat.gcd.induction with
  | H0 n => exact ⟨0, 1, by simp⟩
  | H1 m n hm ih =>
    obtain ⟨x, y, h⟩ := ih
    refine ⟨y - (n / m : Nat) * x, x, ?_⟩
    rw [Nat.gcd_rec, ← h]
    have : (n : Int) = m * (n / m : Nat) + (n % m : Nat) := by exact_mod_cast (Nat.div_add_mod n m).symm
    grind
theorem bezU (c m : Nat) (hm : 0 < m) : ∃ u : Nat, (u * c) % m = Nat.gcd m c % m := by
  obtain ⟨x, y, h⟩ := bezN m c
  have hm' : (m : Int) ≠ 0 := by omega
  refine ⟨(y % m).toNat, ?_⟩
  have h0 : (((y % m).toNat : Nat) : Int) = y % m := Int.toNat_of_nonneg (Int.emod_nonneg _ hm')
  have h1 : ((((y % m).toNat * c) % m : Nat) : Int) = ((Nat.gcd m c % m : Nat) : Int) := by
    rw [Int.natCast_emod, Int.natCast_mul, h0, Int.natCast_emod, ← h, Int.mul_emod, Int.emod_emod, ← Int.mul_emod, Int.add_emod, Int.mul_emod_right, Int.zero_add, Int.emod_emod, Int.mul_comm]
  exact_mod_cast h1
/-- Each number is met on the round of what it leaves. -/
theorem pos_all {m c r : Nat} (hm : 0 < m) (hr : r < m) : ∃ k, pos m c (r % Nat.gcd m c) k = r := by
  obtain ⟨u, hu⟩ := bezU c m hm
  refine ⟨r / Nat.gcd m c * u, ?_⟩
  unfold pos
  have h1 : (r / Nat.gcd m c * u * c) % m = (r / Nat.gcd m c * Nat.gcd m c) % m := by
    rw [Nat.mul_assoc, Nat.mul_mod, hu, ← Nat.mul_mod]
  rw [Nat.add_mod, h1, ← Nat.add_mod, Nat.add_comm, Nat.div_add_mod', Nat.mod_eq_of_lt hr]
theorem pos_gcd {m c s k : Nat} (hs : s < Nat.gcd m c) : pos m c s k % Nat.gcd m c = s := by
  unfold pos
  rw [Nat.mod_mod_of_dvd _ (Nat.gcd_dvd_left m c), Nat.add_mod, Nat.mul_mod, Nat.mod_eq_zero_of_dvd (Nat.gcd_dvd_right m c), Nat.mul_zero, Nat.zero_mod, Nat.add_zero, Nat.mod_mod, Nat.mod_eq_of_lt hs]
theorem pos_per {m c : Nat} (s k : Nat) : pos m c s (k + m / Nat.gcd m c) = pos m c s k := by
  unfold pos
  have h : m / Nat.gcd m c * c = m * (c / Nat.gcd m c) := by
    rw [Nat.div_mul_right_comm (Nat.gcd_dvd_left m c), Nat.mul_div_assoc _ (Nat.gcd_dvd_right m c)]
  rw [Nat.add_mul, h, ← Nat.add_assoc, Nat.add_mul_mod_self_left]
theorem pos_ne {m c s k i : Nat} (hm : 0 < m) (h1 : k < i) (h2 : i < k + m / Nat.gcd m c) : pos m c s k ≠ pos m c s i := by
  unfold pos
  intro h
  have hd : m ∣ (s + i * c) - (s + k * c) := Nat.dvd_of_mod_eq_zero (Nat.sub_mod_eq_zero_of_mod_eq h.symm)
  rw [Nat.add_sub_add_left, ← Nat.sub_mul] at hd
  have g := Nat.gcd_pos_of_pos_left c hm
  have h3 : m / Nat.gcd m c ∣ (i - k) * (c / Nat.gcd m c) := by
    rw [← Nat.mul_div_assoc _ (Nat.gcd_dvd_right m c)]
    exact Nat.div_dvd_div (Nat.gcd_dvd_left m c) hd
  have h4 : m / Nat.gcd m c ∣ i - k := (Nat.coprime_div_gcd_div_gcd g).dvd_of_dvd_mul_right h3
  have := Nat.le_of_dvd (by omega) h4
  omega

theorem canc {m p q x : Nat} (hq : q < m) (hp : p < m) (h : (q + x) % m = (p + x) % m) : q = p := by
  have key : ∀ a b : Nat, a ≤ b → b < m → (a + x) % m = (b + x) % m → a = b := fun a b hab hb e => by
    have d : m ∣ (b + x) - (a + x) := Nat.dvd_of_mod_eq_zero (Nat.sub_mod_eq_zero_of_mod_eq e.symm)
    rw [Nat.add_sub_add_right] at d
    rcases Nat.eq_zero_or_pos (b - a) with h0 | h0
    · omega
    · have := Nat.le_of_dvd h0 d; omega
  rcases Nat.le_total q p with e | e
  · exact key q p e hp h
  · exact (key p q e hq h.symm).symm
/-- A round of the coin is closed. -/
def Cy (m c s : Nat) (L : Nat → Nat) : Prop := ∀ k, L (pos m c s (k + 1)) ≤ L (pos m c s k) + c
/-- While the round of s goes on, i steps done. -/
structure Rn (m c s i : Nat) (A0 L : Nat → Nat) : Prop where
  j : J m c A0 L
  old : ∀ s', s' < s → Cy m c s' L
  win : ∀ k, 1 ≤ k → k < i → i < k + m / Nat.gcd m c → L (pos m c s (k + 1)) ≤ L (pos m c s k) + c
  sec : m / Nat.gcd m c ≤ i → ∃ A, J m c A L ∧ (∀ k, 1 ≤ k → k ≤ m / Nat.gcd m c → A (pos m c s 0) ≤ A (pos m c s k) + (m / Nat.gcd m c - k) * c) ∧ (m / Nat.gcd m c < i → L (pos m c s 1) ≤ A (pos m c s 0) + c)
theorem upd_le {L : Nat → Nat} {i v j : Nat} (h : v ≤ L i) : upd L i v j ≤ L j := by
  unfold upd; split
  · subst_vars; exact h
  · omega
theorem upd_ne {L : Nat → Nat} {i v j : Nat} (h : j ≠ i) : upd L i v j = L j := if_neg h
theorem upd_self {L : Nat → Nat} {i v : Nat} : upd L i v i = v := if_pos rfl

theorem win_chain {m c s : Nat} {L : Nat → Nat} (t : Nat) (h : ∀ k, 1 ≤ k → k < t → L (pos m c s (k + 1)) ≤ L (pos m c s k) + c) (e : Nat) : ∀ k, 1 ≤ k → k + e = t → L (pos m c s t) ≤ L (pos m c s k) + e * c := by
  induction e with
  | zero => intro k _ h2; have : k = t := h2; subst this; omega
  | succ e ih =>
    intro k h1 h2
    have a := ih (k + 1) (by omega) (by omega)
    have b := h k h1 (by omega)
    rw [Nat.add_mul]; omega

theorem Rn.start {m c s : Nat} {A0 L : Nat → Nat} (hm : 0 < m) (j : J m c A0 L) (old : ∀ s', s' < s → Cy m c s' L) : Rn m c s 0 A0 L :=
  ⟨j, old, fun k _ h => by omega, fun h => by
    have := Nat.div_pos (Nat.gcd_le_left c hm) (Nat.gcd_pos_of_pos_left c hm); omega⟩
theorem Rn.step {m c s i : Nat} {A0 L : Nat → Nat} (hm : 0 < m) (hs : s < Nat.gcd m c) (h : Rn m c s i A0 L) : Rn m c s (i + 1) A0 (upd L (pos m c s (i + 1)) (min (L (pos m c s (i + 1))) (L (pos m c s i) + c))) := by
  have tp : 0 < m / Nat.gcd m c := Nat.div_pos (Nat.gcd_le_left c hm) (Nat.gcd_pos_of_pos_left c hm)
  obtain ⟨L', hL'⟩ : ∃ L', L' = upd L (pos m c s (i + 1)) (min (L (pos m c s (i + 1))) (L (pos m c s i) + c)) := ⟨_, rfl⟩
  have hle : ∀ x, L' x ≤ L x := fun x => by rw [hL']; exact upd_le (Nat.min_le_left _ _)
  have hself : L' (pos m c s (i + 1)) ≤ L (pos m c s i) + c := by rw [hL', upd_self]; exact Nat.min_le_right _ _
  have hne : ∀ x, x ≠ pos m c s (i + 1) → L' x = L x := fun x hx => by rw [hL', upd_ne hx]
  have hj : ∀ {A}, J m c A L → J m c A L' := fun a => by
    have := a.step hm (pos_lt (m := m) (c := c) (s := s) (k := i) hm)
    rw [pos_next] at this
    rw [hL']; exact this
  rw [← hL']
  -- the edge that was made
  have hedge : L' (pos m c s (i + 1)) ≤ L' (pos m c s i) + c := by
    by_cases e : pos m c s i = pos m c s (i + 1)
    · rw [← e]; omega
    · rw [hne _ e]; exact hself
  have hwin : ∀ k, 1 ≤ k → k < i + 1 → i + 1 < k + m / Nat.gcd m c → L' (pos m c s (k + 1)) ≤ L' (pos m c s k) + c := fun k k1 k2 k3 => by
    rw [hne (pos m c s k) (pos_ne hm k2 k3)]
    by_cases e : k = i
    · subst e; exact hself
    · exact Nat.le_trans (hle _) (h.win k k1 (by omega) (by omega))
  refine ⟨hj h.j, fun s' hs' k => ?_, hwin, fun ht => ?_⟩
  · have e : ∀ k, pos m c s' k ≠ pos m c s (i + 1) := fun k e => by
      have a := pos_gcd (m := m) (c := c) (k := k) (show s' < Nat.gcd m c by omega)
      have b := pos_gcd (m := m) (c := c) (k := i + 1) hs
      rw [e, b] at a; omega
    rw [hne _ (e _), hne _ (e _)]
    exact h.old s' hs' k
  · by_cases e : m / Nat.gcd m c ≤ i
    · obtain ⟨A, a1, a2, a3⟩ := h.sec e
      refine ⟨A, hj a1, a2, fun _ => ?_⟩
      by_cases e2 : m / Nat.gcd m c < i
      · exact Nat.le_trans (hle _) (a3 e2)
      · have e3 : i = m / Nat.gcd m c := by omega
        have p1 : pos m c s (i + 1) = pos m c s 1 := by rw [e3, Nat.add_comm]; exact pos_per s 1
        have p0 : pos m c s i = pos m c s 0 := by rw [e3]; have := pos_per (m := m) (c := c) s 0; rwa [Nat.zero_add] at this
        rw [p1, p0] at hself
        have := (a1 _ (pos_lt (m := m) (c := c) (s := s) (k := 0) hm)).1
        omega
    · have e3 : i + 1 = m / Nat.gcd m c := by omega
      refine ⟨L', J.refl m c L', fun k k1 k2 => ?_, fun h => by omega⟩
      have p0 : pos m c s (i + 1) = pos m c s 0 := by rw [e3]; have := pos_per (m := m) (c := c) s 0; rwa [Nat.zero_add] at this
      have := win_chain (L := L') (m := m) (c := c) (s := s) (i + 1) (fun k k1 k2 => by
        by_cases ek : k = i
        · subst ek; exact hedge
        · exact hwin k k1 (by omega) (by omega)) (m / Nat.gcd m c - k) k k1 (by omega)
      rw [p0] at this
      exact this
theorem pos_mul {m c : Nat} (s k n : Nat) : pos m c s (k + n * (m / Nat.gcd m c)) = pos m c s k := by
  induction n with
  | zero => simp
  | succ n ih => rw [Nat.add_mul, Nat.one_mul, ← Nat.add_assoc, pos_per, ih]
/-- Two times round are enough. -/
theorem Rn.close {m c s : Nat} {A0 L : Nat → Nat} (hm : 0 < m) (hs : s < Nat.gcd m c) (h : Rn m c s (2 * (m / Nat.gcd m c)) A0 L) : J m c A0 L ∧ ∀ s', s' < s + 1 → Cy m c s' L := by
  obtain ⟨t, ht⟩ : ∃ t, t = m / Nat.gcd m c := ⟨_, rfl⟩
  have tp : 0 < t := by rw [ht]; exact Nat.div_pos (Nat.gcd_le_left c hm) (Nat.gcd_pos_of_pos_left c hm)
  refine ⟨h.j, fun s' hs' => ?_⟩
  by_cases e : s' < s
  · exact h.old s' e
  obtain rfl : s' = s := by omega
  have win := h.win
  have sec := h.sec
  rw [← ht] at win sec
  obtain ⟨A, a1, a2, a3⟩ := sec (by omega)
  have per0 : ∀ k, pos m c s' (k + t) = pos m c s' k := fun k => by rw [ht]; exact pos_per s' k
  have permul : ∀ k n, pos m c s' (k + n * t) = pos m c s' k := fun k n => by rw [ht]; exact pos_mul s' k n
  have hge : A (pos m c s' 0) ≤ L (pos m c s' 0) := by
    obtain ⟨_, q, j, q1, q2, q3⟩ := a1 _ (pos_lt (m := m) (c := c) (s := s') (k := 0) hm)
    -- q is met at k, t - k the rest of j
    have hk : q = pos m c s' (t - j % t) := by
      have f1 : (q + j * c) % m = (pos m c s' (t - j % t) + j * c) % m := by
        rw [q2]
        have : (pos m c s' (t - j % t) + j * c) % m = pos m c s' (t - j % t + j) := by
          unfold pos; rw [Nat.mod_add_mod, Nat.add_assoc, ← Nat.add_mul]
        rw [this]
        have e1 : t - j % t + j = 0 + (j / t + 1) * t := by
          have := Nat.mod_lt j tp
          have := Nat.div_add_mod' j t
          rw [Nat.add_mul]; omega
        rw [e1, permul]
      exact canc q1 (pos_lt hm) f1
    rw [q3, hk]
    have jt := Nat.mod_lt j tp
    have b := a2 (t - j % t) (by omega) (by omega)
    have b2 : (t - (t - j % t)) * c ≤ j * c := Nat.mul_le_mul_right c (by have := Nat.mod_le j t; omega)
    omega
  intro k
  have hkt := Nat.mod_lt k tp
  have e1 : pos m c s' (k + 1) = pos m c s' (k % t + 1) := by
    have := permul (k % t + 1) (k / t)
    have e := Nat.div_add_mod' k t
    rw [← this]; congr 1; omega
  have e0 : pos m c s' k = pos m c s' (k % t) := by
    have := permul (k % t) (k / t)
    have e := Nat.div_add_mod' k t
    rw [← this]; congr 1; omega
  rw [e1, e0]
  by_cases h0 : k % t = 0
  · rw [h0]
    have := a3 (by omega)
    show L (pos m c s' 1) ≤ _
    omega
  · have := win (k % t + t) (by omega) (by omega) (by omega)
    rw [per0] at this
    rw [show k % t + t + 1 = k % t + 1 + t by omega, per0] at this
    exact this
theorem cl_mul {m c : Nat} {L : Nat → Nat} (hm : 0 < m) (h : ∀ r, r < m → L ((r + c) % m) ≤ L r + c) (x j : Nat) (hx : x < m) : L ((x + j * c) % m) ≤ L x + j * c := by
  induction j with
  | zero => simp [Nat.mod_eq_of_lt hx]
  | succ j ih =>
    have a := h _ (Nat.mod_lt (x + j * c) hm)
    rw [Nat.mod_add_mod] at a
    rw [Nat.add_mul, Nat.one_mul, ← Nat.add_assoc]
    omega
/-- One coin more. -/
theorem G.next {m k : Nat} {l : List Nat} {A L : Nat → Nat} (hm : 0 < m) (h : G m l k A) (hk : k < l.length) (hj : J m l[k] A L) (hc : ∀ s, s < Nat.gcd m l[k] → Cy m l[k] s L) : G m l (k + 1) L := by
  obtain ⟨c, ec⟩ : ∃ c, c = l[k] := ⟨_, rfl⟩
  have hcl : c ∈ l := by rw [ec]; exact List.getElem_mem hk
  rw [← ec] at hj hc
  have cl : ∀ r, r < m → L ((r + c) % m) ≤ L r + c := fun r hr => by
    obtain ⟨i, hi⟩ := pos_all (c := c) hm hr
    have := hc _ (Nat.mod_lt r (Nat.gcd_pos_of_pos_left c hm)) i
    rw [← pos_next, hi] at this
    exact this
  refine ⟨?_, hj.le18 h.le, fun r hr hlt => ?_, fun c' hc' r hr => ?_⟩
  · have := (hj 0 hm).1; rw [h.z] at this; omega
  · obtain ⟨_, q, j, q1, q2, q3⟩ := hj r hr
    obtain ⟨a, b⟩ := h.so q q1 (by omega)
    rw [q3]
    refine ⟨a.mul hcl j, ?_⟩
    rw [Nat.add_mod, b, Nat.add_mod_mod]; exact q2
  · rw [List.take_succ_eq_append_getElem hk, List.mem_append, ← ec] at hc'
    rcases hc' with hc' | hc'
    · obtain ⟨_, q, j, q1, q2, q3⟩ := hj r hr
      have a := cl_mul hm cl ((q + c') % m) j (Nat.mod_lt _ hm)
      have b := (hj _ (Nat.mod_lt (q + c') hm)).1
      have d := h.cl c' hc' q q1
      have e : (r + c') % m = ((q + c') % m + j * c) % m := by
        rw [← q2, Nat.mod_add_mod, Nat.mod_add_mod]; congr 1; omega
      rw [e]; omega
    · obtain rfl : c' = c := by simpa using hc'
      exact cl r hr

/-- What the finished list tells: which numbers are sums. -/
theorem G.low {m : Nat} {l : List Nat} {L : Nat → Nat} (hm : 0 < m) (h : G m l l.length L) : ∀ n, Sm l n → L (n % m) ≤ n := by
  intro n
  induction n using Nat.strongRecOn with
  | ind n ih =>
    intro hs
    by_cases h0 : n = 0
    · subst h0; rw [Nat.zero_mod, h.z]; omega
    · obtain ⟨c, c1, c2, c3, c4⟩ := hs.step (by omega)
      have a := ih (n - c) (by omega) c4
      have b := h.cl c (by rw [List.take_length]; exact c1) _ (Nat.mod_lt (n - c) hm)
      rw [Nat.mod_add_mod, show n - c + c = n by omega] at b
      omega
theorem G.sum {m : Nat} {l : List Nat} {L : Nat → Nat} (hm : 0 < m) (hml : m ∈ l) (h : G m l l.length L) {n : Nat} (hn : n < 1000000000000000000) : Sm l n ↔ L (n % m) ≤ n := by
  refine ⟨h.low hm n, fun hle => ?_⟩
  obtain ⟨a, b⟩ := h.so _ (Nat.mod_lt n hm) (by omega)
  have := a.mul hml ((n - L (n % m)) / m)
  have e : L (n % m) + (n - L (n % m)) / m * m = n := by
    have d : m ∣ n - L (n % m) := Nat.dvd_of_mod_eq_zero (Nat.sub_mod_eq_zero_of_mod_eq b.symm)
    rw [Nat.div_mul_cancel d]; omega
  rwa [e] at this

/-- The greatest common divisor of a list. -/
def gl : List Nat → Nat
  | [] => 0
  | c :: l => Nat.gcd c (gl l)
theorem gl_dvd {l : List Nat} {c : Nat} (h : c ∈ l) : gl l ∣ c := by
  induction l with
  | nil => cases h
  | cons a l ih =>
    rcases List.mem_cons.1 h with rfl | h
    · exact Nat.gcd_dvd_left _ _
    · exact Nat.dvd_trans (Nat.gcd_dvd_right _ _) (ih h)
/-- A set of numbers by m that is closed under the coins is closed under their divisor. -/
theorem closed_gl {m : Nat} (hm : 0 < m) {P : Nat → Prop} : ∀ l : List Nat, (∀ c, c ∈ l → ∀ r, r < m → P r → P ((r + c) % m)) → ∀ r, r < m → P r → P ((r + gl l) % m)
  | [], _, r, hr, h => by rw [gl, Nat.add_zero, Nat.mod_eq_of_lt hr]; exact h
  | c :: l, hc, r, hr, h => by
    have ih := closed_gl hm l (fun c' h' => hc c' (List.mem_cons_of_mem _ h'))
    have hcc := hc c List.mem_cons_self
    have rep : ∀ a : Nat, (∀ r, r < m → P r → P ((r + a) % m)) → ∀ k r, r < m → P r → P ((r + k * a) % m) := fun a ha k => by
      induction k with
      | zero => intro r hr h; rw [Nat.zero_mul, Nat.add_zero, Nat.mod_eq_of_lt hr]; exact h
      | succ k ihk =>
        intro r hr h
        have := ha _ (Nat.mod_lt _ hm) (ihk r hr h)
        rw [Nat.mod_add_mod] at this
        rw [Nat.add_mul, Nat.one_mul, ← Nat.add_assoc]; exact this
    obtain ⟨x, y, e⟩ := bezN c (gl l)
    have hm' : (m : Int) ≠ 0 := by omega
    have hx : (((x % m).toNat : Nat) : Int) = x % m := Int.toNat_of_nonneg (Int.emod_nonneg _ hm')
    have hy : (((y % m).toNat : Nat) : Int) = y % m := Int.toNat_of_nonneg (Int.emod_nonneg _ hm')
    have a1 := rep c hcc (x % m).toNat r hr h
    have a2 := rep (gl l) ih (y % m).toNat _ (Nat.mod_lt _ hm) a1
    rw [Nat.mod_add_mod] at a2
    have e2 : (r + (x % m).toNat * c + (y % m).toNat * gl l) % m = (r + gl (c :: l)) % m := by
      have : (((r + (x % m).toNat * c + (y % m).toNat * gl l) % m : Nat) : Int) = ((r + gl (c :: l)) % m : Nat) := by
        rw [gl]
        push_cast
        rw [hx, hy, ← e]
        have f1 : (r + x % m * c + y % m * gl l : Int) = r + (c * x + gl l * y) + m * (-(x / m) * c - (y / m) * gl l) := by
          have := Int.mul_ediv_add_emod x m
          have := Int.mul_ediv_add_emod y m
          grind
        rw [f1, Int.add_mul_emod_self_left]
      exact_mod_cast this
    rw [e2] at a2
    exact a2

/-- How many below n there are. -/
def cn (p : Nat → Bool) : Nat → Nat
  | 0 => 0
  | n + 1 => cn p n + (if p n = true then 1 else 0)
theorem cn_le (p : Nat → Bool) (n : Nat) : cn p n ≤ n := by
  induction n with
  | zero => exact Nat.le_refl _
  | succ n ih => rw [cn]; split <;> omega
theorem cn_full {p : Nat → Bool} {n : Nat} (h : cn p n = n) : ∀ r, r < n → p r = true := by
  induction n with
  | zero => intro r hr; omega
  | succ n ih =>
    intro r hr
    rw [cn] at h
    have := cn_le p n
    split at h
    · by_cases e : r = n
      · subst e; assumption
      · exact ih (by omega) r (by omega)
    · omega
theorem cn_mono {p q : Nat → Bool} {n : Nat} (h : ∀ r, r < n → p r = true → q r = true) : cn p n ≤ cn q n := by
  induction n with
  | zero => exact Nat.le_refl _
  | succ n ih =>
    have a := ih (fun r hr => h r (by omega))
    have b := h n (by omega)
    rw [cn, cn]
    by_cases e : p n = true
    · rw [if_pos e, if_pos (b e)]; omega
    · rw [if_neg e]; split <;> omega
theorem cn_more {p q : Nat → Bool} {n : Nat} (h : ∀ r, r < n → p r = true → q r = true) {x : Nat} (hx : x < n) (h1 : p x = false) (h2 : q x = true) : cn p n + 1 ≤ cn q n := by
  induction n with
  | zero => omega
  | succ n ih =>
    rw [cn, cn]
    by_cases e : x = n
    · subst e
      rw [if_neg (by simp [h1]), if_pos h2]
      have := cn_mono (n := x) (fun r hr => h r (by omega)); omega
    · have a := ih (fun r hr => h r (by omega)) (by omega)
      have b := h n (by omega)
      by_cases e : p n = true
      · rw [if_pos e, if_pos (b e)]; omega
      · rw [if_neg e]; split <;> omega
theorem cn_congr {p q : Nat → Bool} {n : Nat} (h : ∀ r, r < n → p r = q r) : cn p n = cn q n := by
  induction n with
  | zero => rfl
  | succ n ih => rw [cn, cn, ih (fun r hr => h r (by omega)), h n (by omega)]
/-- Nothing more comes. -/
theorem cn_end {p : Nat → Bool} {N e : Nat} (h : ∀ r, N ≤ r → r < N + e → p r = false) : cn p (N + e) = cn p N := by
  induction e with
  | zero => rfl
  | succ e ih =>
    rw [← Nat.add_assoc, cn, if_neg (by simp [h (N + e) (by omega) (by omega)]), Nat.add_zero]
    exact ih (fun r h1 h2 => h r h1 (by omega))
theorem cn_left (p : Nat → Bool) (n : Nat) : cn p (n + 1) = (if p 0 = true then 1 else 0) + cn (fun i => p (i + 1)) n := by
  induction n with
  | zero => simp [cn]
  | succ n ih => rw [cn, ih, cn]; omega
theorem cn_rev (p : Nat → Bool) (n : Nat) : cn (fun i => p (n - 1 - i)) n = cn p n := by
  induction n with
  | zero => rfl
  | succ n ih =>
    rw [cn_left, cn]
    have : cn (fun i => p (n + 1 - 1 - (i + 1))) n = cn (fun i => p (n - 1 - i)) n := cn_congr (fun r hr => by congr 1; omega)
    rw [this, ih, show n + 1 - 1 - 0 = n by omega]; omega
theorem cn_not (p : Nat → Bool) (n : Nat) : cn (fun i => !p i) n + cn p n = n := by
  induction n with
  | zero => rfl
  | succ n ih =>
    rw [cn, cn]
    cases p n <;> simp <;> omega
/-- The greatest below n, -1 if there is none. -/
def ls (p : Nat → Bool) : Nat → Int
  | 0 => -1
  | n + 1 => if p n = true then n else ls p n
theorem ls_is {p : Nat → Bool} {N : Nat} {v : Int} (h1 : v = -1 ∨ ∃ n : Nat, v = n ∧ n < N ∧ p n = true) (h2 : ∀ n, n < N → p n = true → (n : Int) ≤ v) : ls p N = v := by
  induction N with
  | zero =>
    rcases h1 with h | ⟨n, _, h, _⟩
    · exact h.symm
    · omega
  | succ N ih =>
    rw [ls]
    by_cases e : p N = true
    · rw [if_pos e]
      have a := h2 N (by omega) e
      rcases h1 with h | ⟨n, h, h3, _⟩ <;> omega
    · rw [if_neg e]
      refine ih ?_ (fun n hn => h2 n (by omega))
      rcases h1 with h | ⟨n, h, h3, h4⟩
      · exact .inl h
      · refine .inr ⟨n, h, ?_, h4⟩
        rcases Nat.lt_or_ge n N with g | g
        · exact g
        · have : n = N := by omega
          subst this; exact absurd h4 e

/-- A sum's end: with no divisor, all are met soon (Brauer). -/
theorem G.soon {m hi : Nat} {l : List Nat} {L : Nat → Nat} (hm : 0 < m) (h : G m l l.length L) (hg : gl l = 1) (hh : ∀ c, c ∈ l → c ≤ hi) : ∀ r, r < m → L r ≤ (m - 1) * hi := by
  have key : ∀ k, k < m → k + 1 ≤ cn (fun r => decide (L r ≤ k * hi)) m := by
    intro k
    induction k with
    | zero =>
      intro _
      have := cn_more (p := fun _ => false) (q := fun r => decide (L r ≤ 0 * hi)) (n := m) (fun r _ h => by simp at h) hm rfl (by simp [h.z])
      omega
    | succ k ih =>
      intro hk
      have a := ih (by omega)
      have hmono : ∀ r, r < m → decide (L r ≤ k * hi) = true → decide (L r ≤ (k + 1) * hi) = true := fun r hr h => by
        rw [decide_eq_true_eq] at *
        rw [Nat.add_mul]; omega
      by_cases hall : ∃ r c, r < m ∧ c ∈ l ∧ L r ≤ k * hi ∧ ¬ L ((r + c) % m) ≤ k * hi
      · obtain ⟨r, c, h1, h2, h3, h4⟩ := hall
        have b := h.cl c (by rw [List.take_length]; exact h2) r h1
        have d := hh c h2
        have := cn_more hmono (Nat.mod_lt (r + c) hm) (decide_eq_false h4) (decide_eq_true (by rw [Nat.add_mul]; omega))
        omega
      · have cls := closed_gl hm (P := fun r => L r ≤ k * hi) l (fun c hc r hr hp => by
          rcases Nat.lt_or_ge (k * hi) (L ((r + c) % m)) with g | g
          · exact absurd ⟨r, c, hr, hc, hp, by omega⟩ hall
          · exact g)
        have all : ∀ r, r < m → L r ≤ k * hi := fun r => by
          induction r with
          | zero => intro _; rw [h.z]; omega
          | succ r ihr =>
            intro hr
            have := cls r (by omega) (ihr (by omega))
            rw [hg, Nat.mod_eq_of_lt hr] at this
            exact this
        have full : cn (fun r => decide (L r ≤ (k + 1) * hi)) m = m := by
          have h1 : cn (fun _ => true) m = m := by
            have : ∀ n, cn (fun _ => true) n = n := fun n => by
              induction n with
              | zero => rfl
              | succ n ih => rw [cn, ih]; rfl
            exact this m
          rw [← h1]
          have := cn_congr (p := fun r => decide (L r ≤ (k + 1) * hi)) (q := fun _ => true) (n := m) (fun r hr => decide_eq_true (by have := all r hr; rw [Nat.add_mul]; omega))
          rw [h1]
          exact this.trans h1
        rw [full]; omega
  intro r hr
  have a := key (m - 1) (by omega)
  have b := cn_le (fun r => decide (L r ≤ (m - 1) * hi)) m
  have := cn_full (p := fun r => decide (L r ≤ (m - 1) * hi)) (n := m) (by omega) r hr
  exact of_decide_eq_true this

def su (f : Nat → Nat) : Nat → Nat
  | 0 => 0
  | n + 1 => su f n + f n
theorem su_congr {f g : Nat → Nat} {n : Nat} (h : ∀ r, r < n → f r = g r) : su f n = su g n := by
  induction n with
  | zero => rfl
  | succ n ih => rw [su, su, ih (fun r hr => h r (by omega)), h n (by omega)]
/-- Is n no sum? -/
def gap (m : Nat) (L : Nat → Nat) (n : Nat) : Bool := decide (n < L (n % m))
theorem cn_su {m : Nat} {L : Nat → Nat} (hL : ∀ r, r < m → L r % m = r) (Q : Nat) : ∀ i, i ≤ m → cn (gap m L) (m * Q + i) = su (fun r => min Q (L r / m)) m + cn (fun r => decide (Q < L r / m)) i := by
  have inner : ∀ Q X : Nat, cn (gap m L) (m * Q) = X → ∀ i, i ≤ m → cn (gap m L) (m * Q + i) = X + cn (fun r => decide (Q < L r / m)) i := fun Q X h0 i => by
    induction i with
    | zero => intro _; rw [cn]; exact h0
    | succ i ih =>
      intro hi
      rw [← Nat.add_assoc, cn, cn, ih (by omega), Nat.add_assoc]
      congr 2
      have e : gap m L (m * Q + i) = decide (Q < L i / m) := by
        unfold gap
        rw [Nat.mul_add_mod, Nat.mod_eq_of_lt (by omega)]
        rw [decide_eq_decide]
        have h1 := Nat.div_add_mod (L i) m
        rw [hL i (by omega)] at h1
        constructor
        · intro h
          rcases Nat.lt_or_ge Q (L i / m) with g | g
          · exact g
          · have := Nat.mul_le_mul_left m g; omega
        · intro h
          have := Nat.mul_le_mul_left m (show Q + 1 ≤ L i / m from h)
          rw [Nat.mul_add] at this; omega
      rw [e]
  induction Q with
  | zero =>
    refine inner 0 _ ?_
    have : ∀ n, su (fun r => min 0 (L r / m)) n = 0 := fun n => by
      induction n with
      | zero => rfl
      | succ n ih => rw [su, ih]; simp
    rw [this]; rfl
  | succ Q ih =>
    refine inner (Q + 1) _ ?_
    rw [Nat.mul_add, Nat.mul_one, ih m (Nat.le_refl _)]
    have : ∀ n, su (fun r => min Q (L r / m)) n + cn (fun r => decide (Q < L r / m)) n = su (fun r => min (Q + 1) (L r / m)) n := fun n => by
      induction n with
      | zero => rfl
      | succ n ih =>
        rw [su, cn, su, ← ih]
        by_cases h : Q < L n / m
        · rw [if_pos (decide_eq_true h)]; omega
        · rw [if_neg (by simp; omega)]; omega
    exact this m

/-- A finished list. -/
structure Fi (m hi : Nat) (L : Nat → Nat) : Prop where
  m0 : 0 < m
  mh : m ≤ hi
  z : L 0 = 0
  le : ∀ r, r < m → L r ≤ (m - 1) * hi
  md : ∀ r, r < m → L r % m = r
theorem Fi.no {m hi : Nat} {L : Nat → Nat} (h : Fi m hi L) {n : Nat} (hn : (m - 1) * hi ≤ n) : gap m L n = false := decide_eq_false (by have := h.le (n % m) (Nat.mod_lt _ h.m0); omega)
theorem Fi.many {m hi : Nat} {L : Nat → Nat} (h : Fi m hi L) : su (fun r => L r / m) m = cn (gap m L) (m * hi + 1) := by
  have h1 := cn_su (m := m) h.md hi 0 (Nat.zero_le _)
  have e : (m - 1) * hi ≤ m * hi := Nat.mul_le_mul_right _ (by omega)
  have h2 : cn (gap m L) (m * hi + 1) = cn (gap m L) (m * hi) := cn_end (e := 1) (fun r hr _ => h.no (by omega))
  rw [h2]
  rw [Nat.add_zero, cn, Nat.add_zero] at h1
  rw [h1]
  refine su_congr (fun r hr => ?_)
  have := h.le r hr
  have := Nat.div_le_div_right (c := m) (show L r ≤ m * hi by omega)
  rw [Nat.mul_div_cancel_left _ h.m0] at this
  omega
theorem Fi.last {m hi M : Nat} {L : Nat → Nat} (h : Fi m hi L) (h1 : ∀ r, r < m → L r ≤ M) (h2 : ∃ r, r < m ∧ L r = M) : ls (gap m L) (m * hi + 1) = (M : Int) - m := by
  obtain ⟨r, hr, e⟩ := h2
  have m0 := h.m0
  have em := h.md r hr
  rw [e] at em
  have hb := h.le r hr
  have hb2 : (m - 1) * hi ≤ m * hi := Nat.mul_le_mul_right _ (by omega)
  refine ls_is ?_ (fun n hn hp => ?_)
  · by_cases hlt : M < m
    · left
      have : L (m - 1) % m = m - 1 := h.md (m - 1) (by omega)
      have a := h1 (m - 1) (by omega)
      have : L (m - 1) = m - 1 := by rw [Nat.mod_eq_of_lt (by omega)] at this; exact this
      omega
    · right
      refine ⟨M - m, by omega, by omega, ?_⟩
      unfold gap
      have : (M - m) % m = r := by
        have := Nat.add_mod_right (M - m) m
        rw [show M - m + m = M by omega, em] at this
        omega
      rw [this, e]
      exact decide_eq_true (by omega)
  · have hp := of_decide_eq_true hp
    have a := h1 (n % m) (Nat.mod_lt _ m0)
    have b := h.md (n % m) (Nat.mod_lt _ m0)
    have c : m ∣ L (n % m) - n := Nat.dvd_of_mod_eq_zero (Nat.sub_mod_eq_zero_of_mod_eq b)
    have d := Nat.le_of_dvd (by omega) c
    omega
theorem Fi.step {m hi : Nat} {l : List Nat} {L : Nat → Nat} (hm : 0 < m) (hml : m ∈ l) (h : G m l l.length L) (hg : gl l = 1) (hh : ∀ c, c ∈ l → c ≤ hi) (hhi : hi ≤ 1000) : Fi m hi L := by
  have hs := h.soon hm hg hh
  refine ⟨hm, hh m hml, h.z, hs, fun r hr => (h.so r hr ?_).2⟩
  have a := hs r hr
  have b := hh m hml
  have : (m - 1) * hi ≤ 1000 * 1000 := Nat.mul_le_mul (by omega) hhi
  omega
/-- How one knows a sum by smaller ones. -/
theorem gap_rec {m : Nat} {l : List Nat} {L : Nat → Nat} (hm : 0 < m) (hml : m ∈ l) (h : G m l l.length L) (hp : ∀ c, c ∈ l → 0 < c) {n : Nat} (hn : n < 1000000000000000000) (h0 : 0 < n) : gap m L n = false ↔ ∃ c, c ∈ l ∧ c ≤ n ∧ gap m L (n - c) = false := by
  have key : ∀ n, n < 1000000000000000000 → (gap m L n = false ↔ Sm l n) := fun n hn => by
    rw [h.sum hm hml hn]; unfold gap; rw [decide_eq_false_iff_not]; omega
  rw [key n hn]
  constructor
  · intro hs
    obtain ⟨c, c1, c2, c3, c4⟩ := hs.step h0
    exact ⟨c, c1, c3, (key _ (by omega)).2 c4⟩
  · rintro ⟨c, c1, c3, c4⟩
    have := ((key _ (by omega)).1 c4).add c1
    rwa [show n - c + c = n by omega] at this

/-- Sylvester: two coins. -/
theorem syl {m c hi : Nat} {l : List Nat} {L : Nat → Nat} (hm : 1 < m) (hmc : m ≤ c) (hl : l = [m, c] ∨ l = [c, m]) (hg : Nat.gcd m c = 1) (h : G m l l.length L) (hf : Fi m hi L) (hhi : hi ≤ 1000) :
    (∀ r, r < m → L r ≤ (m - 1) * c) ∧ (∃ r, r < m ∧ L r = (m - 1) * c) ∧ 2 * (cn (gap m L) (m * hi + 1) : Int) = (m : Int) * c - m - c + 1 := by
  have m0 : 0 < m := by omega
  have hcl : ∀ r, r < m → L ((r + c) % m) ≤ L r + c := h.cl c (by rw [List.take_length]; rcases hl with rfl | rfl <;> simp)
  have h18 : ∀ r, r < m → L r < 1000000000000000000 := fun r hr => by
    have a := hf.le r hr
    have b := hf.mh
    have : (m - 1) * hi ≤ 1000 * 1000 := Nat.mul_le_mul (by omega) hhi
    omega
  have val : ∀ k, k < m → L ((k * c) % m) = k * c := fun k hk => by
    have up := cl_mul m0 hcl 0 k m0
    rw [Nat.zero_add, h.z, Nat.zero_add] at up
    have hr := Nat.mod_lt (k * c) m0
    obtain ⟨s1, s2⟩ := h.so _ hr (h18 _ hr)
    obtain ⟨x, y, e⟩ : ∃ x y, L (k * c % m) = x * m + y * c := by
      rcases hl with rfl | rfl
      · obtain ⟨x, r, e1, y, r2, e2, e3⟩ := s1
        have : r2 = 0 := e3
        exact ⟨x, y, by omega⟩
      · obtain ⟨x, r, e1, y, r2, e2, e3⟩ := s1
        have : r2 = 0 := e3
        exact ⟨y, x, by omega⟩
    rw [e] at s2
    rw [Nat.mul_comm x m, Nat.mul_add_mod] at s2
    -- y c and k c leave the same
    have hyk : k ≤ y := by
      rcases Nat.lt_or_ge y k with g | g
      · have d : m ∣ k * c - y * c := Nat.dvd_of_mod_eq_zero (Nat.sub_mod_eq_zero_of_mod_eq s2.symm)
        rw [← Nat.sub_mul] at d
        have d2 : m ∣ k - y := (show Nat.Coprime m c from hg).dvd_of_dvd_mul_right d
        have := Nat.le_of_dvd (by omega) d2
        omega
      · exact g
    have := Nat.mul_le_mul_right c hyk
    omega
  have all : ∀ r, r < m → ∃ k, k < m ∧ (k * c) % m = r := fun r hr => by
    obtain ⟨k, hk⟩ := pos_all (c := c) m0 hr
    rw [hg, Nat.mod_one] at hk
    unfold pos at hk
    rw [Nat.zero_add] at hk
    refine ⟨k % m, Nat.mod_lt _ m0, ?_⟩
    rw [Nat.mod_mul_mod]; exact hk
  have e1 : (m - 1) * c + c = m * c := by
    obtain ⟨n, rfl⟩ : ∃ n, m = n + 1 := ⟨m - 1, by omega⟩
    rw [Nat.add_mul]; simp
  have up : ∀ r, r < m → L r ≤ (m - 1) * c := fun r hr => by
    obtain ⟨k, hk, e⟩ := all r hr
    rw [← e, val k hk]
    exact Nat.mul_le_mul_right c (by omega)
  refine ⟨up, ⟨_, Nat.mod_lt ((m - 1) * c) m0, val (m - 1) (by omega)⟩, ?_⟩
  -- the middle
  have cm : m < c := by
    rcases Nat.lt_or_ge m c with g | g
    · exact g
    · have : m = c := by omega
      subst this; rw [Nat.gcd_self] at hg; omega
  have big : m + c ≤ m * c := by
    obtain ⟨n, rfl⟩ : ∃ n, m = n + 2 := ⟨m - 2, by omega⟩
    rw [Nat.add_mul]; omega
  obtain ⟨a, ha⟩ : ∃ a, a = m * c - m - c := ⟨_, rfl⟩
  have hstop : ∀ n, a + 1 ≤ n → gap m L n = false := fun n hn => by
    rw [← Bool.not_eq_true]
    intro hp
    have hp := of_decide_eq_true hp
    have x := up (n % m) (Nat.mod_lt _ m0)
    have b := hf.md (n % m) (Nat.mod_lt _ m0)
    have d : m ∣ L (n % m) - n := Nat.dvd_of_mod_eq_zero (Nat.sub_mod_eq_zero_of_mod_eq b)
    have := Nat.le_of_dvd (by omega) d
    omega
  have hN : cn (gap m L) (m * hi + 1) = cn (gap m L) (a + 1) := by
    rcases Nat.le_total (a + 1) (m * hi + 1) with g | g
    · obtain ⟨e, he⟩ := Nat.le.dest g
      rw [← he]; exact cn_end (fun r hr _ => hstop r hr)
    · obtain ⟨e, he⟩ := Nat.le.dest g
      rw [← he]
      have e2 : (m - 1) * hi ≤ m * hi := Nat.mul_le_mul_right _ (by omega)
      exact (cn_end (fun r hr _ => hf.no (by omega))).symm
  have pair : ∀ n, n < a + 1 → gap m L (a + 1 - 1 - n) = !gap m L n := fun n hn => by
    obtain ⟨k, hk, e⟩ := all (n % m) (Nat.mod_lt _ m0)
    have v1 := val k hk
    rw [e] at v1
    have v2 := val (m - 1 - k) (by omega)
    have e3 : (a + 1 - 1 - n) % m = (m - 1 - k) * c % m := by
      -- a - n + n + (k + 1) c = m c - m + k c
      have f1 : (a - n + n) % m = ((m - 1 - k) * c + k * c) % m := by
        rw [← Nat.add_mul, show m - 1 - k + k = m - 1 by omega]
        have : a + m = (m - 1) * c := by omega
        rw [← this, show a - n + n = a by omega, Nat.add_mod_right]
      have f2 : ((m - 1 - k) * c + k * c) % m = ((m - 1 - k) * c % m + n) % m := by
        rw [Nat.mod_add_mod, Nat.add_mod, e, Nat.add_mod_mod, Nat.mod_add_mod]
      have f3 : (a - n + n) % m = ((a - n) % m + n) % m := by rw [Nat.mod_add_mod]
      rw [f2, f3] at f1
      exact canc (Nat.mod_lt _ m0) (Nat.mod_lt _ m0) f1
    unfold gap
    rw [e3, v2, v1]
    have hmod : ∃ q, k * c = n + q * m ∨ n = k * c + q * m := by
      rcases Nat.le_total n (k * c) with g | g
      · have d : m ∣ k * c - n := Nat.dvd_of_mod_eq_zero (Nat.sub_mod_eq_zero_of_mod_eq e)
        obtain ⟨q, hq⟩ := d
        exact ⟨q, .inl (by rw [Nat.mul_comm q m]; omega)⟩
      · have d : m ∣ n - k * c := Nat.dvd_of_mod_eq_zero (Nat.sub_mod_eq_zero_of_mod_eq e.symm)
        obtain ⟨q, hq⟩ := d
        exact ⟨q, .inr (by rw [Nat.mul_comm q m]; omega)⟩
    have e4 : (m - 1 - k) * c + k * c = (m - 1) * c := by rw [← Nat.add_mul, show m - 1 - k + k = m - 1 by omega]
    obtain ⟨q, hq | hq⟩ := hmod
    · rcases Nat.eq_zero_or_pos q with h0 | h0
      · subst h0
        rw [decide_eq_true (by omega), decide_eq_false (by omega)]; rfl
      · have : m ≤ q * m := Nat.le_mul_of_pos_left m h0
        rw [decide_eq_false (by omega), decide_eq_true (by omega)]; rfl
    · rw [decide_eq_true (by omega), decide_eq_false (by omega)]; rfl
  have r1 := cn_rev (gap m L) (a + 1)
  have r2 : cn (fun i => gap m L (a + 1 - 1 - i)) (a + 1) = cn (fun i => !gap m L i) (a + 1) := cn_congr pair
  have r3 := cn_not (gap m L) (a + 1)
  rw [hN]
  have : (m : Int) * c = ((m * c : Nat) : Int) := by push_cast; rfl
  rw [this]
  omega
end CO

end Go.Proofs.Ytcbepaionliepaa
