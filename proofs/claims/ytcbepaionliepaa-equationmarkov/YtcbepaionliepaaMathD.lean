/- Plain facts: Knuth's division by words: the guess of a digit, and what is taken away. Nothing of the program's run. -/
import Derived.Test.YtcbepaionliepaaJnB
set_option linter.unusedSimpArgs false
set_option linter.unusedVariables false
set_option maxRecDepth 100000
namespace Go.Proofs.Ytcbepaionliepaa.MathD

/-- A guess q with its rest r; gs is the digit that is sought. -/
structure Kg (u v1 gs q r : Nat) : Prop where
  lin : q * v1 + r = u
  up : gs ≤ q

theorem kg_step {u v1 v0 n gs q r : Nat} (h : Kg u v1 gs q r) (hgs : gs < 4294967296) (hH : gs * (v1 * 4294967296 + v0) ≤ u * 4294967296 + n) (hc : 4294967296 ≤ q ∨ 4294967296 * r + n < q * v0) :
    1 ≤ q ∧ Kg u v1 gs (q - 1) (r + v1) := by
  have hlin := h.lin
  have hlt : gs < q := by
    rcases hc with hc | hc
    · omega
    · rcases Nat.lt_or_ge gs q with c | c
      · exact c
      · have h1 : q * (v1 * 4294967296 + v0) ≤ gs * (v1 * 4294967296 + v0) := Nat.mul_le_mul_right _ c
        have e : q * (v1 * 4294967296 + v0) = q * v1 * 4294967296 + q * v0 := by rw [Nat.mul_add, Nat.mul_assoc]
        rw [e] at h1; omega
  refine ⟨by omega, ?_, by omega⟩
  obtain ⟨k, rfl⟩ : ∃ k, q = k + 1 := ⟨q - 1, by omega⟩
  rw [Nat.add_mul] at hlin
  simp only [Nat.add_sub_cancel]; omega

theorem kg_low {u v1 v0 gs q r : Nat} (h : Kg u v1 gs q r) (hu : u ≤ v1 * 4294967296 + v0) (h0 : v0 < 4294967296) (hr : 4294967296 ≤ r) : q < 4294967296 := by
  have hlin := h.lin
  rcases Nat.lt_or_ge q 4294967296 with c | c
  · exact c
  · have : 4294967296 * v1 ≤ q * v1 := Nat.mul_le_mul_right _ c
    omega

theorem kg_end {u v1 v0 n gs q r : Nat} (h : Kg u v1 gs q r) (hu : u ≤ v1 * 4294967296 + v0) (h0 : v0 < 4294967296) (hc : (q < 4294967296 ∧ q * v0 ≤ 4294967296 * r + n) ∨ 4294967296 ≤ r) :
    gs ≤ q ∧ q < 4294967296 ∧ q * (v1 * 4294967296 + v0) ≤ u * 4294967296 + n := by
  have hlin := h.lin
  have hq : q < 4294967296 := by
    rcases hc with hc | hc
    · exact hc.1
    · exact kg_low h hu h0 hc
  have hc' : q * v0 ≤ 4294967296 * r + n := by
    rcases hc with hc | hc
    · exact hc.2
    · have := Nat.mul_le_mul (show q ≤ 4294967295 by omega) (show v0 ≤ 4294967295 by omega)
      omega
  refine ⟨h.up, hq, ?_⟩
  rw [Nat.mul_add, ← Nat.mul_assoc]; omega

/-- The guess is at most one too great. -/
theorem guess_near {T H p lv lw q V W : Nat} (hV : V = T * p + lv) (hW : W = H * p + lw) (hlv : lv < p) (hT : 4294967296 ≤ T) (hq : q < 4294967296) (h : q * T ≤ H) : q * V < W + V := by
  subst hV hW
  have e1 : q * (T * p + lv) = q * T * p + q * lv := by rw [Nat.mul_add, Nat.mul_assoc]
  have e2 : q * T * p ≤ H * p := Nat.mul_le_mul_right _ h
  have e3 : q * lv ≤ 4294967296 * lv := Nat.mul_le_mul_right _ (by omega)
  have e4 : 4294967296 * p ≤ T * p := Nat.mul_le_mul_right _ hT
  omega

/-- The digit sought fits the first words. -/
theorem digit_fits {T H p lv lw gs V W : Nat} (hV : V = T * p + lv) (hW : W = H * p + lw) (hlw : lw < p) (h : gs * V ≤ W) : gs * T ≤ H := by
  subst hV hW
  have e1 : gs * T * p ≤ gs * (T * p + lv) := by rw [Nat.mul_assoc]; exact Nat.mul_le_mul_left _ (by omega)
  rcases Nat.lt_or_ge H (gs * T) with c | c
  · have : (H + 1) * p ≤ gs * T * p := Nat.mul_le_mul_right _ c
    rw [Nat.add_mul] at this; omega
  · exact c

theorem first_le {T H h u2 p lv lw V W : Nat} (hV : V = T * p + lv) (hW : W = H * p + lw) (hlv : lv < p) (hH : H = h * 4294967296 + u2) (hlt : W < 4294967296 * V) : h ≤ T := by
  subst hV hW hH
  rcases Nat.lt_or_ge T h with c | c
  · have h1 : (T + 1) * 4294967296 ≤ h * 4294967296 := Nat.mul_le_mul_right _ c
    have h2 : (T + 1) * 4294967296 * p ≤ (h * 4294967296 + u2) * p := Nat.mul_le_mul_right p (Nat.le_trans h1 (Nat.le_add_right _ _))
    have h3 : (T + 1) * 4294967296 * p = 4294967296 * (T * p + p) := by rw [Nat.mul_right_comm, Nat.mul_comm _ 4294967296, Nat.add_mul, Nat.one_mul]
    have h4 : 4294967296 * (T * p + lv) ≤ 4294967296 * (T * p + p) := Nat.mul_le_mul_left _ (by omega)
    omega
  · exact c

/-- One round of taking away. -/
theorem take_step (Y : List Nat) (i g c d x vi y d2 S T : Nat) (h : Y.length = i) (hv : val Y + g * T = S + pw i * (c + d)) (hy : y + (c + g * vi) % 4294967296 + d = x + 4294967296 * d2) :
    val (Y ++ [y]) + g * (T + pw i * vi) = (S + pw i * x) + pw (i + 1) * ((c + g * vi) / 4294967296 + d2) := by
  have e1 : val (Y ++ [y]) = val Y + pw i * y := by rw [val_append, h]; simp [val]
  have e2 : pw (i + 1) * ((c + g * vi) / 4294967296 + d2) = pw i * (4294967296 * ((c + g * vi) / 4294967296 + d2)) := by
    show 4294967296 * pw i * _ = _
    rw [Nat.mul_comm 4294967296 (pw i), Nat.mul_assoc]
  have e3 : g * (T + pw i * vi) = g * T + pw i * (g * vi) := by rw [Nat.mul_add, Nat.mul_left_comm]
  have hdm := Nat.div_add_mod (c + g * vi) 4294967296
  have e4 : pw i * (y + g * vi + (c + d)) = pw i * (x + 4294967296 * ((c + g * vi) / 4294967296 + d2)) := by
    congr 1
    omega
  have e5 : pw i * (y + g * vi + (c + d)) = pw i * y + pw i * (g * vi) + pw i * (c + d) := by rw [Nat.mul_add, Nat.mul_add]
  have e6 : pw i * (x + 4294967296 * ((c + g * vi) / 4294967296 + d2)) = pw i * x + pw i * (4294967296 * ((c + g * vi) / 4294967296 + d2)) := Nat.mul_add ..
  rw [e1, e2, e3]
  omega

/-- Nothing is left over above: the guess was right. -/
theorem take_right {X Y : List Nat} {n g c d xn V W gs : Nat} (hv : val Y + g * V = val X + pw n * (c + d)) (hW : W = val X + pw n * xn) (hVn : V < pw n) (hge : c + d ≤ xn) (h1 : gs ≤ g) (h2 : W < (gs + 1) * V) (h3 : gs * V ≤ W) :
    xn = c + d ∧ g = gs ∧ val Y = W - gs * V ∧ val Y < V := by
  have e1 : pw n * xn = pw n * (xn - (c + d)) + pw n * (c + d) := by rw [← Nat.mul_add]; congr 1; omega
  have h4 : W = val Y + g * V + pw n * (xn - (c + d)) := by rw [hW, e1]; omega
  have h5 : (gs + 1) * V = gs * V + V := by rw [Nat.add_mul, Nat.one_mul]
  have h6 : gs * V ≤ g * V := Nat.mul_le_mul_right _ h1
  have h7 : xn - (c + d) = 0 := by
    rcases Nat.eq_zero_or_pos (xn - (c + d)) with k | k
    · exact k
    · have : pw n * 1 ≤ pw n * (xn - (c + d)) := Nat.mul_le_mul_left _ k
      omega
  have h8 : g = gs := by
    rcases Nat.lt_or_ge gs g with k | k
    · have : (gs + 1) * V ≤ g * V := Nat.mul_le_mul_right _ k
      omega
    · omega
  subst h8
  rw [h7, Nat.mul_zero] at h4
  exact ⟨by omega, rfl, by omega, by omega⟩

/-- Too much was taken away: the guess was one too great; V is put back once. -/
theorem take_back {X Y Y2 : List Nat} {n g c d xn V W gs k : Nat} (hv : val Y + g * V = val X + pw n * (c + d)) (hW : W = val X + pw n * xn) (hVn : V < pw n) (hlt : xn < c + d) (hY : val Y < pw n) (h1 : gs ≤ g) (hn : g * V < W + V) (h2 : W < (gs + 1) * V) (h3 : gs * V ≤ W)
    (hb : val Y + V = val Y2 + pw n * k) (hY2 : val Y2 < pw n) : g = gs + 1 ∧ xn + k = c + d ∧ val Y2 = W - gs * V ∧ val Y2 < V := by
  have e1 : pw n * (c + d) = pw n * (c + d - xn) + pw n * xn := by rw [← Nat.mul_add]; congr 1; omega
  have h4 : W + pw n * (c + d - xn) = val Y + g * V := by rw [hW]; omega
  have h5 : (gs + 1) * V = gs * V + V := by rw [Nat.add_mul, Nat.one_mul]
  have e2 : pw n * 1 ≤ pw n * (c + d - xn) := Nat.mul_le_mul_left _ (by omega)
  have h6 : g = gs + 1 := by
    rcases Nat.lt_trichotomy g (gs + 1) with q | q | q
    · have : g = gs := by omega
      subst this; omega
    · exact q
    · have : (gs + 2) * V ≤ g * V := Nat.mul_le_mul_right _ q
      have h7 : (gs + 2) * V = gs * V + V + V := by rw [Nat.add_mul, Nat.two_mul]; omega
      omega
  subst h6
  rw [h5] at h4
  have h8 : W + pw n * (c + d - xn) = gs * V + val Y2 + pw n * k := by omega
  have h9 : c + d - xn = k := by
    rcases Nat.lt_trichotomy (c + d - xn) k with q | q | q
    · have e3 : pw n * (c + d - xn + 1) ≤ pw n * k := Nat.mul_le_mul_left _ q
      rw [Nat.mul_add, Nat.mul_one] at e3
      omega
    · exact q
    · have e3 : pw n * (k + 1) ≤ pw n * (c + d - xn) := Nat.mul_le_mul_left _ q
      rw [Nat.mul_add, Nat.mul_one] at e3
      omega
  rw [h9] at h8
  exact ⟨rfl, by omega, by omega, by omega⟩

/-- A place of a row in three parts. -/
theorem set_pos (P Y : List Nat) (x y : Nat) (R : List Nat) (j i : Nat) (hP : P.length = j) (hY : Y.length = i) : (P ++ (Y ++ (x :: R))).set (j + i) y = P ++ ((Y ++ [y]) ++ R) := by
  subst hP hY
  rw [List.set_append_right _ _ (by omega), List.set_append_right _ _ (by omega)]
  simp
theorem getD_pos (P Y : List Nat) (x : Nat) (R : List Nat) (j i : Nat) (hP : P.length = j) (hY : Y.length = i) : (P ++ (Y ++ (x :: R))).getD (j + i) 0 = x := by
  subst hP hY
  rw [List.getD_eq_getElem?_getD, List.getElem?_append_right (by omega), List.getElem?_append_right (by omega)]
  simp

end Go.Proofs.Ytcbepaionliepaa.MathD
