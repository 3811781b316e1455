import Derived.Test.YtmifenflbaohnaaDoorJnF
import Derived.Test.YtmifenflbaohnaaDoorJnI
section
/- Plain facts: Knuth's division by words: the guess of a digit, and what is taken away. Nothing of the program's run. -/
set_option linter.unusedSimpArgs false
set_option linter.unusedVariables false
set_option maxRecDepth 100000
namespace Go.Proofs.YtmifenflbaohnaaDoor.MathD

/-- A guess q with its rest r; gs is the digit that is sought. -/
structure Kg (u v1 gs q r : Nat) : Prop where
  lin : q * v1 + r = u
  up : gs ≤ q

theorem kg_step {u v1 v0 n gs q r : Nat} (h : Kg u v1 gs q r) (hgs : gs < 4294967296) (hH : gs * (v1 * 4294967296 + v0) ≤ u * 4294967296 + n) (hc : 4294967296 ≤ q ∨ 4294967296 * r + n < q * v0) :
    1 ≤ q ∧ Kg u v1 gs (q - 1) (r + v1) := by
  have hlin := h.lin
  have hlt : gs < q := by
    rcases hc with hc | hc
    · omega
    · rcases Nat.lt_or_ge gs q with c | c
      · exact c
      · have h1 : q * (v1 * 4294967296 + v0) ≤ gs * (v1 * 4294967296 + v0) := Nat.mul_le_mul_right _ c
        have e : q * (v1 * 4294967296 + v0) = q * v1 * 4294967296 + q * v0 := by rw [Nat.mul_add, Nat.mul_assoc]
        rw [e] at h1; omega
  refine ⟨by omega, ?_, by omega⟩
  obtain ⟨k, rfl⟩ : ∃ k, q = k + 1 := ⟨q - 1, by omega⟩
  rw [Nat.add_mul] at hlin
  simp only [Nat.add_sub_cancel]; omega

theorem kg_low {u v1 v0 gs q r : Nat} (h : Kg u v1 gs q r) (hu : u ≤ v1 * 4294967296 + v0) (h0 : v0 < 4294967296) (hr : 4294967296 ≤ r) : q < 4294967296 := by
  have hlin := h.lin
  rcases Nat.lt_or_ge q 4294967296 with c | c
  · exact c
  · have : 4294967296 * v1 ≤ q * v1 := Nat.mul_le_mul_right _ c
    omega

theorem kg_end {u v1 v0 n gs q r : Nat} (h : Kg u v1 gs q r) (hu : u ≤ v1 * 4294967296 + v0) (h0 : v0 < 4294967296) (hc : (q < 4294967296 ∧ q * v0 ≤ 4294967296 * r + n) ∨ 4294967296 ≤ r) :
    gs ≤ q ∧ q < 4294967296 ∧ q * (v1 * 4294967296 + v0) ≤ u * 4294967296 + n := by
  have hlin := h.lin
  have hq : q < 4294967296 := by
    rcases hc with hc | hc
    · exact hc.1
    · exact kg_low h hu h0 hc
  have hc' : q * v0 ≤ 4294967296 * r + n := by
    rcases hc with hc | hc
    · exact hc.2
    · have := Nat.mul_le_mul (show q ≤ 4294967295 by omega) (show v0 ≤ 4294967295 by omega)
      omega
  refine ⟨h.up, hq, ?_⟩
  rw [Nat.mul_add, ← Nat.mul_assoc]; omega

/-- The guess is at most one too great. -/
theorem guess_near {T H p lv lw q V W : Nat} (hV : V = T * p + lv) (hW : W = H * p + lw) (hlv : lv < p) (hT : 4294967296 ≤ T) (hq : q < 4294967296) (h : q * T ≤ H) : q * V < W + V := by
  subst hV hW
  have e1 : q * (T * p + lv) = q * T * p + q * lv := by rw [Nat.mul_add, Nat.mul_assoc]
  have e2 : q * T * p ≤ H * p := Nat.mul_le_mul_right _ h
  have e3 : q * lv ≤ 4294967296 * lv := Nat.mul_le_mul_right _ (by omega)
  have e4 : 4294967296 * p ≤ T * p := Nat.mul_le_mul_right _ hT
  omega

/-- The digit sought fits the first words. -/
theorem digit_fits {T H p lv lw gs V W : Nat} (hV : V = T * p + lv) (hW : W = H * p + lw) (hlw : lw < p) (h : gs * V ≤ W) : gs * T ≤ H := by
  subst hV hW
  have e1 : gs * T * p ≤ gs * (T * p + lv) := by rw [Nat.mul_assoc]; exact Nat.mul_le_mul_left _ (by omega)
  rcases Nat.lt_or_ge H (gs * T) with c | c
  · have : (H + 1) * p ≤ gs * T * p := Nat.mul_le_mul_right _ c
    rw [Nat.add_mul] at this; omega
  · exact c

theorem first_le {T H h u2 p lv lw V W : Nat} (hV : V = T * p + lv) (hW : W = H * p + lw) (hlv : lv < p) (hH : H = h * 4294967296 + u2) (hlt : W < 4294967296 * V) : h ≤ T := by
  subst hV hW hH
  rcases Nat.lt_or_ge T h with c | c
  · have h1 : (T + 1) * 4294967296 ≤ h * 4294967296 := Nat.mul_le_mul_right _ c
    have h2 : (T + 1) * 4294967296 * p ≤ (h * 4294967296 + u2) * p := Nat.mul_le_mul_right p (Nat.le_trans h1 (Nat.le_add_right _ _))
    have h3 : (T + 1) * 4294967296 * p = 4294967296 * (T * p + p) := by rw [Nat.mul_right_comm, Nat.mul_comm _ 4294967296, Nat.add_mul, Nat.one_mul]
    have h4 : 4294967296 * (T * p + lv) ≤ 4294967296 * (T * p + p) := Nat.mul_le_mul_left _ (by omega)
    omega
  · exact c

/-- One round of taking away. -/
theorem take_step (Y : List Nat) (i g c d x vi y d2 S T : Nat) (h : Y.length = i) (hv : val Y + g * T = S + pw i * (c + d)) (hy : y + (c + g * vi) % 4294967296 + d = x + 4294967296 * d2) :
    val (Y ++ [y]) + g * (T + pw i * vi) = (S + pw i * x) + pw (i + 1) * ((c + g * vi) / 4294967296 + d2) := by
  have e1 : val (Y ++ [y]) = val Y + pw i * y := by rw [val_append, h]; simp [val]
  have e2 : pw (i + 1) * ((c + g * vi) / 4294967296 + d2) = pw i * (4294967296 * ((c + g * vi) / 4294967296 + d2)) := by
    show 4294967296 * pw i * _ = _
    rw [Nat.mul_comm 4294967296 (pw i), Nat.mul_assoc]
  have e3 : g * (T + pw i * vi) = g * T + pw i * (g * vi) := by rw [Nat.mul_add, Nat.mul_left_comm]
  have hdm := Nat.div_add_mod (c + g * vi) 4294967296
  have e4 : pw i * (y + g * vi + (c + d)) = pw i * (x + 4294967296 * ((c + g * vi) / 4294967296 + d2)) := by
    congr 1
    omega
  have e5 : pw i * (y + g * vi + (c + d)) = pw i * y + pw i * (g * vi) + pw i * (c + d) := by rw [Nat.mul_add, Nat.mul_add]
  have e6 : pw i * (x + 4294967296 * ((c + g * vi) / 4294967296 + d2)) = pw i * x + pw i * (4294967296 * ((c + g * vi) / 4294967296 + d2)) := Nat.mul_add ..
  rw [e1, e2, e3]
  omega

/-- Nothing is left over above: the guess was right. -/
theorem take_right {X Y : List Nat} {n g c d xn V W gs : Nat} (hv : val Y + g * V = val X + pw n * (c + d)) (hW : W = val X + pw n * xn) (hVn : V < pw n) (hge : c + d ≤ xn) (h1 : gs ≤ g) (h2 : W < (gs + 1) * V) (h3 : gs * V ≤ W) :
    xn = c + d ∧ g = gs ∧ val Y = W - gs * V ∧ val Y < V := by
  have e1 : pw n * xn = pw n * (xn - (c + d)) + pw n * (c + d) := by rw [← Nat.mul_add]; congr 1; omega
  have h4 : W = val Y + g * V + pw n * (xn - (c + d)) := by rw [hW, e1]; omega
  have h5 : (gs + 1) * V = gs * V + V := by rw [Nat.add_mul, Nat.one_mul]
  have h6 : gs * V ≤ g * V := Nat.mul_le_mul_right _ h1
  have h7 : xn - (c + d) = 0 := by
    rcases Nat.eq_zero_or_pos (xn - (c + d)) with k | k
    · exact k
    · have : pw n * 1 ≤ pw n * (xn - (c + d)) := Nat.mul_le_mul_left _ k
      omega
  have h8 : g = gs := by
    rcases Nat.lt_or_ge gs g with k | k
    · have : (gs + 1) * V ≤ g * V := Nat.mul_le_mul_right _ k
      omega
    · omega
  subst h8
  rw [h7, Nat.mul_zero] at h4
  exact ⟨by omega, rfl, by omega, by omega⟩

/-- Too much was taken away: the guess was one too great; V is put back once. -/
theorem take_back {X Y Y2 : List Nat} {n g c d xn V W gs k : Nat} (hv : val Y + g * V = val X + pw n * (c + d)) (hW : W = val X + pw n * xn) (hVn : V < pw n) (hlt : xn < c + d) (hY : val Y < pw n) (h1 : gs ≤ g) (hn : g * V < W + V) (h2 : W < (gs + 1) * V) (h3 : gs * V ≤ W)
    (hb : val Y + V = val Y2 + pw n * k) (hY2 : val Y2 < pw n) : g = gs + 1 ∧ xn + k = c + d ∧ val Y2 = W - gs * V ∧ val Y2 < V := by
  have e1 : pw n * (c + d) = pw n * (c + d - xn) + pw n * xn := by rw [← Nat.mul_add]; congr 1; omega
  have h4 : W + pw n * (c + d - xn) = val Y + g * V := by rw [hW]; omega
  have h5 : (gs + 1) * V = gs * V + V := by rw [Nat.add_mul, Nat.one_mul]
  have e2 : pw n * 1 ≤ pw n * (c + d - xn) := Nat.mul_le_mul_left _ (by omega)
  have h6 : g = gs + 1 := by
    rcases Nat.lt_trichotomy g (gs + 1) with q | q | q
    · have : g = gs := by omega
      subst this; omega
    · exact q
    · have : (gs + 2) * V ≤ g * V := Nat.mul_le_mul_right _ q
      have h7 : (gs + 2) * V = gs * V + V + V := by rw [Nat.add_mul, Nat.two_mul]; omega
      omega
  subst h6
  rw [h5] at h4
  have h8 : W + pw n * (c + d - xn) = gs * V + val Y2 + pw n * k := by omega
  have h9 : c + d - xn = k := by
    rcases Nat.lt_trichotomy (c + d - xn) k with q | q | q
    · have e3 : pw n * (c + d - xn + 1) ≤ pw n * k := Nat.mul_le_mul_left _ q
      rw [Nat.mul_add, Nat.mul_one] at e3
      omega
    · exact q
    · have e3 : pw n * (k + 1) ≤ pw n * (c + d - xn) := Nat.mul_le_mul_left _ q
      rw [Nat.mul_add, Nat.mul_one] at e3
      omega
  rw [h9] at h8
  exact ⟨rfl, by omega, by omega, by omega⟩

/-- A place of a row in three parts. -/
theorem set_pos (P Y : List Nat) (x y : Nat) (R : List Nat) (j i : Nat) (hP : P.length = j) (hY : Y.length = i) : (P ++ (Y ++ (x :: R))).set (j + i) y = P ++ ((Y ++ [y]) ++ R) := by
  subst hP hY
  rw [List.set_append_right _ _ (by omega), List.set_append_right _ _ (by omega)]
  simp
theorem getD_pos (P Y : List Nat) (x : Nat) (R : List Nat) (j i : Nat) (hP : P.length = j) (hY : Y.length = i) : (P ++ (Y ++ (x :: R))).getD (j + i) 0 = x := by
  subst hP hY
  rw [List.getD_eq_getElem?_getD, List.getElem?_append_right (by omega), List.getElem?_append_right (by omega)]
  simp

end Go.Proofs.YtmifenflbaohnaaDoor.MathD
end

section
/- The contract of div of words where the divisor is greater, or both are short, or the divisor is one word. -/
set_option linter.unusedSimpArgs false
set_option linter.unusedVariables false
set_option maxRecDepth 100000
namespace Go.Proofs.YtmifenflbaohnaaDoor
open Go.RowKit

theorem Below.alloc_self' (w : World) (o : Obj) : Below w.heap.size w (w.alloc o) := Below.alloc (Below.refl _ _) (Nat.le_refl _) _

theorem NS.nil (w : World) : NS w (.slice none 0 0) 0 := ⟨[], ⟨by simp, Or.inl ⟨rfl, rfl⟩⟩, rfl, Or.inl rfl⟩

theorem NS.short {w : World} {aa : Option Addr} {len cap a : Nat} (h : NS w (.slice aa len cap) a) : (len ≤ 2 ↔ a < 18446744073709551616) ∧ (len = 1 → a < 4294967296) ∧ (len = 0 ↔ a = 0) := by
  obtain ⟨l, aa', g, cap', e, va, na, sa, _, _, _, _⟩ := h.open
  simp at e
  obtain ⟨rfl, rfl, rfl⟩ := e
  subst va
  refine ⟨⟨fun h => ?_, fun h => ?_⟩, fun h => ?_, ?_⟩
  · have := val_lt l sa
    have h2 := pw_le h
    rw [pw_two] at h2; omega
  · exact na.len (by rw [pw_two]; exact h)
  · have := val_lt l sa
    rw [h] at this; simpa [pw] using this
  · rw [List.length_eq_zero_iff]; exact na.nil_iff

end Go.Proofs.YtmifenflbaohnaaDoor
end

section
/- Plain facts: the state of Knuth's division between two digits. Nothing of the program's run. -/
set_option linter.unusedSimpArgs false
set_option linter.unusedVariables false
set_option maxRecDepth 100000
namespace Go.Proofs.YtmifenflbaohnaaDoor.MathE

/-- Behind the digits from k on: what is left stands in P and Y, the quotient's digits in Q. -/
structure KS (A V n m k : Nat) (P Y Q : List Nat) : Prop where
  lp : P.length = k
  ly : Y.length = n
  lq : Q.length + k = m + 1
  sp : ∀ x ∈ P, x < 4294967296
  sy : ∀ x ∈ Y, x < 4294967296
  sq : ∀ x ∈ Q, x < 4294967296
  lt : val Y < V
  eq : A = val Q * (pw k * V) + (val P + pw k * val Y)

theorem ks_start {U : List Nat} {A V n m : Nat} (hU : U.length = m + 1 + n) (hs : ∀ x ∈ U, x < 4294967296) (hv : val U = A) (hA : A < pw (m + n)) (hn : 1 ≤ n) (hV : pw (n - 1) ≤ V) :
    KS A V n m (m + 1) (U.take (m + 1)) (U.drop (m + 1)) [] := by
  have e := val_append (U.take (m + 1)) (U.drop (m + 1))
  rw [List.take_append_drop, List.length_take, Nat.min_eq_left (by omega), hv] at e
  refine ⟨by simp; omega, by simp; omega, by simp, fun x hx => hs x (List.mem_of_mem_take hx), fun x hx => hs x (List.mem_of_mem_drop hx), by simp, ?_, by simpa [val] using e⟩
  rcases Nat.lt_or_ge (val (U.drop (m + 1))) V with c | c
  · exact c
  · exfalso
    have h1 : pw (m + 1) * pw (n - 1) ≤ pw (m + 1) * val (U.drop (m + 1)) := Nat.mul_le_mul_left _ (by omega)
    rw [← pw_add, show m + 1 + (n - 1) = m + n by omega] at h1
    omega

/-- A list's last word apart. -/
theorem last_apart (l : List Nat) (n : Nat) (h : l.length = n + 1) : l = l.take n ++ [l.getD n 0] := by
  have h1 := List.take_append_drop n l
  rw [List.drop_eq_getElem_cons (by omega), List.drop_eq_nil_of_le (by omega)] at h1
  rw [List.getD_eq_getElem?_getD, List.getElem?_eq_getElem (by omega), Option.getD_some]
  exact h1.symm

/-- The window of one digit. -/
theorem ks_window {A V n m j : Nat} {P Y Q : List Nat} (h : KS A V n m (j + 1) P Y Q) :
    ∃ (P' X : List Nat) (xn : Nat), P'.length = j ∧ X.length = n ∧ (∀ x ∈ P', x < 4294967296) ∧ (∀ x ∈ X, x < 4294967296) ∧ xn < 4294967296 ∧ (∀ Z, P ++ (Y ++ Z) = P' ++ (X ++ (xn :: Z))) ∧
      val X + pw n * xn < 4294967296 * V ∧ A = val Q * (pw (j + 1) * V) + (val P' + pw j * (val X + pw n * xn)) := by
  have e1 := last_apart P j h.lp
  generalize hx0 : P.getD j 0 = x0 at e1
  have hx0s : x0 < 4294967296 := by rw [← hx0]; exact List.getD_lt_of h.sp j
  have e2 := last_apart (x0 :: Y) n (by simp [h.ly])
  generalize hxn : (x0 :: Y).getD n 0 = xn at e2
  have hsm : ∀ x ∈ x0 :: Y, x < 4294967296 := by
    intro x hx; rw [List.mem_cons] at hx; rcases hx with rfl | hx
    · exact hx0s
    · exact h.sy x hx
  have hxns : xn < 4294967296 := by rw [← hxn]; exact List.getD_lt_of hsm n
  have hw : val (x0 :: Y) = val ((x0 :: Y).take n) + pw n * xn := by
    have := val_append ((x0 :: Y).take n) [xn]
    rw [← e2, List.length_take, Nat.min_eq_left (by simp [h.ly])] at this
    rw [this]; simp [val]
  have hw2 : val (x0 :: Y) = x0 + 4294967296 * val Y := rfl
  refine ⟨P.take j, (x0 :: Y).take n, xn, by simp [h.lp], by simp [h.ly], fun x hx => h.sp x (List.mem_of_mem_take hx), fun x hx => hsm x (List.mem_of_mem_take hx), hxns, fun Z => ?_, ?_, ?_⟩
  · have : P ++ (Y ++ Z) = P.take j ++ ((x0 :: Y) ++ Z) := by
      rw [show P ++ (Y ++ Z) = (P.take j ++ [x0]) ++ (Y ++ Z) from by rw [← e1]]; simp
    rw [this]
    rw [show (x0 :: Y) ++ Z = ((x0 :: Y).take n ++ [xn]) ++ Z from by rw [← e2]]
    simp
  · rw [← hw, hw2]; have := h.lt; omega
  · rw [← hw, hw2]
    have h1 := h.eq
    have h2 : val P = val (P.take j) + pw j * x0 := by
      have := val_append (P.take j) [x0]
      rw [← e1, List.length_take, Nat.min_eq_left (by rw [h.lp]; omega)] at this
      rw [this]; simp [val]
    have h3 : pw (j + 1) * val Y = pw j * (4294967296 * val Y) := by
      show 4294967296 * pw j * _ = _
      rw [Nat.mul_comm 4294967296 (pw j), Nat.mul_assoc]
    rw [h1, h2, h3, Nat.mul_add]; omega

theorem ks_next {A V n m j gs W : Nat} {P P' Y Y2 Q : List Nat} (h : KS A V n m (j + 1) P Y Q) (hP : P'.length = j) (sP : ∀ x ∈ P', x < 4294967296) (hA : A = val Q * (pw (j + 1) * V) + (val P' + pw j * W)) (hY : Y2.length = n) (sY : ∀ x ∈ Y2, x < 4294967296)
    (hv : val Y2 + gs * V = W) (hlt : val Y2 < V) (hg : gs < 4294967296) : KS A V n m j P' Y2 (gs :: Q) := by
  refine ⟨hP, hY, by have := h.lq; simp; omega, sP, sY, ?_, hlt, ?_⟩
  · intro x hx; rw [List.mem_cons] at hx; rcases hx with rfl | hx
    · exact hg
    · exact h.sq x hx
  · rw [hA, ← hv, Nat.mul_add]
    have e1 : val (gs :: Q) * (pw j * V) = gs * (pw j * V) + val Q * (pw (j + 1) * V) := by
      show (gs + 4294967296 * val Q) * (pw j * V) = gs * (pw j * V) + val Q * (4294967296 * pw j * V)
      rw [Nat.add_mul]; congr 1
      simp only [Nat.mul_assoc, Nat.mul_comm, Nat.mul_left_comm]
    have e2 : pw j * (gs * V) = gs * (pw j * V) := Nat.mul_left_comm ..
    rw [e1, e2]; omega

/-- The first words of a row of n + 2 words, and what is below them. -/
theorem two_tops (l : List Nat) (n2 : Nat) (h : l.length = n2 + 2) : val l = (l.getD (n2 + 1) 0 * 4294967296 + l.getD n2 0) * pw n2 + val (l.take n2) := by
  rw [val_split l n2 (by omega), List.drop_eq_getElem_cons (show n2 + 1 < l.length by omega), List.drop_eq_nil_of_le (show l.length ≤ n2 + 1 + 1 by omega)]
  rw [List.getD_eq_getElem?_getD (i := n2 + 1), List.getElem?_eq_getElem (show n2 + 1 < l.length by omega), Option.getD_some]
  simp only [val, Nat.mul_zero, Nat.add_zero]
  rw [Nat.mul_comm (pw n2), Nat.add_comm]
  congr 2
  omega

/-- All of a digit's guess. -/
theorem guess_all {V X : List Nat} {n2 xn : Nat} (hV : V.length = n2 + 2) (hX : X.length = n2 + 2) (sV : ∀ x ∈ V, x < 4294967296) (sX : ∀ x ∈ X, x < 4294967296) (hW : val X + pw (n2 + 2) * xn < 4294967296 * val V) (htop : 2147483648 ≤ V.getD (n2 + 1) 0) :
    xn * 4294967296 + X.getD (n2 + 1) 0 ≤ V.getD (n2 + 1) 0 * 4294967296 + V.getD n2 0 ∧
    ((val X + pw (n2 + 2) * xn) / val V) * (V.getD (n2 + 1) 0 * 4294967296 + V.getD n2 0) ≤ (xn * 4294967296 + X.getD (n2 + 1) 0) * 4294967296 + X.getD n2 0 ∧
    (val X + pw (n2 + 2) * xn) / val V < 4294967296 ∧
    ∀ q, q < 4294967296 → q * (V.getD (n2 + 1) 0 * 4294967296 + V.getD n2 0) ≤ (xn * 4294967296 + X.getD (n2 + 1) 0) * 4294967296 + X.getD n2 0 → q * val V < val X + pw (n2 + 2) * xn + val V := by
  have e1 := two_tops V n2 hV
  have e2 := two_tops X n2 hX
  have l1 := take_lt V n2 (by omega) sV
  have l2 := take_lt X n2 (by omega) sX
  have e3 : val X + pw (n2 + 2) * xn = ((xn * 4294967296 + X.getD (n2 + 1) 0) * 4294967296 + X.getD n2 0) * pw n2 + val (X.take n2) := by
    rw [e2]
    have : pw (n2 + 2) * xn = xn * 4294967296 * 4294967296 * pw n2 := by
      show 4294967296 * (4294967296 * pw n2) * xn = _
      simp only [Nat.mul_assoc, Nat.mul_comm, Nat.mul_left_comm]
    rw [this, Nat.add_mul _ _ (pw n2), Nat.add_mul, Nat.add_mul, Nat.add_mul]
    omega
  have hV0 : 0 < val V := by
    rw [e1]
    have := Nat.mul_le_mul_right (pw n2) (show 1 ≤ V.getD (n2 + 1) 0 * 4294967296 + V.getD n2 0 by omega)
    have := pw_pos n2
    omega
  refine ⟨MathD.first_le e1 e3 l1 rfl hW, MathD.digit_fits e1 e3 l2 (Nat.div_mul_le_self _ _), by rw [Nat.div_lt_iff_lt_mul hV0]; exact hW, fun q hq h => MathD.guess_near e1 e3 l1 (by omega) hq h⟩

end Go.Proofs.YtmifenflbaohnaaDoor.MathE
end
