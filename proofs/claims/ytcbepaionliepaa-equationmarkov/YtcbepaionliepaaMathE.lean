/- Plain facts: the state of Knuth's division between two digits. Nothing of the program's run. -/
import Derived.Test.YtcbepaionliepaaMathD
set_option linter.unusedSimpArgs false
set_option linter.unusedVariables false
set_option maxRecDepth 100000
namespace Go.Proofs.Ytcbepaionliepaa.MathE

/-- Behind the digits from k on: what is left stands in P and Y, the quotient's digits in Q. -/
structure KS (A V n m k : Nat) (P Y Q : List Nat) : Prop where
  lp : P.length = k
  ly : Y.length = n
  lq : Q.length + k = m + 1
  sp : ∀ x ∈ P, x < 4294967296
  sy : ∀ x ∈ Y, x < 4294967296
  sq : ∀ x ∈ Q, x < 4294967296
  lt : val Y < V
  eq : A = val Q * (pw k * V) + (val P + pw k * val Y)

theorem ks_start {U : List Nat} {A V n m : Nat} (hU : U.length = m + 1 + n) (hs : ∀ x ∈ U, x < 4294967296) (hv : val U = A) (hA : A < pw (m + n)) (hn : 1 ≤ n) (hV : pw (n - 1) ≤ V) :
    KS A V n m (m + 1) (U.take (m + 1)) (U.drop (m + 1)) [] := by
  have e := val_append (U.take (m + 1)) (U.drop (m + 1))
  rw [List.take_append_drop, List.length_take, Nat.min_eq_left (by omega), hv] at e
  refine ⟨by simp; omega, by simp; omega, by simp, fun x hx => hs x (List.mem_of_mem_take hx), fun x hx => hs x (List.mem_of_mem_drop hx), by simp, ?_, by simpa [val] using e⟩
  rcases Nat.lt_or_ge (val (U.drop (m + 1))) V with c | c
  · exact c
  · exfalso
    have h1 : pw (m + 1) * pw (n - 1) ≤ pw (m + 1) * val (U.drop (m + 1)) := Nat.mul_le_mul_left _ (by omega)
    rw [← pw_add, show m + 1 + (n - 1) = m + n by omega] at h1
    omega

/-- A list's last word apart. -/
theorem last_apart (l : List Nat) (n : Nat) (h : l.length = n + 1) : l = l.take n ++ [l.getD n 0] := by
  have h1 := List.take_append_drop n l
  rw [List.drop_eq_getElem_cons (by omega), List.drop_eq_nil_of_le (by omega)] at h1
  rw [List.getD_eq_getElem?_getD, List.getElem?_eq_getElem (by omega), Option.getD_some]
  exact h1.symm

/-- The window of one digit. -/
theorem ks_window {A V n m j : Nat} {P Y Q : List Nat} (h : KS A V n m (j + 1) P Y Q) :
    ∃ (P' X : List Nat) (xn : Nat), P'.length = j ∧ X.length = n ∧ (∀ x ∈ P', x < 4294967296) ∧ (∀ x ∈ X, x < 4294967296) ∧ xn < 4294967296 ∧ (∀ Z, P ++ (Y ++ Z) = P' ++ (X ++ (xn :: Z))) ∧
      val X + pw n * xn < 4294967296 * V ∧ A = val Q * (pw (j + 1) * V) + (val P' + pw j * (val X + pw n * xn)) := by
  have e1 := last_apart P j h.lp
  generalize hx0 : P.getD j 0 = x0 at e1
  have hx0s : x0 < 4294967296 := by rw [← hx0]; exact List.getD_lt_of h.sp j
  have e2 := last_apart (x0 :: Y) n (by simp [h.ly])
  generalize hxn : (x0 :: Y).getD n 0 = xn at e2
  have hsm : ∀ x ∈ x0 :: Y, x < 4294967296 := by
    intro x hx; rw [List.mem_cons] at hx; rcases hx with rfl | hx
    · exact hx0s
    · exact h.sy x hx
  have hxns : xn < 4294967296 := by rw [← hxn]; exact List.getD_lt_of hsm n
  have hw : val (x0 :: Y) = val ((x0 :: Y).take n) + pw n * xn := by
    have := val_append ((x0 :: Y).take n) [xn]
    rw [← e2, List.length_take, Nat.min_eq_left (by simp [h.ly])] at this
    rw [this]; simp [val]
  have hw2 : val (x0 :: Y) = x0 + 4294967296 * val Y := rfl
  refine ⟨P.take j, (x0 :: Y).take n, xn, by simp [h.lp], by simp [h.ly], fun x hx => h.sp x (List.mem_of_mem_take hx), fun x hx => hsm x (List.mem_of_mem_take hx), hxns, fun Z => ?_, ?_, ?_⟩
  · have : P ++ (Y ++ Z) = P.take j ++ ((x0 :: Y) ++ Z) := by
      rw [show P ++ (Y ++ Z) = (P.take j ++ [x0]) ++ (Y ++ Z) from by rw [← e1]]; simp
    rw [this]
    rw [show (x0 :: Y) ++ Z = ((x0 :: Y).take n ++ [xn]) ++ Z from by rw [← e2]]
    simp
  · rw [← hw, hw2]; have := h.lt; omega
  · rw [← hw, hw2]
    have h1 := h.eq
    have h2 : val P = val (P.take j) + pw j * x0 := by
      have := val_append (P.take j) [x0]
      rw [← e1, List.length_take, Nat.min_eq_left (by rw [h.lp]; omega)] at this
      rw [this]; simp [val]
    have h3 : pw (j + 1) * val Y = pw j * (4294967296 * val Y) := by
      show 4294967296 * pw j * _ = _
      rw [Nat.mul_comm 4294967296 (pw j), Nat.mul_assoc]
    rw [h1, h2, h3, Nat.mul_add]; omega

theorem ks_next {A V n m j gs W : Nat} {P P' Y Y2 Q : List Nat} (h : KS A V n m (j + 1) P Y Q) (hP : P'.length = j) (sP : ∀ x ∈ P', x < 4294967296) (hA : A = val Q * (pw (j + 1) * V) + (val P' + pw j * W)) (hY : Y2.length = n) (sY : ∀ x ∈ Y2, x < 4294967296)
    (hv : val Y2 + gs * V = W) (hlt : val Y2 < V) (hg : gs < 4294967296) : KS A V n m j P' Y2 (gs :: Q) := by
  refine ⟨hP, hY, by have := h.lq; simp; omega, sP, sY, ?_, hlt, ?_⟩
  · intro x hx; rw [List.mem_cons] at hx; rcases hx with rfl | hx
    · exact hg
    · exact h.sq x hx
  · rw [hA, ← hv, Nat.mul_add]
    have e1 : val (gs :: Q) * (pw j * V) = gs * (pw j * V) + val Q * (pw (j + 1) * V) := by
      show (gs + 4294967296 * val Q) * (pw j * V) = gs * (pw j * V) + val Q * (4294967296 * pw j * V)
      rw [Nat.add_mul]; congr 1
      simp only [Nat.mul_assoc, Nat.mul_comm, Nat.mul_left_comm]
    have e2 : pw j * (gs * V) = gs * (pw j * V) := Nat.mul_left_comm ..
    rw [e1, e2]; omega

/-- The first words of a row of n + 2 words, and what is below them. -/
theorem two_tops (l : List Nat) (n2 : Nat) (h : l.length = n2 + 2) : val l = (l.getD (n2 + 1) 0 * 4294967296 + l.getD n2 0) * pw n2 + val (l.take n2) := by
  rw [val_split l n2 (by omega), List.drop_eq_getElem_cons (show n2 + 1 < l.length by omega), List.drop_eq_nil_of_le (show l.length ≤ n2 + 1 + 1 by omega)]
  rw [List.getD_eq_getElem?_getD (i := n2 + 1), List.getElem?_eq_getElem (show n2 + 1 < l.length by omega), Option.getD_some]
  simp only [val, Nat.mul_zero, Nat.add_zero]
  rw [Nat.mul_comm (pw n2), Nat.add_comm]
  congr 2
  omega

/-- All of a digit's guess. -/
theorem guess_all {V X : List Nat} {n2 xn : Nat} (hV : V.length = n2 + 2) (hX : X.length = n2 + 2) (sV : ∀ x ∈ V, x < 4294967296) (sX : ∀ x ∈ X, x < 4294967296) (hW : val X + pw (n2 + 2) * xn < 4294967296 * val V) (htop : 2147483648 ≤ V.getD (n2 + 1) 0) :
    xn * 4294967296 + X.getD (n2 + 1) 0 ≤ V.getD (n2 + 1) 0 * 4294967296 + V.getD n2 0 ∧
    ((val X + pw (n2 + 2) * xn) / val V) * (V.getD (n2 + 1) 0 * 4294967296 + V.getD n2 0) ≤ (xn * 4294967296 + X.getD (n2 + 1) 0) * 4294967296 + X.getD n2 0 ∧
    (val X + pw (n2 + 2) * xn) / val V < 4294967296 ∧
    ∀ q, q < 4294967296 → q * (V.getD (n2 + 1) 0 * 4294967296 + V.getD n2 0) ≤ (xn * 4294967296 + X.getD (n2 + 1) 0) * 4294967296 + X.getD n2 0 → q * val V < val X + pw (n2 + 2) * xn + val V := by
  have e1 := two_tops V n2 hV
  have e2 := two_tops X n2 hX
  have l1 := take_lt V n2 (by omega) sV
  have l2 := take_lt X n2 (by omega) sX
  have e3 : val X + pw (n2 + 2) * xn = ((xn * 4294967296 + X.getD (n2 + 1) 0) * 4294967296 + X.getD n2 0) * pw n2 + val (X.take n2) := by
    rw [e2]
    have : pw (n2 + 2) * xn = xn * 4294967296 * 4294967296 * pw n2 := by
      show 4294967296 * (4294967296 * pw n2) * xn = _
      simp only [Nat.mul_assoc, Nat.mul_comm, Nat.mul_left_comm]
    rw [this, Nat.add_mul _ _ (pw n2), Nat.add_mul, Nat.add_mul, Nat.add_mul]
    omega
  have hV0 : 0 < val V := by
    rw [e1]
    have := Nat.mul_le_mul_right (pw n2) (show 1 ≤ V.getD (n2 + 1) 0 * 4294967296 + V.getD n2 0 by omega)
    have := pw_pos n2
    omega
  refine ⟨MathD.first_le e1 e3 l1 rfl hW, MathD.digit_fits e1 e3 l2 (Nat.div_mul_le_self _ _), by rw [Nat.div_lt_iff_lt_mul hV0]; exact hW, fun q hq h => MathD.guess_near e1 e3 l1 (by omega) hq h⟩

end Go.Proofs.Ytcbepaionliepaa.MathE
