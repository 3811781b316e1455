import Derived.Test.YtnkjadpmigpneaaGreatDoorJnK
section
/- Plain: Hermite's form: Cramer's rule for rows; row operations; the form's rows, and what leads to them, are short. -/
set_option linter.unusedSimpArgs false
set_option linter.unusedVariables false
set_option maxRecDepth 100000
namespace Go.Proofs.YtnkjadpmigpneaaGreatDoor.DtM
/-- Sizes of sums. -/
theorem sm_abs {n : Nat} {f : Nat → Int} {B : Nat} (h : ∀ i, i < n → (f i).natAbs ≤ B) : (sm n f).natAbs ≤ n * B := by
  induction n with
  | zero => simp [sm]
  | succ n ih =>
    rw [sm, Nat.succ_mul]
    have h1 := ih (fun i hi => h i (by omega))
    have h2 := h n (by omega)
    have h3 := Int.natAbs_add_le (sm n f) (f n)
    omega
def fact : Nat → Nat
  | 0 => 1
  | n + 1 => (n + 1) * fact n
/-- The product of the first n. -/
def pb (b : Nat → Nat) : Nat → Nat
  | 0 => 1
  | n + 1 => pb b n * b n
theorem pb_congr {b b' : Nat → Nat} {n : Nat} (h : ∀ i, i < n → b i = b' i) : pb b n = pb b' n := by
  induction n with
  | zero => rfl
  | succ n ih => rw [pb, pb, ih (fun i hi => h i (by omega)), h n (by omega)]
theorem pb_skip (b : Nat → Nat) {n i : Nat} (hi : i ≤ n) : pb (fun r => b (if r < i then r else r + 1)) n * b i = pb b (n + 1) := by
  induction n with
  | zero =>
    have : i = 0 := by omega
    subst this; simp [pb]
  | succ n ih =>
    by_cases e : i = n + 1
    · subst e
      rw [pb.eq_2 b]
      congr 1
      exact pb_congr (b := fun r => b (if r < n + 1 then r else r + 1)) (b' := b) (fun r hr => by simp only [if_pos hr])
    · have := ih (by omega)
      rw [pb, pb, ← this]
      simp only [if_neg (show ¬ n < i by omega)]
      rw [Nat.mul_right_comm]
theorem sgi_abs (i : Nat) : (sgi i).natAbs = 1 := by unfold sgi; split <;> rfl
theorem det_bd {n : Nat} : ∀ (a : Nat → Nat → Int) (b : Nat → Nat), (∀ r c, r < n → c < n → (a r c).natAbs ≤ b r) → (det n a).natAbs ≤ fact n * pb b n := by
  induction n with
  | zero => intro a b _; simp [det, fact, pb]
  | succ n ih =>
    intro a b h
    rw [det, fact, Nat.mul_assoc]
    refine sm_abs (fun i hi => ?_)
    rw [Int.natAbs_mul, Int.natAbs_mul, sgi_abs, Nat.one_mul]
    have h1 := h i 0 hi (by omega)
    have h2 := ih (mn i a) (fun r => b (if r < i then r else r + 1)) (fun r c hr hc => by
      unfold mn
      split <;> exact h _ _ (by omega) (by omega))
    have h3 := Nat.mul_le_mul h1 h2
    refine Nat.le_trans h3 ?_
    rw [← pb_skip b (show i ≤ n by omega), Nat.mul_left_comm, Nat.mul_comm (b i)]
    exact Nat.le_refl _
/-- A row that is a sum. -/
theorem det_sum {n k : Nat} (a M : Nat → Nat → Int) (t : Nat → Int) (hk : k < n) : ∀ m, det n (rp k (fun c => sm m (fun l => t l * M l c)) a) = sm m (fun l => t l * det n (rp k (M l) a)) := by
  intro m
  induction m with
  | zero =>
    have := det_lin a (a k) (a k) 0 0 hk
    simp only [Int.zero_mul, Int.add_zero] at this
    simpa [sm] using this
  | succ m ih =>
    have := det_lin a (fun c => sm m (fun l => t l * M l c)) (M m) 1 (t m) hk
    simp only [Int.one_mul] at this
    simp only [sm]
    rw [this, ih]
theorem det_two {n k l : Nat} (a : Nat → Nat → Int) (hk : k < n) (hl : l < n) (hkl : k ≠ l) : det n (rp k (a l) a) = 0 := by
  rcases Nat.lt_or_ge k l with c | c
  · obtain ⟨m, rfl⟩ : ∃ m, l = k + m + 1 := ⟨l - k - 1, by omega⟩
    refine det_eq m k _ hl (fun c => ?_)
    unfold rp
    rw [if_pos rfl, if_neg (by omega)]
  · obtain ⟨m, rfl⟩ : ∃ m, k = l + m + 1 := ⟨k - l - 1, by omega⟩
    refine det_eq m l _ hk (fun c => ?_)
    unfold rp
    rw [if_neg (by omega), if_pos rfl]
theorem sm_one {n k : Nat} {f : Nat → Int} (hk : k < n) (h : ∀ i, i < n → i ≠ k → f i = 0) : sm n f = f k := by
  induction n with
  | zero => omega
  | succ n ih =>
    rw [sm]
    by_cases e : k = n
    · subst e
      rw [sm_zero (fun i hi => h i (by omega) (by omega)), Int.zero_add]
    · rw [ih (by omega) (fun i hi => h i (by omega)), h n (by omega) (by omega), Int.add_zero]
/-- CRAMER'S RULE, for rows. -/
theorem cramer {n k : Nat} (a : Nat → Nat → Int) (t : Nat → Int) (hk : k < n) : det n (rp k (fun c => sm n (fun l => t l * a l c)) a) = t k * det n a := by
  rw [det_sum a a t hk n, sm_one hk (fun i hi hne => by rw [det_two a hk hi (Ne.symm hne), Int.mul_zero]), rp_self]

/-- The first k rows of F, behind them those of E; the columns that c chooses. -/
def mx (k : Nat) (F E : Nat → Nat → Int) (c : Nat → Nat) : Nat → Nat → Int := fun r j => if r < k then F r (c j) else E r (c j)
/-- k rows come from others by adding multiples of rows to others, turning signs and places: whatever stands behind them, and whatever columns are looked at. -/
def RO (k : Nat) (F M : Nat → Nat → Int) : Prop := ∃ e : Int, (e = 1 ∨ e = -1) ∧ ∀ n E c, k ≤ n → det n (mx k F E c) = e * det n (mx k M E c)
theorem RO.refl (k : Nat) (F : Nat → Nat → Int) : RO k F F := ⟨1, .inl rfl, fun n E c _ => by rw [Int.one_mul]⟩
theorem RO.trans {k : Nat} {F G H : Nat → Nat → Int} (h : RO k F G) (g : RO k G H) : RO k F H := by
  obtain ⟨e, he, h1⟩ := h
  obtain ⟨d, hd, g1⟩ := g
  refine ⟨e * d, ?_, fun n E c hk => by rw [h1 n E c hk, g1 n E c hk, Int.mul_assoc]⟩
  rcases he with rfl | rfl <;> rcases hd with rfl | rfl <;> simp
theorem mx_rp {k r : Nat} (hr : r < k) (v : Nat → Int) (F E : Nat → Nat → Int) (c : Nat → Nat) : mx k (rp r v F) E c = rp r (fun j => v (c j)) (mx k F E c) := by
  funext s j
  unfold mx rp
  by_cases e : s = r
  · subst e; simp [hr]
  · simp [e]
theorem RO.add {k r s : Nat} (F : Nat → Nat → Int) (x : Int) (hr : r < k) (hs : s < k) (hrs : r ≠ s) : RO k (rp r (fun j => F r j + x * F s j) F) F := by
  refine ⟨1, .inl rfl, fun n E c hk => ?_⟩
  rw [mx_rp hr, Int.one_mul]
  have e := det_add (n := n) (mx k F E c) x (show r < n by omega) (show s < n by omega) hrs
  rw [← e]
  congr 2
  funext j
  simp [mx, hr, hs]
theorem RO.neg {k r : Nat} (F : Nat → Nat → Int) (hr : r < k) : RO k (rp r (fun j => -F r j) F) F := by
  refine ⟨-1, .inr rfl, fun n E c hk => ?_⟩
  rw [mx_rp hr]
  have e := det_mul (n := n) (k := r) (mx k F E c) (-1) (show r < n by omega)
  rw [← e]
  congr 2
  funext j
  simp [mx, hr]
theorem RO.swap {k r : Nat} (F : Nat → Nat → Int) (hr : r + 1 < k) : RO k (sw r F) F := by
  refine ⟨-1, .inr rfl, fun n E c hk => ?_⟩
  have e := det_sw (n := n) (k := r) (mx k F E c) (by omega)
  have e2 : mx k (sw r F) E c = sw r (mx k F E c) := by
    funext s j
    simp only [mx, sw]
    by_cases g1 : s = r
    · subst g1; simp [show s < k by omega, hr]
    · by_cases g2 : s = r + 1
      · subst g2; simp [show r < k by omega, hr]
      · simp [g1, g2]
  rw [e2, e]; omega
theorem RO.congr {k : Nat} {F F' M : Nat → Nat → Int} (h : RO k F M) (e : ∀ r, r < k → F' r = F r) : RO k F' M := by
  obtain ⟨d, hd, h1⟩ := h
  refine ⟨d, hd, fun n E c hk => ?_⟩
  rw [← h1 n E c hk]
  congr 1
  funext r j
  unfold mx
  by_cases g : r < k
  · rw [if_pos g, if_pos g, e r g]
  · rw [if_neg g, if_neg g]
/-- A row more. -/
theorem RO.more {k : Nat} {F M : Nat → Nat → Int} (h : RO k F M) (v : Nat → Int) : RO (k + 1) (rp k v F) (rp k v M) := by
  obtain ⟨e, he, h1⟩ := h
  refine ⟨e, he, fun n E c hk => ?_⟩
  have := h1 n (rp k v E) c (by omega)
  have e1 : ∀ G : Nat → Nat → Int, mx (k + 1) (rp k v G) E c = mx k G (rp k v E) c := by
    intro G
    funext r j
    unfold mx rp
    by_cases g : r < k
    · simp [g, show r < k + 1 by omega, show r ≠ k by omega]
    · by_cases g2 : r = k
      · subst g2; simp
      · simp [g, g2, show ¬ r < k + 1 by omega]
  rw [e1, e1, this]
/-- A row put in at a place. -/
def ins (at' : Nat) (v : Nat → Int) (F : Nat → Nat → Int) : Nat → Nat → Int := fun r => if r < at' then F r else if r = at' then v else F (r - 1)
theorem RO.ins {k : Nat} (F : Nat → Nat → Int) (v : Nat → Int) : ∀ d, d ≤ k → RO (k + 1) (ins (k - d) v F) (rp k v F) := by
  intro d
  induction d with
  | zero =>
    intro _
    refine (RO.refl (k + 1) (rp k v F)).congr (fun r hr => ?_)
    funext j
    unfold DtM.ins rp
    by_cases g : r = k
    · subst g; simp
    · simp [g, show r < k by omega]
  | succ d ih =>
    intro hd
    have h1 := ih (by omega)
    have h2 := RO.swap (k := k + 1) (r := k - (d + 1)) (DtM.ins (k - d) v F) (by omega)
    refine RO.congr (h2.trans h1) (fun r hr => ?_)
    funext j
    unfold DtM.ins sw
    by_cases g1 : r < k - (d + 1)
    · simp [g1, show r ≠ k - (d + 1) by omega, show r ≠ k - (d + 1) + 1 by omega, show r < k - d by omega]
    · by_cases g2 : r = k - (d + 1)
      · subst g2
        simp [show ¬ k - (d + 1) + 1 < k - d by omega, show k - (d + 1) + 1 = k - d by omega]
      · by_cases g3 : r = k - (d + 1) + 1
        · subst g3
          simp [show k - (d + 1) < k - d by omega, show ¬ k - (d + 1) + 1 < k - (d + 1) by omega]
        · simp [g1, g2, g3, show ¬ r < k - d by omega, show r ≠ k - d by omega]
/-- Rows whose first number that is not 0 stands farther and farther right, and is above 0. -/
structure He (k N : Nat) (F : Nat → Nat → Int) (c : Nat → Nat) : Prop where
  lt : ∀ r, r < k → c r < N
  inc : ∀ r s, r < s → s < k → c r < c s
  zero : ∀ r, r < k → ∀ j, j < c r → F r j = 0
  pos : ∀ r, r < k → 0 < F r (c r)
theorem He.tri {k N : Nat} {F : Nat → Nat → Int} {c : Nat → Nat} (h : He k N F c) (E : Nat → Nat → Int) : det k (mx k F E c) = dg (mx k F E c) k := by
  refine det_tri _ (fun r j hr hj => ?_)
  simp only [mx, hr, if_true]
  exact h.zero r hr _ (h.inc j r hj hr)
theorem dg_ge {a : Nat → Nat → Int} {n : Nat} (h : ∀ r, r < n → 0 < a r r) : 0 < dg a n ∧ ∀ r, r < n → a r r ≤ dg a n := by
  induction n with
  | zero => simp [dg]
  | succ n ih =>
    obtain ⟨h1, h2⟩ := ih (fun r hr => h r (by omega))
    have h3 := h n (by omega)
    refine ⟨by rw [dg]; exact Int.mul_pos h1 h3, fun r hr => ?_⟩
    rw [dg]
    by_cases e : r = n
    · subst e
      have := Int.mul_le_mul_of_nonneg_right (show (1 : Int) ≤ dg a r by omega) (Int.le_of_lt h3)
      omega
    · have h4 := h2 r (by omega)
      have := Int.mul_le_mul_of_nonneg_left (show (1 : Int) ≤ a n n by omega) (Int.le_of_lt h1)
      omega
/-- In Hermite's form: above a pivot all is from 0 on, and less than it. -/
structure Hr (k N : Nat) (F : Nat → Nat → Int) (c : Nat → Nat) : Prop extends He k N F c where
  red : ∀ r s, r < s → s < k → 0 ≤ F r (c s) ∧ F r (c s) < F s (c s)
/-- What leads to the rows of a form from rows of small numbers is short. -/
theorem Hr.short {k N : Nat} {F M : Nat → Nat → Int} {c : Nat → Nat} (h : Hr k N F c) (ro : RO k F M) (t : Nat → Int) (r A : Nat) (hr : r < k) (ht : ∀ j, j < N → F r j = sm k (fun l => t l * M l j)) (hA : ∀ l j, l < k → j < N → (M l j).natAbs ≤ A) (l : Nat) (hl : l < k) : (t l).natAbs ≤ fact k * A ^ (k - 1) := by
  obtain ⟨e, he, h1⟩ := ro
  have hd := h1 k F c (Nat.le_refl _)
  rw [h.toHe.tri] at hd
  have hg := dg_ge (a := mx k F F c) (n := k) (fun r hr => by simp only [mx, hr, if_true]; exact h.pos r hr)
  obtain ⟨P, hP⟩ : ∃ P, P = dg (mx k F F c) k := ⟨_, rfl⟩
  rw [← hP] at hd hg
  have hD : (det k (mx k M F c)).natAbs = P.natAbs := by
    rcases he with rfl | rfl <;> omega
  have hc := cramer (n := k) (mx k M F c) t hl
  have hb := det_bd (n := k) (rp l (fun j => sm k (fun l => t l * mx k M F c l j)) (mx k M F c)) (fun s => if s = l then P.natAbs else A) (fun s j hs hj => by
    unfold rp
    by_cases e : s = l
    · simp only [e, if_true]
      have e2 : sm k (fun l => t l * mx k M F c l j) = F r (c j) := by
        rw [ht _ (h.lt j hj)]
        exact sm_congr (fun i hi => by simp [mx, hi])
      rw [e2]
      rcases Nat.lt_trichotomy j r with g | g | g
      · rw [h.zero r hr _ (h.inc j r g hr)]; simp
      · subst g
        have := hg.2 j hj
        simp only [mx, hj, if_true] at this
        have := h.pos j hj
        omega
      · have h2 := h.red r j g hj
        have := hg.2 j hj
        simp only [mx, hj, if_true] at this
        omega
    · simp only [e, if_false]
      simp only [mx, hs, if_true]
      exact hA s _ hs (h.lt j hj))
  rw [hc, Int.natAbs_mul, hD] at hb
  have hpb : pb (fun s => if s = l then P.natAbs else A) k = A ^ (k - 1) * P.natAbs := by
    have : ∀ n, pb (fun s => if s = l then P.natAbs else A) n = if l < n then A ^ (n - 1) * P.natAbs else A ^ n := by
      intro n
      induction n with
      | zero => simp [pb]
      | succ n ih =>
        rw [pb, ih]
        by_cases g : l < n
        · simp only [if_pos g, if_neg (show ¬ n = l by omega), if_pos (show l < n + 1 by omega)]
          rw [Nat.mul_right_comm]
          congr 1
          obtain ⟨m, rfl⟩ : ∃ m, n = m + 1 := ⟨n - 1, by omega⟩
          simp [Nat.pow_succ]
        · by_cases g2 : n = l
          · subst g2; simp
          · simp only [if_neg g, if_neg (show ¬ l < n + 1 by omega), if_neg g2]
            rw [Nat.pow_succ]
    rw [this k, if_pos hl]
  rw [hpb, ← Nat.mul_assoc] at hb
  exact Nat.le_of_mul_le_mul_right hb (by omega)
end Go.Proofs.YtnkjadpmigpneaaGreatDoor.DtM
end

section
/- Plain: Hermite's form: rows that come from others by row operations; Euclid's way with two rows. -/
set_option linter.unusedSimpArgs false
set_option linter.unusedVariables false
set_option maxRecDepth 100000
namespace Go.Proofs.YtnkjadpmigpneaaGreatDoor.DtM
/-- Rows that come from others by adding multiples of rows to others and by turning signs. -/
def Rw (k : Nat) (F' F : Nat → Nat → Int) : Prop :=
  ∀ R : (Nat → Nat → Int) → Prop, (∀ G r s x, R G → r < k → s < k → r ≠ s → R (rp r (fun j => G r j + x * G s j) G)) → (∀ G r, R G → r < k → R (rp r (fun j => -G r j) G)) → (∀ G H, R G → (∀ r, r < k → ∀ j, H r j = G r j) → R H) → R F → R F'
theorem Rw.refl (k : Nat) (F : Nat → Nat → Int) : Rw k F F := fun R _ _ _ h => h
theorem Rw.trans {k : Nat} {F G H : Nat → Nat → Int} (h : Rw k F G) (g : Rw k G H) : Rw k F H := fun R a b c d => h R a b c (g R a b c d)
theorem Rw.congr {k : Nat} {F F' G : Nat → Nat → Int} (h : Rw k F G) (e : ∀ r, r < k → ∀ j, F' r j = F r j) : Rw k F' G := fun R a b c d => c F F' (h R a b c d) e
theorem Rw.add {k r s : Nat} (G : Nat → Nat → Int) (x : Int) (hr : r < k) (hs : s < k) (hrs : r ≠ s) : Rw k (rp r (fun j => G r j + x * G s j) G) G := fun R a b c d => a G r s x d hr hs hrs
theorem Rw.neg {k r : Nat} (G : Nat → Nat → Int) (hr : r < k) : Rw k (rp r (fun j => -G r j) G) G := fun R a b c d => b G r d hr
/-- Two rows change places. -/
theorem Rw.swap {k r s : Nat} (G : Nat → Nat → Int) (hr : r < k) (hs : s < k) (hrs : r ≠ s) : Rw k (rp r (G s) (rp s (G r) G)) G := by
  have h1 := Rw.add (k := k) G 1 hr hs hrs
  have h2 := Rw.add (k := k) (rp r (fun j => G r j + 1 * G s j) G) (-1) hs hr (Ne.symm hrs)
  have h3 := Rw.add (k := k) (rp s (fun j => rp r (fun j => G r j + 1 * G s j) G s j + -1 * rp r (fun j => G r j + 1 * G s j) G r j) (rp r (fun j => G r j + 1 * G s j) G)) 1 hr hs hrs
  have h4 := (h3.trans h2).trans h1
  refine Rw.congr ((Rw.neg _ hs).trans h4) (fun i hi j => ?_)
  simp only [rp]
  by_cases e1 : i = r
  · subst e1; simp only [if_true, if_neg hrs, if_neg (Ne.symm hrs)]; omega
  · by_cases e2 : i = s
    · subst e2; simp only [if_true, if_neg e1]; omega
    · simp only [if_neg e1, if_neg e2]
theorem Rw.ro {k : Nat} {F G : Nat → Nat → Int} (h : Rw k F G) : RO k F G := by
  refine h (fun H => RO k H G) (fun H r s x h1 hr hs hrs => (RO.add H x hr hs hrs).trans h1) (fun H r h1 hr => (RO.neg H hr).trans h1) (fun H K h1 e => h1.congr (fun r hr => funext (e r hr))) (RO.refl k G)
/-- What holds of sums of multiples. -/
theorem Rw.all {k : Nat} {F G : Nat → Nat → Int} (h : Rw k F G) (P : (Nat → Int) → Prop) (hadd : ∀ u v x, P u → P v → P (fun j => u j + x * v j)) (hneg : ∀ u, P u → P (fun j => -u j)) (hG : ∀ r, r < k → P (G r)) : ∀ r, r < k → P (F r) := by
  refine h (fun H => ∀ r, r < k → P (H r)) (fun H r s x h1 hr hs hrs i hi => ?_) (fun H r h1 hr i hi => ?_) (fun H K h1 e r hr => ?_) hG
  · by_cases e : i = r
    · subst e
      have e2 : rp i (fun j => H i j + x * H s j) H i = (fun j => H i j + x * H s j) := by funext j; simp [rp]
      rw [e2]; exact hadd _ _ x (h1 i hr) (h1 s hs)
    · have e2 : rp r (fun j => H r j + x * H s j) H i = H i := by funext j; simp [rp, e]
      rw [e2]; exact h1 i hi
  · by_cases e : i = r
    · subst e
      have e2 : rp i (fun j => -H i j) H i = (fun j => -H i j) := by funext j; simp [rp]
      rw [e2]; exact hneg _ (h1 i hr)
    · have e2 : rp r (fun j => -H r j) H i = H i := by funext j; simp [rp, e]
      rw [e2]; exact h1 i hi
  · rw [show K r = H r from funext (e r hr)]; exact h1 r hr
/-- On more rows. -/
theorem Rw.more {k n : Nat} {F G : Nat → Nat → Int} (h : Rw k F G) (hk : k ≤ n) (E : Nat → Nat → Int) : Rw n (fun r => if r < k then F r else E r) (fun r => if r < k then G r else E r) := by
  refine h (fun H => Rw n (fun r => if r < k then H r else E r) (fun r => if r < k then G r else E r)) (fun H r s x h1 hr hs hrs => ?_) (fun H r h1 hr => ?_) (fun H K h1 e => ?_) (Rw.refl _ _)
  · refine Rw.congr ((Rw.add (k := n) (fun r => if r < k then H r else E r) x (show r < n by omega) (show s < n by omega) hrs).trans h1) (fun i hi j => ?_)
    simp only [rp]
    by_cases e : i = r
    · subst e; simp [rp, hr, hs]
    · simp only [e, if_false]
      by_cases g : i < k
      · simp [rp, g, e]
      · simp [g]
  · refine Rw.congr ((Rw.neg (k := n) (fun r => if r < k then H r else E r) (show r < n by omega)).trans h1) (fun i hi j => ?_)
    simp only [rp]
    by_cases e : i = r
    · subst e; simp [rp, hr]
    · simp only [e, if_false]
      by_cases g : i < k
      · simp [rp, g, e]
      · simp [g]
  · refine h1.congr (fun i hi j => ?_)
    by_cases g : i < k
    · simp only [if_pos g]; exact e i g j
    · simp only [if_neg g]
/-- A row put in at a place, in place of behind. -/
theorem Rw.ins {k : Nat} (F : Nat → Nat → Int) (v : Nat → Int) : ∀ d, d ≤ k → Rw (k + 1) (ins (k - d) v F) (rp k v F) := by
  intro d
  induction d with
  | zero =>
    intro _
    refine (Rw.refl (k + 1) (rp k v F)).congr (fun r hr j => ?_)
    unfold DtM.ins rp
    by_cases g : r = k
    · subst g; simp
    · simp [g, show r < k by omega]
  | succ d ih =>
    intro hd
    have h1 := ih (by omega)
    have h2 := Rw.swap (k := k + 1) (r := k - (d + 1)) (s := k - (d + 1) + 1) (DtM.ins (k - d) v F) (by omega) (by omega) (by omega)
    refine Rw.congr (h2.trans h1) (fun r hr j => ?_)
    simp only [DtM.ins, rp]
    by_cases g1 : r < k - (d + 1)
    · simp [g1, show r ≠ k - (d + 1) by omega, show r ≠ k - (d + 1) + 1 by omega, show r < k - d by omega]
    · by_cases g2 : r = k - (d + 1)
      · subst g2
        simp [show ¬ k - (d + 1) + 1 < k - d by omega, show k - (d + 1) + 1 = k - d by omega]
      · by_cases g3 : r = k - (d + 1) + 1
        · subst g3
          simp [show k - (d + 1) < k - d by omega, show ¬ k - (d + 1) + 1 < k - (d + 1) by omega, show k - (d + 1) + 1 ≠ k - (d + 1) by omega]
        · simp [g1, g2, g3, show ¬ r < k - d by omega, show r ≠ k - d by omega]
/-- Two rows that go Euclid's way. -/
def Eu (x y x' y' : Nat → Int) : Prop := ∀ R : (Nat → Int) → (Nat → Int) → Prop, (∀ a b t, R a b → R b (fun j => a j - t * b j)) → (∀ a b, R a b → R (fun j => -a j) b) → R x y → R x' y'
theorem Eu.refl (x y : Nat → Int) : Eu x y x y := fun _ _ _ h => h
theorem Eu.step {x y a b : Nat → Int} (h : Eu x y a b) (t : Int) : Eu x y b (fun j => a j - t * b j) := fun R h1 h2 h3 => h1 _ _ t (h R h1 h2 h3)
theorem Eu.turn {x y a b : Nat → Int} (h : Eu x y a b) : Eu x y (fun j => -a j) b := fun R h1 h2 h3 => h2 _ _ (h R h1 h2 h3)
theorem Eu.rw {k r s : Nat} (G : Nat → Nat → Int) (hr : r < k) (hs : s < k) (hrs : r ≠ s) {x' y' : Nat → Int} (h : Eu (G r) (G s) x' y') : Rw k (rp r x' (rp s y' G)) G := by
  refine h (fun a b => Rw k (rp r a (rp s b G)) G) (fun a b t h1 => ?_) (fun a b h1 => ?_) ?_
  · have h2 := Rw.add (k := k) (rp r a (rp s b G)) (-t) hr hs hrs
    have h3 := Rw.swap (k := k) (rp r (fun j => rp r a (rp s b G) r j + -t * rp r a (rp s b G) s j) (rp r a (rp s b G))) hr hs hrs
    refine Rw.congr ((h3.trans h2).trans h1) (fun i hi j => ?_)
    simp only [rp]
    by_cases e1 : i = r
    · subst e1; simp [hrs, Ne.symm hrs]
    · by_cases e2 : i = s
      · subst e2; simp [e1, Int.neg_mul, Int.sub_eq_add_neg]
      · simp [e1, e2]
  · refine Rw.congr ((Rw.neg (k := k) (rp r a (rp s b G)) hr).trans h1) (fun i hi j => ?_)
    simp only [rp]
    by_cases e1 : i = r
    · subst e1; simp
    · simp [e1]
  · refine Rw.congr (Rw.refl k G) (fun i hi j => ?_)
    simp only [rp]
    by_cases e1 : i = r
    · subst e1; simp
    · by_cases e2 : i = s
      · subst e2; simp [e1]
      · simp [e1, e2]
theorem Eu.all {x y x' y' : Nat → Int} (h : Eu x y x' y') (P : (Nat → Int) → Prop) (hsub : ∀ u v t, P u → P v → P (fun j => u j - t * v j)) (hneg : ∀ u, P u → P (fun j => -u j)) (hx : P x) (hy : P y) : P x' ∧ P y' :=
  h (fun a b => P a ∧ P b) (fun a b t h1 => ⟨h1.2, hsub _ _ t h1.1 h1.2⟩) (fun a b h1 => ⟨hneg _ h1.1, h1.2⟩) ⟨hx, hy⟩
/-- What is left by a quotient that is rounded down has the divisor's sign. -/
theorem fd_rest (x y : Int) (hy : y ≠ 0) : (x - x.fdiv y * y).natAbs < y.natAbs ∧ (0 ≤ y → 0 ≤ x - x.fdiv y * y) ∧ (y ≤ 0 → x - x.fdiv y * y ≤ 0) := by
  have e := Int.mul_fdiv_add_fmod x y
  have e2 : x - x.fdiv y * y = x.fmod y := by rw [Int.mul_comm]; omega
  rw [e2]
  rcases Int.lt_or_gt_of_ne hy with h | h
  · have h1 : (x.fmod y) = -((-x).fmod (-y)) := by
      have := Int.neg_fmod_neg (-x) (-y)
      rw [Int.neg_neg, Int.neg_neg] at this
      exact this
    have h2 := Int.fmod_nonneg_of_pos (-x) (show 0 < -y by omega)
    have h3 := Int.fmod_lt_of_pos (-x) (show 0 < -y by omega)
    rw [h1]; omega
  · have h2 := Int.fmod_nonneg_of_pos x h
    have h3 := Int.fmod_lt_of_pos x h
    omega
theorem fd_less (x y : Int) (hy : y ≠ 0) (hs : (0 ≤ x ∧ 0 ≤ y) ∨ (x ≤ 0 ∧ y ≤ 0)) : 0 ≤ x.fdiv y ∧ (x - x.fdiv y * y).natAbs + (x.fdiv y).natAbs * y.natAbs = x.natAbs := by
  have h1 := fd_rest x y hy
  have hq : 0 ≤ x.fdiv y := by
    rcases hs with h | h
    · exact Int.fdiv_nonneg h.1 h.2
    · have := Int.fdiv_nonneg (a := -x) (b := -y) (by omega) (by omega)
      rwa [Int.neg_fdiv_neg] at this
  refine ⟨hq, ?_⟩
  rw [← Int.natAbs_mul]
  generalize hp : x.fdiv y * y = p at *
  rcases hs with h | h
  · have : 0 ≤ p := by rw [← hp]; exact Int.mul_nonneg hq h.2
    have := h1.2.1 h.2; omega
  · have : p ≤ 0 := by rw [← hp]; exact Int.mul_nonpos_of_nonneg_of_nonpos hq h.2
    have := h1.2.2 h.2; omega
/-- With this, what two rows reach does not grow. -/
theorem eu_less (xj yj xc yc : Int) (t : Int) (ht : (xc - t * yc).natAbs + t.natAbs * yc.natAbs = xc.natAbs) : yj.natAbs * (xc - t * yc).natAbs + (xj - t * yj).natAbs * yc.natAbs ≤ xj.natAbs * yc.natAbs + yj.natAbs * xc.natAbs := by
  have h1 : (xj - t * yj).natAbs ≤ xj.natAbs + t.natAbs * yj.natAbs := by
    rw [← Int.natAbs_mul]; have := Int.natAbs_sub_le xj (t * yj); omega
  have h2 := Nat.mul_le_mul_right yc.natAbs h1
  rw [Nat.add_mul] at h2
  rw [← ht, Nat.mul_add]
  have h3 : t.natAbs * yj.natAbs * yc.natAbs = yj.natAbs * (t.natAbs * yc.natAbs) := by
    rw [Nat.mul_comm t.natAbs, Nat.mul_assoc]
  omega
end Go.Proofs.YtnkjadpmigpneaaGreatDoor.DtM
end
