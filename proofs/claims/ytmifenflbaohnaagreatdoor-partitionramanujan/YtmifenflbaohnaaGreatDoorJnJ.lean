import Derived.Test.YtmifenflbaohnaaGreatDoorJnF
import Derived.Test.YtmifenflbaohnaaGreatDoorJnI
section
/- Plain facts: Knuth's division by words: the guess of a digit, and what is taken away. Nothing of the program's run. -/
set_option linter.unusedSimpArgs false
set_option linter.unusedVariables false
set_option maxRecDepth 100000
namespace Go.Proofs.YtmifenflbaohnaaGreatDoor.MathD

/-- A guess q with its rest r; gs is the digit that is sought. -/
structure Kg (u v1 gs q r : Nat) : Prop where
  lin : q * v1 + r = u
  up : gs ≤ q

theorem kg_step {u v1 v0 n gs q r : Nat} (h : Kg u v1 gs q r) (hgs : gs < 4294967296) (hH : gs * (v1 * 4294967296 + v0) ≤ u * 4294967296 + n) (hc : 4294967296 ≤ q ∨ 4294967296 * r + n < q * v0) :
    1 ≤ q ∧ Kg u v1 gs (q - 1) (r + v1) := by
  have hlin := h.lin
  have hlt : gs < q := by
    rcases hc with hc | hc
    · omega
    · rcases Nat.lt_or_ge gs q with c | c
      · exact c
      · have h1 : q * (v1 * 4294967296 + v0) ≤ gs * (v1 * 4294967296 + v0) := Nat.mul_le_mul_right _ c
        have e : q * (v1 * 4294967296 + v0) = q * v1 * 4294967296 + q * v0 := by rw [Nat.mul_add, Nat.mul_assoc]
        rw [e] at h1; omega
  refine ⟨by omega, ?_, by omega⟩
  obtain ⟨k, rfl⟩ : ∃ k, q = k + 1 := ⟨q - 1, by omega⟩
  rw [Nat.add_mul] at hlin
  simp only [Nat.add_sub_cancel]; omega

theorem kg_low {u v1 v0 gs q r : Nat} (h : Kg u v1 gs q r) (hu : u ≤ v1 * 4294967296 + v0) (h0 : v0 < 4294967296) (hr : 4294967296 ≤ r) : q < 4294967296 := by
  have hlin := h.lin
  rcases Nat.lt_or_ge q 4294967296 with c | c
  · exact c
  · have : 4294967296 * v1 ≤ q * v1 := Nat.mul_le_mul_right _ c
    omega

theorem kg_end {u v1 v0 n gs q r : Nat} (h : Kg u v1 gs q r) (hu : u ≤ v1 * 4294967296 + v0) (h0 : v0 < 4294967296) (hc : (q < 4294967296 ∧ q * v0 ≤ 4294967296 * r + n) ∨ 4294967296 ≤ r) :
    gs ≤ q ∧ q < 4294967296 ∧ q * (v1 * 4294967296 + v0) ≤ u * 4294967296 + n := by
  have hlin := h.lin
  have hq : q < 4294967296 := by
    rcases hc with hc | hc
    · exact hc.1
    · exact kg_low h hu h0 hc
  have hc' : q * v0 ≤ 4294967296 * r + n := by
    rcases hc with hc | hc
    · exact hc.2
    · have := Nat.mul_le_mul (show q ≤ 4294967295 by omega) (show v0 ≤ 4294967295 by omega)
      omega
  refine ⟨h.up, hq, ?_⟩
  rw [Nat.mul_add, ← Nat.mul_assoc]; omega

/-- The guess is at most one too great. -/
theorem guess_near {T H p lv lw q V W : Nat} (hV : V = T * p + lv) (hW : W = H * p + lw) (hlv : lv < p) (hT : 4294967296 ≤ T) (hq : q < 4294967296) (h : q * T ≤ H) : q * V < W + V := by
  subst hV hW
  have e1 : q * (T * p + lv) = q * T * p + q * lv := by rw [Nat.mul_add, Nat.mul_assoc]
  have e2 : q * T * p ≤ H * p := Nat.mul_le_mul_right _ h
  have e3 : q * lv ≤ 4294967296 * lv := Nat.mul_le_mul_right _ (by omega)
  have e4 : 4294967296 * p ≤ T * p := Nat.mul_le_mul_right _ hT
  omega

/-- The digit sought fits the first words. -/
theorem digit_fits {T H p lv lw gs V W : Nat} (hV : V = T * p + lv) (hW : W = H * p + lw) (hlw : lw < p) (h : gs * V ≤ W) : gs * T ≤ H := by
  subst hV hW
  have e1 : gs * T * p ≤ gs * (T * p + lv) := by rw [Nat.mul_assoc]; exact Nat.mul_le_mul_left _ (by omega)
  rcases Nat.lt_or_ge H (gs * T) with c | c
  · have : (H + 1) * p ≤ gs * T * p := Nat.mul_le_mul_right _ c
    rw [Nat.add_mul] at this; omega
  · exact c

theorem first_le {T H h u2 p lv lw V W : Nat} (hV : V = T * p + lv) (hW : W = H * p + lw) (hlv : lv < p) (hH : H = h * 4294967296 + u2) (hlt : W < 4294967296 * V) : h ≤ T := by
  subst hV hW hH
  rcases Nat.lt_or_ge T h with c | c
  · have h1 : (T + 1) * 4294967296 ≤ h * 4294967296 := Nat.mul_le_mul_right _ c
    have h2 : (T + 1) * 4294967296 * p ≤ (h * 4294967296 + u2) * p := Nat.mul_le_mul_right p (Nat.le_trans h1 (Nat.le_add_right _ _))
    have h3 : (T + 1) * 4294967296 * p = 4294967296 * (T * p + p) := by rw [Nat.mul_right_comm, Nat.mul_comm _ 4294967296, Nat.add_mul, Nat.one_mul]
    have h4 : 4294967296 * (T * p + lv) ≤ 4294967296 * (T * p + p) := Nat.mul_le_mul_left _ (by omega)
    omega
  · exact c

/-- One round of taking away. -/
theorem take_step (Y : List Nat) (i g c d x vi y d2 S T : Nat) (h : Y.length = i) (hv : val Y + g * T = S + pw i * (c + d)) (hy : y + (c + g * vi) % 4294967296 + d = x + 4294967296 * d2) :
    val (Y ++ [y]) + g * (T + pw i * vi) = (S + pw i * x) + pw (i + 1) * ((c + g * vi) / 4294967296 + d2) := by
  have e1 : val (Y ++ [y]) = val Y + pw i * y := by rw [val_append, h]; simp [val]
  have e2 : pw (i + 1) * ((c + g * vi) / 4294967296 + d2) = pw i * (4294967296 * ((c + g * vi) / 4294967296 + d2)) := by
    show 4294967296 * pw i * _ = _
    rw [Nat.mul_comm 4294967296 (pw i), Nat.mul_assoc]
  have e3 : g * (T + pw i * vi) = g * T + pw i * (g * vi) := by rw [Nat.mul_add, Nat.mul_left_comm]
  have hdm := Nat.div_add_mod (c + g * vi) 4294967296
  have e4 : pw i * (y + g * vi + (c + d)) = pw i * (x + 4294967296 * ((c + g * vi) / 4294967296 + d2)) := by
    congr 1
    omega
  have e5 : pw i * (y + g * vi + (c + d)) = pw i * y + pw i * (g * vi) + pw i * (c + d) := by rw [Nat.mul_add, Nat.mul_add]
  have e6 : pw i * (x + 4294967296 * ((c + g * vi) / 4294967296 + d2)) = pw i * x + pw i * (4294967296 * ((c + g * vi) / 4294967296 + d2)) := Nat.mul_add ..
  rw [e1, e2, e3]
  omega

/-- Nothing is left over above: the guess was right. -/
theorem take_right {X Y : List Nat} {n g c d xn V W gs : Nat} (hv : val Y + g * V = val X + pw n * (c + d)) (hW : W = val X + pw n * xn) (hVn : V < pw n) (hge : c + d ≤ xn) (h1 : gs ≤ g) (h2 : W < (gs + 1) * V) (h3 : gs * V ≤ W) :
    xn = c + d ∧ g = gs ∧ val Y = W - gs * V ∧ val Y < V := by
  have e1 : pw n * xn = pw n * (xn - (c + d)) + pw n * (c + d) := by rw [← Nat.mul_add]; congr 1; omega
  have h4 : W = val Y + g * V + pw n * (xn - (c + d)) := by rw [hW, e1]; omega
  have h5 : (gs + 1) * V = gs * V + V := by rw [Nat.add_mul, Nat.one_mul]
  have h6 : gs * V ≤ g * V := Nat.mul_le_mul_right _ h1
  have h7 : xn - (c + d) = 0 := by
    rcases Nat.eq_zero_or_pos (xn - (c + d)) with k | k
    · exact k
    · have : pw n * 1 ≤ pw n * (xn - (c + d)) := Nat.mul_le_mul_left _ k
      omega
  have h8 : g = gs := by
    rcases Nat.lt_or_ge gs g with k | k
    · have : (gs + 1) * V ≤ g * V := Nat.mul_le_mul_right _ k
      omega
    · omega
  subst h8
  rw [h7, Nat.mul_zero] at h4
  exact ⟨by omega, rfl, by omega, by omega⟩

/-- Too much was taken away: the guess was one too great; V is put back once. -/
theorem take_back {X Y Y2 : List Nat} {n g c d xn V W gs k : Nat} (hv : val Y + g * V = val X + pw n * (c + d)) (hW : W = val X + pw n * xn) (hVn : V < pw n) (hlt : xn < c + d) (hY : val Y < pw n) (h1 : gs ≤ g) (hn : g * V < W + V) (h2 : W < (gs + 1) * V) (h3 : gs * V ≤ W)
    (hb : val Y + V = val Y2 + pw n * k) (hY2 : val Y2 < pw n) : g = gs + 1 ∧ xn + k = c + d ∧ val Y2 = W - gs * V ∧ val Y2 < V := by
  have e1 : pw n * (c + d) = pw n * (c + d - xn) + pw n * xn := by rw [← Nat.mul_add]; congr 1; omega
  have h4 : W + pw n * (c + d - xn) = val Y + g * V := by rw [hW]; omega
  have h5 : (gs + 1) * V = gs * V + V := by rw [Nat.add_mul, Nat.one_mul]
  have e2 : pw n * 1 ≤ pw n * (c + d - xn) := Nat.mul_le_mul_left _ (by omega)
  have h6 : g = gs + 1 := by
    rcases Nat.lt_trichotomy g (gs + 1) with q | q | q
    · have : g = gs := by omega
      subst this; omega
    · exact q
    · have : (gs + 2) * V ≤ g * V := Nat.mul_le_mul_right _ q
      have h7 : (gs + 2) * V = gs * V + V + V := by rw [Nat.add_mul, Nat.two_mul]; omega
      omega
  subst h6
  rw [h5] at h4
  have h8 : W + pw n * (c + d - xn) = gs * V + val Y2 + pw n * k := by omega
  have h9 : c + d - xn = k := by
    rcases Nat.lt_trichotomy (c + d - xn) k with q | q | q
    · have e3 : pw n * (c + d - xn + 1) ≤ pw n * k := Nat.mul_le_mul_left _ q
      rw [Nat.mul_add, Nat.mul_one] at e3
      omega
    · exact q
    · have e3 : pw n * (k + 1) ≤ pw n * (c + d - xn) := Nat.mul_le_mul_left _ q
      rw [Nat.mul_add, Nat.mul_one] at e3
      omega
  rw [h9] at h8
  exact ⟨rfl, by omega, by omega, by omega⟩

/-- A place of a row in three parts. -/
theorem set_pos (P Y : List Nat) (x y : Nat) (R : List Nat) (j i : Nat) (hP : P.length = j) (hY : Y.length = i) : (P ++ (Y ++ (x :: R))).set (j + i) y = P ++ ((Y ++ [y]) ++ R) := by
  subst hP hY
  rw [List.set_append_right _ _ (by omega), List.set_append_right _ _ (by omega)]
  simp
theorem getD_pos (P Y : List Nat) (x : Nat) (R : List Nat) (j i : Nat) (hP : P.length = j) (hY : Y.length = i) : (P ++ (Y ++ (x :: R))).getD (j + i) 0 = x := by
  subst hP hY
  rw [List.getD_eq_getElem?_getD, List.getElem?_append_right (by omega), List.getElem?_append_right (by omega)]
  simp

end Go.Proofs.YtmifenflbaohnaaGreatDoor.MathD
end

section
/- The contract of div of words where the divisor is greater, or both are short, or the divisor is one word. -/
set_option linter.unusedSimpArgs false
set_option linter.unusedVariables false
set_option maxRecDepth 100000
namespace Go.Proofs.YtmifenflbaohnaaGreatDoor
open Go.RowKit

theorem Below.alloc_self' (w : World) (o : Obj) : Below w.heap.size w (w.alloc o) := Below.alloc (Below.refl _ _) (Nat.le_refl _) _

theorem NS.nil (w : World) : NS w (.slice none 0 0) 0 := ⟨[], ⟨by simp, Or.inl ⟨rfl, rfl⟩⟩, rfl, Or.inl rfl⟩

set_option maxHeartbeats 4000000 in
set_option maxRecDepth 100000 in
theorem div_less (s t : Value) (a b m n : Nat) (w : World) (ha : NS w s a) (hb : NS w t b) (hm : a < pw m) (hn : b < pw n) (hm' : m ≤ 100000000) (hn' : n ≤ 100000000) (hab : a < b) :
    Calls Tryz.prog 52 #[s, t] w fun e w' => ∃ q r, e = .returned (.tuple #[q, r]) ∧ NS w' q (a / b) ∧ NS w' r (a % b) ∧ Below w.heap.size w w' := by
  obtain ⟨xa, xl, xc, rfl, _⟩ := ha.shape
  obtain ⟨ya, yl, yc, rfl, hyl⟩ := hb.shape
  have HA : Hid (NS w (.slice xa xl xc) a) := ha
  have HB : Hid (NS w (.slice ya yl yc) b) := hb
  have HM : Hid (a < pw m) := hm
  have HN : Hid (b < pw n) := hn
  have t0 : ((yl : Int) == 0) = false := beq_eq_false_iff_ne.2 (by omega)
  have HE : Hid (a / b = 0 ∧ a % b = a) := ⟨Nat.div_eq_of_lt hab, Nat.mod_eq_of_lt hab⟩
  rw [HE.out.1, HE.out.2]
  have hc : cmpN a b = -1 := cmpN_lt hab
  clear ha hb hm hn hyl
  go_enter Tryz.func52, Tryz.ntmps52
  go_wp2_with fail
  refine (cmp_any _ _ a b m n w HA.out HB.out HM.out HN.out hm' hn').mono ?_
  rw [hc]
  rintro e w1 ⟨rfl, nq, rfl⟩
  clear hc
  go_wp2_with fail
  refine (twin_any _ a m _ HA.out.drewN HM.out hm').mono ?_
  rintro e w1 ⟨r, rfl, hr, hbl⟩
  go_wp2
  go_ret2
  exact ⟨_, r, rfl, NS.nil _, hr, (below_drewN' (Below.refl _ _)).trans hbl⟩

theorem NS.short {w : World} {aa : Option Addr} {len cap a : Nat} (h : NS w (.slice aa len cap) a) : (len ≤ 2 ↔ a < 18446744073709551616) ∧ (len = 1 → a < 4294967296) ∧ (len = 0 ↔ a = 0) := by
  obtain ⟨l, aa', g, cap', e, va, na, sa, _, _, _, _⟩ := h.open
  simp at e
  obtain ⟨rfl, rfl, rfl⟩ := e
  subst va
  refine ⟨⟨fun h => ?_, fun h => ?_⟩, fun h => ?_, ?_⟩
  · have := val_lt l sa
    have h2 := pw_le h
    rw [pw_two] at h2; omega
  · exact na.len (by rw [pw_two]; exact h)
  · have := val_lt l sa
    rw [h] at this; simpa [pw] using this
  · rw [List.length_eq_zero_iff]; exact na.nil_iff

set_option maxHeartbeats 4000000 in
set_option maxRecDepth 100000 in
theorem div_short (s t : Value) (a b m n : Nat) (w : World) (ha : NS w s a) (hb : NS w t b) (hm : a < pw m) (hn : b < pw n) (hm' : m ≤ 100000000) (hn' : n ≤ 100000000) (hab : b ≤ a) (hb0 : 0 < b) (h64 : a < 18446744073709551616) :
    Calls Tryz.prog 52 #[s, t] w fun e w' => ∃ q r, e = .returned (.tuple #[q, r]) ∧ NS w' q (a / b) ∧ NS w' r (a % b) ∧ Below w.heap.size w w' := by
  obtain ⟨xa, xl, xc, rfl, _⟩ := ha.shape
  obtain ⟨ya, yl, yc, rfl, hyl⟩ := hb.shape
  have hx2 := ha.short.1.2 h64
  have HA : Hid (NS w (.slice xa xl xc) a) := ha
  have HB : Hid (NS w (.slice ya yl yc) b) := hb
  have HM : Hid (a < pw m) := hm
  have HN : Hid (b < pw n) := hn
  have t0 : ((yl : Int) == 0) = false := beq_eq_false_iff_ne.2 (by omega)
  have hc : 0 ≤ cmpN a b := by unfold cmpN; split <;> (try split) <;> omega
  have hq : a / b ≤ a := Nat.div_le_self ..
  have hr : a % b ≤ a := Nat.mod_le ..
  have eq1 : (a : Int) / (b : Int) = ((a / b : Nat) : Int) := (Int.natCast_ediv ..).symm
  have er1 : (a : Int) % (b : Int) = ((a % b : Nat) : Int) := (Int.natCast_emod ..).symm
  obtain ⟨q, gq⟩ : ∃ q, q = a / b := ⟨_, rfl⟩
  obtain ⟨r, gr⟩ : ∃ r, r = a % b := ⟨_, rfl⟩
  rw [← gq] at hq eq1 ⊢
  rw [← gr] at hr er1 ⊢
  have t1 : ((b : Int) == 0) = false := beq_eq_false_iff_ne.2 (by omega)
  have hab64 : (a : Int) ≤ 18446744073709551615 := by omega
  clear ha hb hm hn hyl gq gr
  go_enter Tryz.func52, Tryz.ntmps52
  go_wp2_with fail
  refine (cmp_any _ _ a b m n w HA.out HB.out HM.out HN.out hm' hn').mono ?_
  rintro e w1 ⟨rfl, hw1⟩
  have A1 : Hid (NS w1 (.slice xa xl xc) a) := by obtain ⟨k, rfl⟩ := hw1; exact HA.out.drewN
  have B1 : Hid (NS w1 (.slice ya yl yc) b) := by obtain ⟨k, rfl⟩ := hw1; exact HB.out.drewN
  have K1 : Hid (Below w.heap.size w w1) := by obtain ⟨k, rfl⟩ := hw1; exact below_drewN' (Below.refl _ _)
  clear hw1
  go_wp2_with fail
  refine (plain_any _ a w1 A1.out h64).mono ?_
  rintro e w2 ⟨rfl, hw2⟩
  have B2 : Hid (NS w2 (.slice ya yl yc) b) := by obtain ⟨k, rfl⟩ := hw2; exact B1.out.drewN
  have K2 : Hid (Below w.heap.size w w2) := by obtain ⟨k, rfl⟩ := hw2; exact below_drewN' K1.out
  clear hw2 A1 B1 K1
  go_wp2_with fail
  refine (plain_any _ b w2 B2.out (by omega)).mono ?_
  rintro e w3 ⟨rfl, hw3⟩
  have K3 : Hid (Below w.heap.size w w3) := by obtain ⟨k, rfl⟩ := hw3; exact below_drewN' K2.out
  clear hw3 B2 K2
  go_wp2
  have hbne : ¬ b = 0 := by omega
  have emt : (a : Int).tmod (b : Int) = (r : Int) := (Int.tmod_eq_emod_of_nonneg (by omega)).trans er1
  have hw1 : IntKind.u64.wrap (q : Int) = (q : Int) := wrapN q (by omega)
  have hw2 : IntKind.u64.wrap (r : Int) = (r : Int) := wrapN r (by omega)
  refine wp_region_G (fun _ => True) 9 (by kernel_rfl) trivial (fun hHeld => ?_)
  refine wpAnyG_take (i := 0) (v := ?v0) rfl (by kernel_rfl) (fun _ _ _ h => h) (Or.inl ⟨by rfl, ?y0⟩) hHeld ?r0
  case y0 => (intro wS hSw; obtain _ := hSw; go_simp; try with_reducible rfl)
  try simp only [Act.put, List.setIfInBounds_toArray, List.set_cons_zero, List.set_cons_succ]
  refine wpAnyG_take (i := 1) (v := ?v1) rfl (by kernel_rfl) (fun _ _ _ h => h) (Or.inl ⟨by rfl, ?y1⟩) hHeld ?r1
  case y1 => (intro wS hSw; obtain _ := hSw; go_simp; try with_reducible rfl)
  try simp only [Act.put, List.setIfInBounds_toArray, List.set_cons_zero, List.set_cons_succ]
  refine wpAnyG_take (i := 2) (v := ?v2) rfl (by kernel_rfl) (fun _ _ _ h => h) (Or.inl ⟨by rfl, ?y2⟩) hHeld ?r2
  case y2 => (intro wS hSw; obtain _ := hSw; go_simp; try with_reducible rfl)
  try simp only [Act.put, List.setIfInBounds_toArray, List.set_cons_zero, List.set_cons_succ]
  refine wpAnyG_take (i := 4) (v := ?v4) rfl (by kernel_rfl) (fun _ _ _ h => h) (Or.inl ⟨by rfl, ?y4⟩) hHeld ?r4
  case y4 => (intro wS hSw; obtain _ := hSw; go_simp; try with_reducible rfl)
  try simp only [Act.put, List.setIfInBounds_toArray, List.set_cons_zero, List.set_cons_succ]
  refine wpAnyG_take (i := 5) (v := ?v5) rfl (by kernel_rfl) (fun _ _ _ h => h) (Or.inl ⟨by rfl, ?y5⟩) hHeld ?r5
  case y5 => (intro wS hSw; obtain _ := hSw; go_simp; try with_reducible rfl)
  try simp only [Act.put, List.setIfInBounds_toArray, List.set_cons_zero, List.set_cons_succ]
  refine wpAnyG_take (i := 6) (v := ?v6) rfl (by kernel_rfl) (fun _ _ _ h => h) (Or.inl ⟨by rfl, ?y6⟩) hHeld ?r6
  case y6 => (intro wS hSw; obtain _ := hSw; go_simp; try with_reducible rfl)
  try simp only [Act.put, List.setIfInBounds_toArray, List.set_cons_zero, List.set_cons_succ]
  refine wpAnyG_one (i := 3) rfl (by kernel_rfl) (fun K hK => ?_)
  go_simp
  refine (words_any q (by omega) _).mono ?_
  rintro e w4 ⟨s4, rfl, n4, k4⟩
  obtain ⟨pa, pl, pc, rfl, _⟩ := n4.shape
  refine hK.out _ _ trivial ?_
  clear hK K
  try simp only [Act.put, List.setIfInBounds_toArray, List.set_cons_zero, List.set_cons_succ]
  refine wpAnyG_one (i := 7) rfl (by kernel_rfl) (fun K hK => ?_)
  go_simp
  refine (words_any r (by omega) _).mono ?_
  rintro e w5 ⟨s5, rfl, n5, k5⟩
  obtain ⟨ra, rl, rc, rfl, _⟩ := n5.shape
  refine hK.out _ _ trivial ?_
  clear hK K
  try simp only [Act.put, List.setIfInBounds_toArray, List.set_cons_zero, List.set_cons_succ]
  refine wpAnyG_one (i := 8) rfl (by kernel_rfl) (fun K hK => ?_)
  go_simp
  refine hK.out _ _ trivial ?_
  clear hK K
  try simp only [Act.put, List.setIfInBounds_toArray, List.set_cons_zero, List.set_cons_succ]
  refine wpAnyG_last (i := 9) rfl (by kernel_rfl) (by kernel_rfl) (fun K hK => ?_)
  go_simp
  refine hK.out _ _ ?_
  clear hK K
  try simp only [Act.put, List.setIfInBounds_toArray, List.set_cons_zero, List.set_cons_succ]
  refine wpAnyG_done (by kernel_rfl) ?_ _
  go_wp2
  go_ret2
  have z3 := K3.out.size
  have z4 := k4.size
  refine ⟨_, _, rfl, n4.below k5 (Nat.le_refl _), n5, (K3.out.drew.trans (k4.mono (show w.heap.size ≤ w3.drew.heap.size from z3))).trans (k5.mono (Nat.le_trans (show w.heap.size ≤ w3.drew.heap.size from z3) z4))⟩

set_option maxHeartbeats 4000000 in
set_option maxRecDepth 100000 in
theorem div_word (s t : Value) (a b m n : Nat) (w : World) (ha : NS w s a) (hb : NS w t b) (hm : a < pw m) (hn : b < pw n) (hm' : m ≤ 100000000) (hn' : n ≤ 100000000) (hab : b ≤ a) (hb0 : 0 < b) (h64 : ¬ a < 18446744073709551616) (h32 : b < 4294967296) :
    Calls Tryz.prog 52 #[s, t] w fun e w' => ∃ q r, e = .returned (.tuple #[q, r]) ∧ NS w' q (a / b) ∧ NS w' r (a % b) ∧ Below w.heap.size w w' := by
  obtain ⟨xa, xl, xc, rfl, _⟩ := ha.shape
  have hx2 : ¬ xl ≤ 2 := fun h => h64 (ha.short.1.1 h)
  obtain ⟨l, aa, g, cap, rfl, va, na, sa, pa, cell, _, lt⟩ := hb.open
  have hl1 : l.length ≤ 1 := na.len (by rw [va]; simpa [pw] using h32)
  have hl0 : l.length ≠ 0 := by intro e; have := List.length_eq_zero_iff.1 e; subst this; simp [val] at va; omega
  have hl : l.length = 1 := by omega
  obtain ⟨x, rfl⟩ : ∃ x, l = [x] := List.length_eq_one_iff.1 hl
  obtain rfl : x = b := by simpa [val] using va
  have c0 := cell 0 (by simp)
  simp at c0
  obtain rfl := pa (by simp)
  have HA : Hid (NS w (.slice xa xl xc) a) := ha
  have HB : Hid (NS w (.slice (some ⟨g, 0, none⟩) 1 cap) x) := hb
  have HM : Hid (a < pw m) := hm
  have HN : Hid (x < pw n) := hn
  have hc : 0 ≤ cmpN a x := by unfold cmpN; split <;> (try split) <;> omega
  have hrx : a % x < x := Nat.mod_lt _ hb0
  obtain ⟨r, gr⟩ : ∃ r, r = a % x := ⟨_, rfl⟩
  rw [← gr] at hrx ⊢
  have HR : Hid (a % x = r) := gr.symm
  clear ha hb hm hn cell pa lt na sa va hl hl0 hl1 gr h64
  go_enter Tryz.func52, Tryz.ntmps52
  go_wp2_with fail
  refine (cmp_any _ _ a x m n w HA.out HB.out HM.out HN.out hm' hn').mono ?_
  rintro e w1 ⟨rfl, hw1⟩
  have A1 : Hid (NS w1 (.slice xa xl xc) a) := by obtain ⟨k, rfl⟩ := hw1; exact HA.out.drewN
  have K1 : Hid (Below w.heap.size w w1) := by obtain ⟨k, rfl⟩ := hw1; exact below_drewN' (Below.refl _ _)
  have c1 : w1.cell? ⟨g, 0, none⟩ = some (.int .u32 (x : Int)) := by obtain ⟨k, rfl⟩ := hw1; exact c0
  clear hw1
  go_wp2_with fail
  refine (small_any _ a x m _ A1.out HM.out hm' hb0 h32).mono ?_
  rw [HR.out]
  rintro e w2 ⟨q, rfl, nq, k2⟩
  obtain ⟨qa, ql, qc, rfl, _⟩ := nq.shape
  go_wp2_with fail
  have hsl : Sl (w2.alloc (.cells #[.int .u32 (r : Int)] 86)) (.slice (some ⟨w2.heap.size, 0, none⟩) 1 1) [r] := by
    have := Sl.new w2 [r] (by simp; omega)
    simpa using this
  refine (trim_any [r] _ _ (by simp) hsl).mono ?_
  rw [show val [r] = r by simp [val]]
  rintro e w3 ⟨s', rfl, hns, rfl⟩
  obtain ⟨ra, rl, rc, rfl, _⟩ := hns.shape
  go_wp2
  go_ret2
  have z1 := K1.out.size
  have z2 := k2.size
  exact ⟨_, _, rfl, nq.below (Below.alloc_self' w2 _) (Nat.le_refl _), hns, (K1.out.trans (k2.mono z1)).trans ((Below.alloc_self' w2 _).mono (by omega))⟩

end Go.Proofs.YtmifenflbaohnaaGreatDoor
end
