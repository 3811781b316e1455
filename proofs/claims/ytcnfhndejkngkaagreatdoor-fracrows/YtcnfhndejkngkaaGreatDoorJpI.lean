import Derived.Test.YtcnfhndejkngkaaGreatDoorJpH
section
set_option linter.unusedSimpArgs false
set_option linter.unusedVariables false
set_option maxRecDepth 100000
namespace Go.Proofs.YtcnfhndejkngkaaGreatDoor
open Go.RowKit
theorem Below.alloc_self' (w : World) (o : Obj) : Below w.heap.size w (w.alloc o) := Below.alloc (Below.refl _ _) (Nat.le_refl _) _
theorem NS.nil (w : World) : NS w (.slice none 0 0) 0 := ⟨[], ⟨by simp, Or.inl ⟨rfl, rfl⟩⟩, rfl, Or.inl rfl⟩
set_option maxHeartbeats 4000000 in
set_option maxRecDepth 100000 in
theorem div_less (s t : Value) (a b m n : Nat) (w : World) (ha : NS w s a) (hb : NS w t b) (hm : a < pw m) (hn : b < pw n) (hm' : m ≤ 100000000) (hn' : n ≤ 100000000) (hab : a < b) :
    Calls Tryz.prog 88 #[s, t] w fun e w' => ∃ q r, e = .returned (.tuple #[q, r]) ∧ NS w' q (a / b) ∧ NS w' r (a % b) ∧ Below w.heap.size w w' := by
  obtain ⟨xa, xl, xc, rfl, _⟩ := ha.shape
  obtain ⟨ya, yl, yc, rfl, hyl⟩ := hb.shape
  have HA : Hid (NS w (.slice xa xl xc) a) := ha
  have HB : Hid (NS w (.slice ya yl yc) b) := hb
  have HM : Hid (a < pw m) := hm
  have HN : Hid (b < pw n) := hn
  have t0 : ((yl : Int) == 0) = false := beq_eq_false_iff_ne.2 (by omega)
  have HE : Hid (a / b = 0 ∧ a % b = a) := ⟨Nat.div_eq_of_lt hab, Nat.mod_eq_of_lt hab⟩
  rw [HE.out.1, HE.out.2]
  have hc : cmpN a b = -1 := cmpN_lt hab
  clear ha hb hm hn hyl
  go_enter Tryz.func88, Tryz.ntmps88
  go_wp2_with fail
  refine (cmp_any _ _ a b m n w HA.out HB.out HM.out HN.out hm' hn').mono ?_
  rw [hc]
  rintro e w1 ⟨rfl, nq, rfl⟩
  clear hc
  go_wp2_with fail
  refine (twin_any _ a m _ HA.out.drewN HM.out hm').mono ?_
  rintro e w1 ⟨r, rfl, hr, hbl⟩
  go_wp2
  go_ret2
  exact ⟨_, r, rfl, NS.nil _, hr, (below_drewN' (Below.refl _ _)).trans hbl⟩
theorem NS.short {w : World} {aa : Option Addr} {len cap a : Nat} (h : NS w (.slice aa len cap) a) : (len ≤ 2 ↔ a < 18446744073709551616) ∧ (len = 1 → a < 4294967296) ∧ (len = 0 ↔ a = 0) := by
  obtain ⟨l, aa', g, cap', e, va, na, sa, _, _, _, _⟩ := h.open
  simp at e
  obtain ⟨rfl, rfl, rfl⟩ := e
  subst va
  refine ⟨⟨fun h => ?_, fun h => ?_⟩, fun h => ?_, ?_⟩
  · have := val_lt l sa
    have h2 := pw_le h
    rw [pw_two] at h2; omega
  · exact na.len (by rw [pw_two]; exact h)
  · have := val_lt l sa
    rw [h] at this; simpa [pw] using this
  · rw [List.length_eq_zero_iff]; exact na.nil_iff
set_option maxHeartbeats 4000000 in
set_option maxRecDepth 100000 in
theorem div_short (s t : Value) (a b m n : Nat) (w : World) (ha : NS w s a) (hb : NS w t b) (hm : a < pw m) (hn : b < pw n) (hm' : m ≤ 100000000) (hn' : n ≤ 100000000) (hab : b ≤ a) (hb0 : 0 < b) (h64 : a < 18446744073709551616) :
    Calls Tryz.prog 88 #[s, t] w fun e w' => ∃ q r, e = .returned (.tuple #[q, r]) ∧ NS w' q (a / b) ∧ NS w' r (a % b) ∧ Below w.heap.size w w' := by
  obtain ⟨xa, xl, xc, rfl, _⟩ := ha.shape
  obtain ⟨ya, yl, yc, rfl, hyl⟩ := hb.shape
  have hx2 := ha.short.1.2 h64
  have HA : Hid (NS w (.slice xa xl xc) a) := ha
  have HB : Hid (NS w (.slice ya yl yc) b) := hb
  have HM : Hid (a < pw m) := hm
  have HN : Hid (b < pw n) := hn
  have t0 : ((yl : Int) == 0) = false := beq_eq_false_iff_ne.2 (by omega)
  have hc : 0 ≤ cmpN a b := by unfold cmpN; split <;> (try split) <;> omega
  have hq : a / b ≤ a := Nat.div_le_self ..
  have hr : a % b ≤ a := Nat.mod_le ..
  have eq1 : (a : Int) / (b : Int) = ((a / b : Nat) : Int) := (Int.natCast_ediv ..).symm
  have er1 : (a : Int) % (b : Int) = ((a % b : Nat) : Int) := (Int.natCast_emod ..).symm
  obtain ⟨q, gq⟩ : ∃ q, q = a / b := ⟨_, rfl⟩
  obtain ⟨r, gr⟩ : ∃ r, r = a % b := ⟨_, rfl⟩
  rw [← gq] at hq eq1 ⊢
  rw [← gr] at hr er1 ⊢
  have t1 : ((b : Int) == 0) = false := beq_eq_false_iff_ne.2 (by omega)
  have hab64 : (a : Int) ≤ 18446744073709551615 := by omega
  clear ha hb hm hn hyl gq gr
  go_enter Tryz.func88, Tryz.ntmps88
  go_wp2_with fail
  refine (cmp_any _ _ a b m n w HA.out HB.out HM.out HN.out hm' hn').mono ?_
  rintro e w1 ⟨rfl, hw1⟩
  have A1 : Hid (NS w1 (.slice xa xl xc) a) := by obtain ⟨k, rfl⟩ := hw1; exact HA.out.drewN
  have B1 : Hid (NS w1 (.slice ya yl yc) b) := by obtain ⟨k, rfl⟩ := hw1; exact HB.out.drewN
  have K1 : Hid (Below w.heap.size w w1) := by obtain ⟨k, rfl⟩ := hw1; exact below_drewN' (Below.refl _ _)
  clear hw1
  go_wp2_with fail
  refine (plain_any _ a w1 A1.out h64).mono ?_
  rintro e w2 ⟨rfl, hw2⟩
  have B2 : Hid (NS w2 (.slice ya yl yc) b) := by obtain ⟨k, rfl⟩ := hw2; exact B1.out.drewN
  have K2 : Hid (Below w.heap.size w w2) := by obtain ⟨k, rfl⟩ := hw2; exact below_drewN' K1.out
  clear hw2 A1 B1 K1
  go_wp2_with fail
  refine (plain_any _ b w2 B2.out (by omega)).mono ?_
  rintro e w3 ⟨rfl, hw3⟩
  have K3 : Hid (Below w.heap.size w w3) := by obtain ⟨k, rfl⟩ := hw3; exact below_drewN' K2.out
  clear hw3 B2 K2
  go_wp2
  have hbne : ¬ b = 0 := by omega
  have emt : (a : Int).tmod (b : Int) = (r : Int) := (Int.tmod_eq_emod_of_nonneg (by omega)).trans er1
  have hw1 : IntKind.u64.wrap (q : Int) = (q : Int) := wrapN q (by omega)
  have hw2 : IntKind.u64.wrap (r : Int) = (r : Int) := wrapN r (by omega)
  refine wp_region_G (fun _ => True) 9 (by kernel_rfl) trivial (fun hHeld => ?_)
  refine wpAnyG_take (i := 0) (v := ?v0) rfl (by kernel_rfl) (fun _ _ _ h => h) (Or.inl ⟨by rfl, ?y0⟩) hHeld ?r0
  case y0 => (intro wS hSw; obtain _ := hSw; go_simp; try with_reducible rfl)
  try simp only [Act.put, List.setIfInBounds_toArray, List.set_cons_zero, List.set_cons_succ]
  refine wpAnyG_take (i := 1) (v := ?v1) rfl (by kernel_rfl) (fun _ _ _ h => h) (Or.inl ⟨by rfl, ?y1⟩) hHeld ?r1
  case y1 => (intro wS hSw; obtain _ := hSw; go_simp; try with_reducible rfl)
  try simp only [Act.put, List.setIfInBounds_toArray, List.set_cons_zero, List.set_cons_succ]
  refine wpAnyG_take (i := 2) (v := ?v2) rfl (by kernel_rfl) (fun _ _ _ h => h) (Or.inl ⟨by rfl, ?y2⟩) hHeld ?r2
  case y2 => (intro wS hSw; obtain _ := hSw; go_simp; try with_reducible rfl)
  try simp only [Act.put, List.setIfInBounds_toArray, List.set_cons_zero, List.set_cons_succ]
  refine wpAnyG_take (i := 4) (v := ?v4) rfl (by kernel_rfl) (fun _ _ _ h => h) (Or.inl ⟨by rfl, ?y4⟩) hHeld ?r4
  case y4 => (intro wS hSw; obtain _ := hSw; go_simp; try with_reducible rfl)
  try simp only [Act.put, List.setIfInBounds_toArray, List.set_cons_zero, List.set_cons_succ]
  refine wpAnyG_take (i := 5) (v := ?v5) rfl (by kernel_rfl) (fun _ _ _ h => h) (Or.inl ⟨by rfl, ?y5⟩) hHeld ?r5
  case y5 => (intro wS hSw; obtain _ := hSw; go_simp; try with_reducible rfl)
  try simp only [Act.put, List.setIfInBounds_toArray, List.set_cons_zero, List.set_cons_succ]
  refine wpAnyG_take (i := 6) (v := ?v6) rfl (by kernel_rfl) (fun _ _ _ h => h) (Or.inl ⟨by rfl, ?y6⟩) hHeld ?r6
  case y6 => (intro wS hSw; obtain _ := hSw; go_simp; try with_reducible rfl)
  try simp only [Act.put, List.setIfInBounds_toArray, List.set_cons_zero, List.set_cons_succ]
  refine wpAnyG_one (i := 3) rfl (by kernel_rfl) (fun K hK => ?_)
  go_simp
  refine (words_any q (by omega) _).mono ?_
  rintro e w4 ⟨s4, rfl, n4, k4⟩
  obtain ⟨pa, pl, pc, rfl, _⟩ := n4.shape
  refine hK.out _ _ trivial ?_
  clear hK K
  try simp only [Act.put, List.setIfInBounds_toArray, List.set_cons_zero, List.set_cons_succ]
  refine wpAnyG_one (i := 7) rfl (by kernel_rfl) (fun K hK => ?_)
  go_simp
  refine (words_any r (by omega) _).mono ?_
  rintro e w5 ⟨s5, rfl, n5, k5⟩
  obtain ⟨ra, rl, rc, rfl, _⟩ := n5.shape
  refine hK.out _ _ trivial ?_
  clear hK K
  try simp only [Act.put, List.setIfInBounds_toArray, List.set_cons_zero, List.set_cons_succ]
  refine wpAnyG_one (i := 8) rfl (by kernel_rfl) (fun K hK => ?_)
  go_simp
  refine hK.out _ _ trivial ?_
  clear hK K
  try simp only [Act.put, List.setIfInBounds_toArray, List.set_cons_zero, List.set_cons_succ]
  refine wpAnyG_last (i := 9) rfl (by kernel_rfl) (by kernel_rfl) (fun K hK => ?_)
  go_simp
  refine hK.out _ _ ?_
  clear hK K
  try simp only [Act.put, List.setIfInBounds_toArray, List.set_cons_zero, List.set_cons_succ]
  refine wpAnyG_done (by kernel_rfl) ?_ _
  go_wp2
  go_ret2
  have z3 := K3.out.size
  have z4 := k4.size
  refine ⟨_, _, rfl, n4.below k5 (Nat.le_refl _), n5, (K3.out.drew.trans (k4.mono (show w.heap.size ≤ w3.drew.heap.size from z3))).trans (k5.mono (Nat.le_trans (show w.heap.size ≤ w3.drew.heap.size from z3) z4))⟩
set_option maxHeartbeats 4000000 in
set_option maxRecDepth 100000 in
theorem div_word (s t : Value) (a b m n : Nat) (w : World) (ha : NS w s a) (hb : NS w t b) (hm : a < pw m) (hn : b < pw n) (hm' : m ≤ 100000000) (hn' : n ≤ 100000000) (hab : b ≤ a) (hb0 : 0 < b) (h64 : ¬ a < 18446744073709551616) (h32 : b < 4294967296) :
    Calls Tryz.prog 88 #[s, t] w fun e w' => ∃ q r, e = .returned (.tuple #[q, r]) ∧ NS w' q (a / b) ∧ NS w' r (a % b) ∧ Below w.heap.size w w' := by
  obtain ⟨xa, xl, xc, rfl, _⟩ := ha.shape
  have hx2 : ¬ xl ≤ 2 := fun h => h64 (ha.short.1.1 h)
  obtain ⟨l, aa, g, cap, rfl, va, na, sa, pa, cell, _, lt⟩ := hb.open
  have hl1 : l.length ≤ 1 := na.len (by rw [va]; simpa [pw] using h32)
  have hl0 : l.length ≠ 0 := by intro e; have := List.length_eq_zero_iff.1 e; subst this; simp [val] at va; omega
  have hl : l.length = 1 := by omega
  obtain ⟨x, rfl⟩ : ∃ x, l = [x] := List.length_eq_one_iff.1 hl
  obtain rfl : x = b := by simpa [val] using va
  have c0 := cell 0 (by simp)
  simp at c0
  obtain rfl := pa (by simp)
  have HA : Hid (NS w (.slice xa xl xc) a) := ha
  have HB : Hid (NS w (.slice (some ⟨g, 0, none⟩) 1 cap) x) := hb
  have HM : Hid (a < pw m) := hm
  have HN : Hid (x < pw n) := hn
  have hc : 0 ≤ cmpN a x := by unfold cmpN; split <;> (try split) <;> omega
  have hrx : a % x < x := Nat.mod_lt _ hb0
  obtain ⟨r, gr⟩ : ∃ r, r = a % x := ⟨_, rfl⟩
  rw [← gr] at hrx ⊢
  have HR : Hid (a % x = r) := gr.symm
  clear ha hb hm hn cell pa lt na sa va hl hl0 hl1 gr h64
  go_enter Tryz.func88, Tryz.ntmps88
  go_wp2_with fail
  refine (cmp_any _ _ a x m n w HA.out HB.out HM.out HN.out hm' hn').mono ?_
  rintro e w1 ⟨rfl, hw1⟩
  have A1 : Hid (NS w1 (.slice xa xl xc) a) := by obtain ⟨k, rfl⟩ := hw1; exact HA.out.drewN
  have K1 : Hid (Below w.heap.size w w1) := by obtain ⟨k, rfl⟩ := hw1; exact below_drewN' (Below.refl _ _)
  have c1 : w1.cell? ⟨g, 0, none⟩ = some (.int .u32 (x : Int)) := by obtain ⟨k, rfl⟩ := hw1; exact c0
  clear hw1
  go_wp2_with fail
  refine (small_any _ a x m _ A1.out HM.out hm' hb0 h32).mono ?_
  rw [HR.out]
  rintro e w2 ⟨q, rfl, nq, k2⟩
  obtain ⟨qa, ql, qc, rfl, _⟩ := nq.shape
  go_wp2_with fail
  have hsl : Sl (w2.alloc (.cells #[.int .u32 (r : Int)] 106)) (.slice (some ⟨w2.heap.size, 0, none⟩) 1 1) [r] := by
    have := Sl.new w2 [r] (by simp; omega)
    simpa using this
  refine (trim_any [r] _ _ (by simp) hsl).mono ?_
  rw [show val [r] = r by simp [val]]
  rintro e w3 ⟨s', rfl, hns, rfl⟩
  obtain ⟨ra, rl, rc, rfl, _⟩ := hns.shape
  go_wp2
  go_ret2
  have z1 := K1.out.size
  have z2 := k2.size
  exact ⟨_, _, rfl, nq.below (Below.alloc_self' w2 _) (Nat.le_refl _), hns, (K1.out.trans (k2.mono z1)).trans ((Below.alloc_self' w2 _).mono (by omega))⟩
end Go.Proofs.YtcnfhndejkngkaaGreatDoor
end

section
set_option linter.unusedSimpArgs false
set_option linter.unusedVariables false
set_option maxRecDepth 100000
namespace Go.Proofs.YtcnfhndejkngkaaGreatDoor.MathE
structure KS (A V n m k : Nat) (P Y Q : List Nat) : Prop where
  lp : P.length = k
  ly : Y.length = n
  lq : Q.length + k = m + 1
  sp : ∀ x ∈ P, x < 4294967296
  sy : ∀ x ∈ Y, x < 4294967296
  sq : ∀ x ∈ Q, x < 4294967296
  lt : val Y < V
  eq : A = val Q * (pw k * V) + (val P + pw k * val Y)
theorem ks_start {U : List Nat} {A V n m : Nat} (hU : U.length = m + 1 + n) (hs : ∀ x ∈ U, x < 4294967296) (hv : val U = A) (hA : A < pw (m + n)) (hn : 1 ≤ n) (hV : pw (n - 1) ≤ V) :
    KS A V n m (m + 1) (U.take (m + 1)) (U.drop (m + 1)) [] := by
  have e := val_append (U.take (m + 1)) (U.drop (m + 1))
  rw [List.take_append_drop, List.length_take, Nat.min_eq_left (by omega), hv] at e
  refine ⟨by simp; omega, by simp; omega, by simp, fun x hx => hs x (List.mem_of_mem_take hx), fun x hx => hs x (List.mem_of_mem_drop hx), by simp, ?_, by simpa [val] using e⟩
  rcases Nat.lt_or_ge (val (U.drop (m + 1))) V with c | c
  · exact c
  · exfalso
    have h1 : pw (m + 1) * pw (n - 1) ≤ pw (m + 1) * val (U.drop (m + 1)) := Nat.mul_le_mul_left _ (by omega)
    rw [← pw_add, show m + 1 + (n - 1) = m + n by omega] at h1
    omega
theorem last_apart (l : List Nat) (n : Nat) (h : l.length = n + 1) : l = l.take n ++ [l.getD n 0] := by
  have h1 := List.take_append_drop n l
  rw [List.drop_eq_getElem_cons (by omega), List.drop_eq_nil_of_le (by omega)] at h1
  rw [List.getD_eq_getElem?_getD, List.getElem?_eq_getElem (by omega), Option.getD_some]
  exact h1.symm
theorem ks_window {A V n m j : Nat} {P Y Q : List Nat} (h : KS A V n m (j + 1) P Y Q) :
    ∃ (P' X : List Nat) (xn : Nat), P'.length = j ∧ X.length = n ∧ (∀ x ∈ P', x < 4294967296) ∧ (∀ x ∈ X, x < 4294967296) ∧ xn < 4294967296 ∧ (∀ Z, P ++ (Y ++ Z) = P' ++ (X ++ (xn :: Z))) ∧
      val X + pw n * xn < 4294967296 * V ∧ A = val Q * (pw (j + 1) * V) + (val P' + pw j * (val X + pw n * xn)) := by
  have e1 := last_apart P j h.lp
  generalize hx0 : P.getD j 0 = x0 at e1
  have hx0s : x0 < 4294967296 := by rw [← hx0]; exact List.getD_lt_of h.sp j
  have e2 := last_apart (x0 :: Y) n (by simp [h.ly])
  generalize hxn : (x0 :: Y).getD n 0 = xn at e2
  have hsm : ∀ x ∈ x0 :: Y, x < 4294967296 := by
    intro x hx; rw [List.mem_cons] at hx; rcases hx with rfl | hx
    · exact hx0s
    · exact h.sy x hx
  have hxns : xn < 4294967296 := by rw [← hxn]; exact List.getD_lt_of hsm n
  have hw : val (x0 :: Y) = val ((x0 :: Y).take n) + pw n * xn := by
    have := val_append ((x0 :: Y).take n) [xn]
    rw [← e2, List.length_take, Nat.min_eq_left (by simp [h.ly])] at this
    rw [this]; simp [val]
  have hw2 : val (x0 :: Y) = x0 + 4294967296 * val Y := rfl
  refine ⟨P.take j, (x0 :: Y).take n, xn, by simp [h.lp], by simp [h.ly], fun x hx => h.sp x (List.mem_of_mem_take hx), fun x hx => hsm x (List.mem_of_mem_take hx), hxns, fun Z => ?_, ?_, ?_⟩
  · have : P ++ (Y ++ Z) = P.take j ++ ((x0 :: Y) ++ Z) := by
      rw [show P ++ (Y ++ Z) = (P.take j ++ [x0]) ++ (Y ++ Z) from by rw [← e1]]; simp
    rw [this]
    rw [show (x0 :: Y) ++ Z = ((x0 :: Y).take n ++ [xn]) ++ Z from by rw [← e2]]
    simp
  · rw [← hw, hw2]; have := h.lt; omega
  · rw [← hw, hw2]
    have h1 := h.eq
    have h2 : val P = val (P.take j) + pw j * x0 := by
      have := val_append (P.take j) [x0]
      rw [← e1, List.length_take, Nat.min_eq_left (by rw [h.lp]; omega)] at this
      rw [this]; simp [val]
    have h3 : pw (j + 1) * val Y = pw j * (4294967296 * val Y) := by
      show 4294967296 * pw j * _ = _
      rw [Nat.mul_comm 4294967296 (pw j), Nat.mul_assoc]
    rw [h1, h2, h3, Nat.mul_add]; omega
theorem ks_next {A V n m j gs W : Nat} {P P' Y Y2 Q : List Nat} (h : KS A V n m (j + 1) P Y Q) (hP : P'.length = j) (sP : ∀ x ∈ P', x < 4294967296) (hA : A = val Q * (pw (j + 1) * V) + (val P' + pw j * W)) (hY : Y2.length = n) (sY : ∀ x ∈ Y2, x < 4294967296)
    (hv : val Y2 + gs * V = W) (hlt : val Y2 < V) (hg : gs < 4294967296) : KS A V n m j P' Y2 (gs :: Q) := by
  refine ⟨hP, hY, by have := h.lq; simp; omega, sP, sY, ?_, hlt, ?_⟩
  · intro x hx; rw [List.mem_cons] at hx; rcases hx with rfl | hx
    · exact hg
    · exact h.sq x hx
  · rw [hA, ← hv, Nat.mul_add]
    have e1 : val (gs :: Q) * (pw j * V) = gs * (pw j * V) + val Q * (pw (j + 1) * V) := by
      show (gs + 4294967296 * val Q) * (pw j * V) = gs * (pw j * V) + val Q * (4294967296 * pw j * V)
      rw [Nat.add_mul]; congr 1
      simp only [Nat.mul_assoc, Nat.mul_comm, Nat.mul_left_comm]
    have e2 : pw j * (gs * V) = gs * (pw j * V) := Nat.mul_left_comm ..
    rw [e1, e2]; omega
theorem two_tops (l : List Nat) (n2 : Nat) (h : l.length = n2 + 2) : val l = (l.getD (n2 + 1) 0 * 4294967296 + l.getD n2 0) * pw n2 + val (l.take n2) := by
  rw [val_split l n2 (by omega), List.drop_eq_getElem_cons (show n2 + 1 < l.length by omega), List.drop_eq_nil_of_le (show l.length ≤ n2 + 1 + 1 by omega)]
  rw [List.getD_eq_getElem?_getD (i := n2 + 1), List.getElem?_eq_getElem (show n2 + 1 < l.length by omega), Option.getD_some]
  simp only [val, Nat.mul_zero, Nat.add_zero]
  rw [Nat.mul_comm (pw n2), Nat.add_comm]
  congr 2
  omega
theorem guess_all {V X : List Nat} {n2 xn : Nat} (hV : V.length = n2 + 2) (hX : X.length = n2 + 2) (sV : ∀ x ∈ V, x < 4294967296) (sX : ∀ x ∈ X, x < 4294967296) (hW : val X + pw (n2 + 2) * xn < 4294967296 * val V) (htop : 2147483648 ≤ V.getD (n2 + 1) 0) :
    xn * 4294967296 + X.getD (n2 + 1) 0 ≤ V.getD (n2 + 1) 0 * 4294967296 + V.getD n2 0 ∧
    ((val X + pw (n2 + 2) * xn) / val V) * (V.getD (n2 + 1) 0 * 4294967296 + V.getD n2 0) ≤ (xn * 4294967296 + X.getD (n2 + 1) 0) * 4294967296 + X.getD n2 0 ∧
    (val X + pw (n2 + 2) * xn) / val V < 4294967296 ∧
    ∀ q, q < 4294967296 → q * (V.getD (n2 + 1) 0 * 4294967296 + V.getD n2 0) ≤ (xn * 4294967296 + X.getD (n2 + 1) 0) * 4294967296 + X.getD n2 0 → q * val V < val X + pw (n2 + 2) * xn + val V := by
  have e1 := two_tops V n2 hV
  have e2 := two_tops X n2 hX
  have l1 := take_lt V n2 (by omega) sV
  have l2 := take_lt X n2 (by omega) sX
  have e3 : val X + pw (n2 + 2) * xn = ((xn * 4294967296 + X.getD (n2 + 1) 0) * 4294967296 + X.getD n2 0) * pw n2 + val (X.take n2) := by
    rw [e2]
    have : pw (n2 + 2) * xn = xn * 4294967296 * 4294967296 * pw n2 := by
      show 4294967296 * (4294967296 * pw n2) * xn = _
      simp only [Nat.mul_assoc, Nat.mul_comm, Nat.mul_left_comm]
    rw [this, Nat.add_mul _ _ (pw n2), Nat.add_mul, Nat.add_mul, Nat.add_mul]
    omega
  have hV0 : 0 < val V := by
    rw [e1]
    have := Nat.mul_le_mul_right (pw n2) (show 1 ≤ V.getD (n2 + 1) 0 * 4294967296 + V.getD n2 0 by omega)
    have := pw_pos n2
    omega
  refine ⟨MathD.first_le e1 e3 l1 rfl hW, MathD.digit_fits e1 e3 l2 (Nat.div_mul_le_self _ _), by rw [Nat.div_lt_iff_lt_mul hV0]; exact hW, fun q hq h => MathD.guess_near e1 e3 l1 (by omega) hq h⟩
end Go.Proofs.YtcnfhndejkngkaaGreatDoor.MathE
end
