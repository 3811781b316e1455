/- The program: equation.addCoin. -/
import Derived.Test.YtcbepaionliepaaCoA
import Derived.Test.YtcbepaionliepaaRegionG
import Derived.BigRegion
set_option linter.unusedSimpArgs false
set_option linter.unusedVariables false
set_option maxRecDepth 100000
namespace Go.Proofs.Ytcbepaionliepaa
open Go.RowKit

/-- The cells of a row of numbers. -/
def lcells (m : Nat) (L : Nat → Nat) : List Value := (List.range m).map fun i => .int .i64 (L i : Int)
theorem lcells_len (m : Nat) (L : Nat → Nat) : (lcells m L).length = m := by simp [lcells]
theorem lcells_at {m i : Nat} (L : Nat → Nat) (h : i < m) : (lcells m L)[i]? = some (.int .i64 (L i : Int)) := by simp [lcells, h]
theorem lcells_set {m j : Nat} (L : Nat → Nat) (v : Nat) (h : j < m) : (lcells m L).set j (.int .i64 (v : Int)) = lcells m (CO.upd L j v) := by
  apply List.ext_getElem?
  intro i
  rw [List.getElem?_set]
  by_cases hj : j = i
  · subst hj
    rw [if_pos rfl, lcells_at _ h, lcells_len, if_pos h, CO.upd_self]
  · rw [if_neg hj]
    by_cases hi : i < m
    · rw [lcells_at _ hi, lcells_at _ hi, CO.upd_ne (fun e => hj e.symm)]
    · rw [List.getElem?_eq_none (by rw [lcells_len]; omega), List.getElem?_eq_none (by rw [lcells_len]; omega)]
theorem Ro.of {g m : Nat} {L : Nat → Nat} {w : World} (h : Cl g (lcells m L) 3 w) : Ro g 0 m L w :=
  ⟨fun j hj => by rw [Nat.zero_add, h.cell]; exact lcells_at L hj, h.lt⟩

set_option maxRecDepth 100000 in
set_option maxHeartbeats 4000000 in
theorem addCoin_any (m c : Nat) (L : Nat → Nat) (bL cap : Nat) (w : World) (hm : 1 ≤ m ∧ m ≤ 1000) (hc : 1 ≤ c ∧ c ≤ 1000) (hL : ∀ r, r < m → L r ≤ 1000000000000000000) (h : Cl bL (lcells m L) 3 w) :
    Calls Try.prog 69 #[.slice (some ⟨bL, 0, none⟩) m cap, .int .i64 (c : Int)] w fun e w' => (∃ v, e = .returned v) ∧ ∃ L', CO.J m c L L' ∧ (∀ s, s < Nat.gcd m c → CO.Cy m c s L') ∧ Cl bL (lcells m L') 3 w' ∧ Below bL w w' := by
  obtain ⟨d, hd⟩ : ∃ d, d = Nat.gcd m c := ⟨_, rfl⟩
  obtain ⟨t, ht⟩ : ∃ t, t = m / d := ⟨_, rfl⟩
  have hdp : 0 < d := by rw [hd]; exact Nat.gcd_pos_of_pos_left c (by omega)
  have hdm : d ≤ m := by rw [hd]; exact Nat.gcd_le_left c (by omega)
  have hdt : t * d = m := by rw [ht, hd]; exact Nat.div_mul_cancel (Nat.gcd_dvd_left m c)
  have htm : t ≤ m := by rw [ht]; exact Nat.div_le_self _ _
  have hq : (2 * (m : Int)).tdiv (d : Int) = (2 * t : Nat) := by
    rw [show 2 * (m : Int) = ((2 * m : Nat) : Int) by omega, ← Int.ofNat_tdiv, ← hdt, ← Nat.mul_assoc, Nat.mul_div_cancel _ hdp]
  have HD : Hid (∀ g w, Ro g 0 2 (fun j => [m, c].getD j 0) w → Calls Try.prog 40 #[.slice (some ⟨g, 0, none⟩) 2 2] w fun e w' => e = .returned (.int .i64 (d : Int)) ∧ Below w.heap.size w w') := fun g w hr => by
    have := divisor_any [m, c] g 0 2 w (by simp) (fun j hj => by
      match j, hj with
      | 0, _ => show m ≤ _; omega
      | 1, _ => show c ≤ _; omega) hr
    rw [show CO.gl [m, c] = d by rw [hd]; simp [CO.gl]] at this
    exact this
  have HG : Hid (d = Nat.gcd m c ∧ t = m / Nat.gcd m c) := ⟨hd, by rw [ht, hd]⟩
  have HL0 : Hid (∀ r, r < m → L r ≤ 1000000000000000000) := hL
  have HC0 : Hid (Cl bL (lcells m L) 3 w) := h
  have td : ((d : Int) == 0) = false := beq_eq_false_iff_ne.2 (by omega)
  have tm : ((m : Int) == 0) = false := beq_eq_false_iff_ne.2 (by omega)
  clear hd ht hL h
  go_enter Try.func69, Try.ntmps69
  go_wp2_with fail
  obtain ⟨W1, hW1⟩ : ∃ W1, W1 = w.alloc (.cells #[.int .i64 (m : Int), .int .i64 (c : Int)] 3) := ⟨_, rfl⟩
  have C1 : Cl w.heap.size [.int .i64 (m : Int), .int .i64 (c : Int)] 3 W1 := by rw [hW1]; exact Cl.new [.int .i64 (m : Int), .int .i64 (c : Int)] _ w
  have R1 : Ro w.heap.size 0 2 (fun j => [m, c].getD j 0) W1 := ⟨fun j hj => by
    match j, hj with
    | 0, _ => exact C1.cell 0
    | 1, _ => exact C1.cell 1, C1.lt⟩
  have K1 : Cl bL (lcells m L) 3 W1 ∧ Below w.heap.size w W1 := by rw [hW1]; exact ⟨HC0.out.alloc _, Below.alloc (Below.refl _ _) (Nat.le_refl _) _⟩
  rw [← hW1]
  clear hW1 C1
  refine (HD.out _ _ R1).mono ?_
  rintro e w1 ⟨rfl, k1⟩
  have HS1 : Hid (Cl bL (lcells m L) 3 w1 ∧ Below bL w w1) := ⟨K1.1.below k1, (K1.2.trans (k1.mono K1.2.size)).mono (by have := HC0.out.lt; omega)⟩
  clear k1 R1 K1 HC0 HD
  go_wp2
  go_loopg [16] d (fun gk sv wx => ∃ (s : Nat) (A : Nat → Nat), sv = .int .i64 s ∧ Hid (gk = d - s ∧ s ≤ d ∧ CO.J m c L A ∧ (∀ s', s' < s → CO.Cy m c s' A) ∧ Cl bL (lcells m A) 3 wx ∧ Below bL w wx))
  case atStart => exact ⟨0, L, rfl, by omega, by omega, CO.J.refl m c L, fun s' h => by omega, HS1.out⟩
  case round =>
    clear HS1
    obtain ⟨s, A, rfl, HR⟩ := hrel
    obtain ⟨h1, h2, h3, h4, h5, h6⟩ := HR.out
    by_cases hs : s < d
    · have ts : decide ((s : Int) < (d : Int)) = true := decide_eq_true (by omega)
      have HK : Hid (gk = d - s) := h1
      have HS : Hid (CO.Rn m c s 0 L A ∧ Cl bL (lcells m A) 3 wr ∧ Below bL w wr) := ⟨CO.Rn.start (by omega) h3 h4, h5, h6⟩
      clear HR h1 h3 h4 h5 h6
      have wq : IntKind.i64.wrap (2 * (m : Int)) = 2 * (m : Int) := by rw [IntKind.wrap_i64]; omega
      go_wp2
      go_loopg [7, 24] (2 * t) (fun gk pv iv wx => ∃ (i : Nat) (B : Nat → Nat), pv = .int .i64 (CO.pos m c s i : Nat) ∧ iv = .int .i64 i ∧ Hid (gk = 2 * t - i ∧ i ≤ 2 * t ∧ CO.Rn m c s i L B ∧ Cl bL (lcells m B) 3 wx ∧ Below bL w wx))
      case atStart => exact ⟨0, A, by rw [CO.pos_zero (by omega)], rfl, by omega, by omega, HS.out⟩
      case round =>
        clear HS
        obtain ⟨i, B, rfl, rfl, HR⟩ := hrel
        obtain ⟨h1, h2, h3, h4, h5⟩ := HR.out
        by_cases hi : i < 2 * t
        · have ti : decide ((i : Int) < ((2 * t : Nat) : Int)) = true := decide_eq_true (by omega)
          have HN : Hid (gk = 2 * t - i ∧ CO.Rn m c s i L B ∧ Cl bL (lcells m B) 3 wr ∧ Below bL w wr) := ⟨h1, h3, h4, h5⟩
          obtain ⟨p, hp⟩ : ∃ p, p = CO.pos m c s i := ⟨_, rfl⟩
          obtain ⟨q, hqq⟩ : ∃ q, q = CO.pos m c s (i + 1) := ⟨_, rfl⟩
          have pl : p < m := by rw [hp]; exact CO.pos_lt (by omega)
          have ql : q < m := by rw [hqq]; exact CO.pos_lt (by omega)
          have eq : ((p : Int) + (c : Int)).tmod (m : Int) = (q : Int) := by
            rw [show (p : Int) + (c : Int) = ((p + c : Nat) : Int) by omega, ← Int.ofNat_tmod, hp, CO.pos_next, hqq]
          obtain ⟨X, hX⟩ : ∃ X, X = B p := ⟨_, rfl⟩
          obtain ⟨Y, hY⟩ : ∃ X, X = B q := ⟨_, rfl⟩
          have bX : X ≤ 1000000000000000000 := by rw [hX]; exact h3.j.le18 HL0.out p pl
          have bY : Y ≤ 1000000000000000000 := by rw [hY]; exact h3.j.le18 HL0.out q ql
          have c1 : wr.cell? ⟨bL, p, none⟩ = some (.int .i64 (X : Int)) := by rw [h4.cell, hX]; exact lcells_at B pl
          have c2 : wr.cell? ⟨bL, q, none⟩ = some (.int .i64 (Y : Int)) := by rw [h4.cell, hY]; exact lcells_at B ql
          have f2 : wr.frozen? ⟨bL, q, none⟩ = false := h4.frozen q
          have HX : Hid (CO.Rn m c s (i + 1) L (CO.upd B q (min Y (X + c)))) := by
            have := h3.step (by omega) (by rw [← HG.out.1]; exact hs)
            rw [← hp, ← hqq, ← hX, ← hY] at this
            exact this
          rw [← hp]
          have HQ : Hid (q = CO.pos m c s (i + 1)) := hqq
          clear HR h1 h3 h4 h5 hp hqq hX hY
          go_wp2
          go_region
          go_wp2
          case' inl =>
            rename_i hcmp
            have HV : Hid (Cl bL (lcells m (CO.upd B q (min Y (X + c)))) 3 ((wr.setCell ⟨bL, q, none⟩ (.int .i64 ((X : Int) + (c : Int)))).drew) ∧ Below bL w ((wr.setCell ⟨bL, q, none⟩ (.int .i64 ((X : Int) + (c : Int)))).drew)) := by
              refine ⟨?_, Below.drew (Below.setCell HN.out.2.2.2 (Nat.le_refl _) _)⟩
              have := (HN.out.2.2.1.set q (.int .i64 ((X + c : Nat) : Int))).drew
              rw [lcells_set B (X + c) ql] at this
              rw [show min Y (X + c) = X + c by omega]
              exact_mod_cast this
          case' inr =>
            rename_i hcmp
            have HV : Hid (Cl bL (lcells m (CO.upd B q (min Y (X + c)))) 3 ((wr.setCell ⟨bL, q, none⟩ (.int .i64 (Y : Int))).drew) ∧ Below bL w ((wr.setCell ⟨bL, q, none⟩ (.int .i64 (Y : Int))).drew)) := by
              refine ⟨?_, Below.drew (Below.setCell HN.out.2.2.2 (Nat.le_refl _) _)⟩
              have := (HN.out.2.2.1.set q (.int .i64 (Y : Int))).drew
              rw [lcells_set B Y ql] at this
              rw [show min Y (X + c) = Y by omega]
              exact this
          all_goals
            go_roundg (2 * t - (i + 1))
            case rel => exact ⟨i + 1, CO.upd B q (min Y (X + c)), by rw [← HQ.out], by go_num, rfl, by omega, HX.out, HV.out⟩
            case measure => have := HN.out.1; omega
        · have ti : decide ((i : Int) < ((2 * t : Nat) : Int)) = false := decide_eq_false (by omega)
          obtain rfl : i = 2 * t := by omega
          have HN : Hid (CO.J m c L B ∧ (∀ s', s' < s + 1 → CO.Cy m c s' B) ∧ Cl bL (lcells m B) 3 wr ∧ Below bL w wr) := by
            rw [HG.out.2] at h3
            have := h3.close (by omega) (by rw [← HG.out.1]; exact hs)
            exact ⟨this.1, this.2, h4, h5⟩
          clear HR h1 h3 h4 h5
          go_wp2
          go_roundg (d - (s + 1))
          case rel => exact ⟨s + 1, B, by go_num, rfl, by omega, HN.out⟩
          case measure => have := HK.out; omega
    · have ts : decide ((s : Int) < (d : Int)) = false := decide_eq_false (by omega)
      have HN : Hid (CO.J m c L A ∧ (∀ s, s < Nat.gcd m c → CO.Cy m c s A) ∧ Cl bL (lcells m A) 3 wr ∧ Below bL w wr) := ⟨h3, fun s' hs' => h4 s' (by have := HG.out.1; omega), h5, h6⟩
      clear HR h1 h3 h4 h5 h6
      go_wp2
      exact bodyPost_end (results_none rfl _ _ _) rfl ⟨⟨_, rfl⟩, A, HN.out⟩

end Go.Proofs.Ytcbepaionliepaa
