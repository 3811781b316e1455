/- ContSurds returns true of every number, given the table. -/
import Derived.Test.YtpgedkdaflgfoafGreatDoorContSurdsWc
set_option linter.unusedSimpArgs false
set_option linter.unusedVariables false
set_option maxRecDepth 100000
namespace Go.Proofs.YtpgedkdaflgfoafGreatDoor
open Go.RowKit LgM CfM

theorem root_ex (n : Nat) : ∃ r, r * r ≤ n ∧ n < (r + 1) * (r + 1) := by
  induction n with
  | zero => exact ⟨0, by omega, by omega⟩
  | succ n ih =>
    obtain ⟨r, h1, h2⟩ := ih
    by_cases h : n + 1 < (r + 1) * (r + 1)
    · exact ⟨r, by omega, h⟩
    · refine ⟨r + 1, by omega, ?_⟩
      have : (r + 1 + 1) * (r + 1 + 1) = (r + 1) * (r + 1) + 2 * (r + 1) + 1 := by
        rw [Nat.add_mul, Nat.mul_add]; omega
      omega
theorem rn_two {n r : Nat} (h : Rn n r) : 2 ≤ n := by
  have h1 := h.r1
  have h2 := Nat.mul_le_mul h1 h1
  have := h.lo
  omega
theorem d_ways (d : Int) : (d < 2 ∨ 1000000 < d) ∨ (∃ r : Nat, (2 ≤ d ∧ d ≤ 1000000) ∧ (r : Int) * r = d) ∨ (∃ n r : Nat, d = n ∧ n ≤ 1000000 ∧ Rn n r) := by
  by_cases h : d < 2 ∨ 1000000 < d
  · exact .inl h
  · right
    obtain ⟨n, rfl⟩ := Int.eq_ofNat_of_zero_le (show 0 ≤ d by omega)
    obtain ⟨r, h1, h2⟩ := root_ex n
    by_cases h3 : r * r = n
    · exact .inl ⟨r, by omega, by rw [← Int.natCast_mul, h3]⟩
    · refine .inr ⟨n, r, rfl, by omega, ?_, by omega, h2⟩
      rcases r with _ | r
      · omega
      · omega

theorem cont_surds (d : Int) (w : World) (hT : Tq w) :
    Calls Tryz.prog 4 #[.int .i64 d] w fun e w' => e = .returned (.bool true) ∧ Below w.heap.size w w' := by
  rcases d_ways d with h | h | h
  · refine cs_fault d 3 w (.inl rfl) hT (fun w => (Surd_any d w).mono ?_) (fun w ht => (Pell_any d w ht).mono ?_) (fun w => (surdFault_any d w).mono ?_)
    · rintro e w' ⟨h1, k⟩
      rcases h1 with ⟨_, h1⟩ | ⟨⟨r, h1, _⟩, _⟩ | ⟨n, r, rfl, h1, h2, _⟩
      · exact ⟨h1, k⟩
      · omega
      · have := rn_two h2; omega
    · rintro e w' ⟨h1, k⟩
      rcases h1 with ⟨_, h1⟩ | ⟨⟨r, h1, _⟩, _⟩ | ⟨n, r, rfl, h1, h2, _⟩
      · exact ⟨h1, k⟩
      · omega
      · have := rn_two h2; omega
    · rintro e w' ⟨c, rfl, h1, k⟩
      rcases h1 with ⟨_, h1⟩ | ⟨⟨r, h1, _⟩, _⟩ | ⟨n, r, rfl, h1, h2, _⟩
      · subst h1; exact ⟨rfl, k⟩
      · omega
      · have := rn_two h2; omega
  · obtain ⟨s, h, hs⟩ := h
    refine cs_fault d 7 w (.inr rfl) hT (fun w => (Surd_any d w).mono ?_) (fun w ht => (Pell_any d w ht).mono ?_) (fun w => (surdFault_any d w).mono ?_)
    · rintro e w' ⟨h1, k⟩
      rcases h1 with ⟨h1, _⟩ | ⟨_, h1⟩ | ⟨n, r, rfl, h1, h2, _⟩
      · omega
      · exact ⟨h1, k⟩
      · exact (sq_uniq h2 hs).elim
    · rintro e w' ⟨h1, k⟩
      rcases h1 with ⟨h1, _⟩ | ⟨_, h1⟩ | ⟨n, r, rfl, h1, h2, _⟩
      · omega
      · exact ⟨h1, k⟩
      · exact (sq_uniq h2 hs).elim
    · rintro e w' ⟨c, rfl, h1, k⟩
      rcases h1 with ⟨h1, _⟩ | ⟨_, h1⟩ | ⟨n, r, rfl, h1, h2, _⟩
      · omega
      · subst h1; exact ⟨rfl, k⟩
      · exact (sq_uniq h2 hs).elim
  · obtain ⟨n, r, rfl, hn, hR⟩ := h
    have hn2 := rn_two hR
    have hSf : ∀ w, Calls Tryz.prog 14 #[.int .i64 (n : Int)] w fun e w' => e = .returned (.agg #[.int .i64 0, .int .i64 0]) ∧ Below w.heap.size w w' := fun w => (surdFault_any n w).mono (by
      rintro e w' ⟨c, rfl, h1, k⟩
      rcases h1 with ⟨h1, _⟩ | ⟨⟨s, _, hs⟩, h1⟩ | ⟨m, s, hm, h1, h2, h3⟩
      · omega
      · exact (sq_uniq hR hs).elim
      · subst h3; exact ⟨rfl, k⟩)
    rcases fst_or n r with ⟨N, hF⟩ | hno
    · have hend := nn_end hR hF
      have hlt := st_lt hR (by have := rn_small hR hn; omega) (NN N - 1)
      have hNN : NN N - 1 + 1 ≤ 2000 := by
        have := hF.1; have := hF.2.1
        unfold NN; split <;> omega
      have hpq := st_pell hR hend.2 hend.1
      have hq1 := st_pos hR (NN N - 1)
      have hp1 : 1 ≤ (st n r (NN N - 1)).2.1 := by
        rcases Nat.eq_zero_or_pos (st n r (NN N - 1)).2.1 with h | h
        · rw [h] at hpq; omega
        · exact h
      have big : ∀ x, x < 1000000000 ^ (NN N - 1 + 1) → x < pw 2000 ∧ (Lib.decDigits x).length ≤ 20000 := fun x hx => by
        refine ⟨Nat.lt_of_lt_of_le hx (Nat.le_trans (nine_pw _) (pw_le hNN)), ?_⟩
        rw [nine_ten] at hx
        exact Nat.le_trans (dec_len x (9 * (NN N - 1 + 1)) (by omega) hx) (by omega)
      refine cs_good n r N (st n r (NN N - 1)).2.1 (st n r (NN N - 1)).2.2 w hR hn hF hT hpq (big _ hlt.2.2.1).1 (big _ hlt.2.2.2).1 hq1 hp1 (big _ hlt.2.2.1).2 (big _ hlt.2.2.2).2 ?_ (fun w => (Surd_any n w).mono ?_) (fun w ht => (Pell_any n w ht).mono ?_) hSf
      · intro h5
        obtain ⟨X, hX, hp⟩ := cyc_pel hR h5
        have := (pel_is hR hF.1 hF.2.2.1 hF.2.2.2 hp).1
        rw [hX, this]
      · rintro e w' ⟨h1, k⟩
        rcases h1 with ⟨h1, _⟩ | ⟨⟨s, _, hs⟩, h1⟩ | ⟨m, s, hm, h1, h2, h3⟩
        · omega
        · exact (sq_uniq hR hs).elim
        · have e1 : m = n := by omega
          subst e1
          have e2 := rn_uniq hR h2
          subst e2
          rcases h3 with ⟨h3, _⟩ | ⟨N', a, c, h3, h4, h5⟩
          · exact absurd hF.2.2.1 (h3 (N - 1) (by have := hF.1; have := hF.2.1; omega))
          · have e3 := fst_uniq hF h3
            subst e3
            exact ⟨a, c, h4, h5, k⟩
      · rintro e w' ⟨h1, k⟩
        rcases h1 with ⟨h1, _⟩ | ⟨⟨s, _, hs⟩, h1⟩ | ⟨m, s, hm, h1, h2, h3⟩
        · omega
        · exact (sq_uniq hR hs).elim
        · have e1 : m = n := by omega
          subst e1
          have e2 := rn_uniq hR h2
          subst e2
          rcases h3 with ⟨h3, _⟩ | ⟨N', h3, h4⟩
          · exact absurd hF.2.2.1 (h3 (N - 1) (by have := hF.1; have := hF.2.1; omega))
          · have e3 := fst_uniq hF h3
            subst e3
            exact ⟨h4, k⟩
    · refine cs_much n r w hR hn hno hT (fun w => (Surd_any n w).mono ?_) (fun w ht => (Pell_any n w ht).mono ?_) hSf
      · rintro e w' ⟨h1, k⟩
        rcases h1 with ⟨h1, _⟩ | ⟨⟨s, _, hs⟩, h1⟩ | ⟨m, s, hm, h1, h2, h3⟩
        · omega
        · exact (sq_uniq hR hs).elim
        · have e1 : m = n := by omega
          subst e1
          have e2 := rn_uniq hR h2
          subst e2
          rcases h3 with ⟨_, h3⟩ | ⟨N', a, c, h3, h4, h5⟩
          · exact ⟨h3, k⟩
          · exact absurd h3.2.2.1 (hno (N' - 1) (by have := h3.1; have := h3.2.1; omega))
      · rintro e w' ⟨h1, k⟩
        rcases h1 with ⟨h1, _⟩ | ⟨⟨s, _, hs⟩, h1⟩ | ⟨m, s, hm, h1, h2, h3⟩
        · omega
        · exact (sq_uniq hR hs).elim
        · have e1 : m = n := by omega
          subst e1
          have e2 := rn_uniq hR h2
          subst e2
          rcases h3 with ⟨_, h3⟩ | ⟨N', h3, h4⟩
          · exact ⟨h3, k⟩
          · exact absurd h3.2.2.1 (hno (N' - 1) (by have := h3.1; have := h3.2.1; omega))

end Go.Proofs.YtpgedkdaflgfoafGreatDoor
