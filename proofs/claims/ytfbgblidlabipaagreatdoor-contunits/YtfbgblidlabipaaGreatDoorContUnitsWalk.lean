/- ContUnits returns true of every number, given the tables. -/
import Derived.Test.YtfbgblidlabipaaGreatDoorContUnitsWb
import Derived.Test.YtfbgblidlabipaaGreatDoorContUnitsWc
import Derived.Test.YtfbgblidlabipaaGreatDoorContUnitsWd
import Derived.Test.YtfbgblidlabipaaGreatDoorContUnitsWe
import Derived.Test.YtfbgblidlabipaaGreatDoorJnZa
import Derived.Test.YtfbgblidlabipaaGreatDoorUtP
set_option linter.unusedSimpArgs false
set_option linter.unusedVariables false
set_option maxRecDepth 100000
namespace Go.Proofs.YtfbgblidlabipaaGreatDoor
open Go.RowKit LgM CfM UtM

theorem u_root (n : Nat) : ∃ r, r * r ≤ n ∧ n < (r + 1) * (r + 1) := by
  induction n with
  | zero => exact ⟨0, by omega, by omega⟩
  | succ n ih =>
    obtain ⟨r, h1, h2⟩ := ih
    by_cases h : n + 1 < (r + 1) * (r + 1)
    · exact ⟨r, by omega, h⟩
    · refine ⟨r + 1, by omega, ?_⟩
      have : (r + 1 + 1) * (r + 1 + 1) = (r + 1) * (r + 1) + 2 * (r + 1) + 1 := by
        rw [Nat.add_mul, Nat.mul_add]; omega
      omega
theorem u_two {n r : Nat} (h : Rn n r) : 2 ≤ n := by
  have h1 := h.r1
  have h2 := Nat.mul_le_mul h1 h1
  have := h.lo
  omega
theorem u_ways (d : Int) : (d < 2 ∨ 1000000 < d) ∨ (∃ r : Nat, (2 ≤ d ∧ d ≤ 1000000) ∧ (r : Int) * r = d) ∨ (∃ n r : Nat, d = n ∧ n ≤ 1000000 ∧ Rn n r) := by
  by_cases h : d < 2 ∨ 1000000 < d
  · exact .inl h
  · right
    obtain ⟨n, rfl⟩ := Int.eq_ofNat_of_zero_le (show 0 ≤ d by omega)
    obtain ⟨r, h1, h2⟩ := u_root n
    by_cases h3 : r * r = n
    · exact .inl ⟨r, by omega, by rw [← Int.natCast_mul, h3]⟩
    · refine .inr ⟨n, r, rfl, by omega, ?_, by omega, h2⟩
      rcases r with _ | r
      · omega
      · omega
theorem u_ten (k : Nat) : 1000000000 ^ k = 10 ^ (9 * k) := by rw [Nat.pow_mul]
theorem sgn_turn {N : Nat} (h : 1 ≤ N) : -sgn (N - 1) = sgn N := by unfold sgn; split <;> split <;> omega
theorem sgn_or (N : Nat) : sgn N = 1 ∨ sgn N = -1 := by unfold sgn; split <;> omega

/-- The unit at the end, with all that is asked of it. -/
theorem ug {n r p0 q0 P Q X Y N : Nat} (hK : Kd n r p0 q0 P Q X Y) (hk : q0 = 1 → n % 4 ≠ 1) (hn : n ≤ 1000000) (hN : Ue n r P Q q0 N) {x y : Nat} (hx : x = (tf n r P Q X Y (N - 1)).2.1) (hy : y = (tf n r P Q X Y (N - 1)).2.2) {s : Int} (hs : s = sgn N) :
    UA n q0 x y s ∧ 1 ≤ x ∧ (x < pw 1000 ∧ (Lib.decDigits x).length ≤ 20000) ∧ (y < pw 1000 ∧ (Lib.decDigits y).length ≤ 20000) ∧ (∀ (a b : Nat) (t : Int), UA n q0 a b t → y ≤ b ∧ ((a = x ∧ b = y ∧ t = s) ∨ x < a)) ∧ (n ≤ 3000 → ∃ u v, cyc0 n r = some (u, v) ∧ Mt n x y u v) := by
  have hN1 := hN.1
  have hN2 := hN.2.1
  have hlt := tf_lt hK (by have := rn_small hK.rn hn; omega) (N - 1)
  have hps := tf_pos hK (N - 1)
  have big : ∀ z, z < 1000000000 ^ (N - 1 + 1) → z < pw 1000 ∧ (Lib.decDigits z).length ≤ 20000 := fun z hz => by
    refine ⟨Nat.lt_of_lt_of_le hz (Nat.le_trans (u_pw _) (pw_le (by omega))), ?_⟩
    rw [u_ten] at hz
    exact Nat.le_trans (dec_len z (9 * (N - 1 + 1)) (by omega) hz) (by omega)
  have hnm := norm_at hK hN.2.2.1
  rw [sgn_turn hN1, ← hs] at hnm
  have hso : s = 1 ∨ s = -1 := by rw [hs]; exact sgn_or N
  rw [← hx, ← hy] at hnm hlt hps
  refine ⟨⟨hso, hps.2.2, ?_, hnm⟩, hps.2.1, big x hlt.2.2.1, big y hlt.2.2.2, fun a b t h => ?_, fun h3 => ?_⟩
  · rw [hx, hy]; exact (tf_lam hK (N - 1)).2
  · have := unit_least hK hN h.s1 h.b1 h.lam h.nm
    rw [← hx, ← hy, sgn_turn hN1, ← hs] at this
    exact this
  · obtain ⟨⟨u, v⟩, h1, h2⟩ := cyc_pel hK.rn (by omega)
    refine ⟨u, v, h1, ?_⟩
    rw [hx, hy]
    exact mt_all hK hk h3 hN h2

theorem cont_units (d : Int) (w : World) (hT : Tq w) (hB : Tb w) :
    Calls Tryz.prog 4 #[.int .i64 d] w fun e w' => e = .returned (.bool true) ∧ Below w.heap.size w w' := by
  rcases u_ways d with h | h | h
  · refine cu_f3 d w hT (Unit_f3 d w hT hB (fun w => (rootOf_any d w).mono ?_)) (fun w => (surdFault_any d w).mono ?_)
    · rintro e w' ⟨v, f, rfl, ho, k⟩
      rcases ho with ⟨_, rfl, rfl⟩ | ⟨r, h1, _⟩ | ⟨n, r, rfl, h1, h2, _⟩
      · exact ⟨rfl, k⟩
      · omega
      · have := u_two h2; omega
    · rintro e w' ⟨c, rfl, h1, k⟩
      rcases h1 with ⟨_, h1⟩ | ⟨⟨r, h1, _⟩, _⟩ | ⟨n, r, rfl, h1, h2, _⟩
      · subst h1; exact ⟨rfl, k⟩
      · omega
      · have := u_two h2; omega
  · obtain ⟨s, h, hs⟩ := h
    refine cu_f7 d w hT (Unit_f7 d w hT hB (fun w => (rootOf_any d w).mono ?_)) (fun w => (surdFault_any d w).mono ?_)
    · rintro e w' ⟨v, f, rfl, ho, k⟩
      rcases ho with ⟨h1, _⟩ | ⟨r, h1, h2, rfl, rfl⟩ | ⟨n, r, rfl, h1, h2, _⟩
      · omega
      · exact ⟨rfl, k⟩
      · exact (sq_uniq h2 hs).elim
    · rintro e w' ⟨c, rfl, h1, k⟩
      rcases h1 with ⟨h1, _⟩ | ⟨_, h1⟩ | ⟨n, r, rfl, h1, h2, _⟩
      · omega
      · subst h1; exact ⟨rfl, k⟩
      · exact (sq_uniq h2 hs).elim
  · obtain ⟨n, r, rfl, hn, hR⟩ := h
    have hn2 := u_two hR
    have hSf : ∀ w, Calls Tryz.prog 16 #[.int .i64 (n : Int)] w fun e w' => e = .returned (.agg #[.int .i64 0, .int .i64 0]) ∧ Below w.heap.size w w' := fun w => (surdFault_any n w).mono (by
      rintro e w' ⟨c, rfl, h1, k⟩
      rcases h1 with ⟨h1, _⟩ | ⟨⟨s, _, hs⟩, h1⟩ | ⟨m, s, hm, h1, h2, h3⟩
      · omega
      · exact (sq_uniq hR hs).elim
      · subst h3; exact ⟨rfl, k⟩)
    by_cases hs : SqF n
    · exact cu_sq n r w hT hn2 hn hs (Unit_sq n r w hT hB hR hn hs) hSf
    · rcases kd_of hR with ⟨h4, hK⟩ | ⟨h4, hK⟩
      · rcases ue_or n r r (n - r * r) 1 with ⟨N, hN⟩ | hno
        · obtain ⟨x, hx⟩ : ∃ x, x = (tf n r r (n - r * r) (2 * r) 2 (N - 1)).2.1 := ⟨_, rfl⟩
          obtain ⟨y, hy⟩ : ∃ y, y = (tf n r r (n - r * r) (2 * r) 2 (N - 1)).2.2 := ⟨_, rfl⟩
          obtain ⟨s, hsg⟩ : ∃ s, s = sgn N := ⟨_, rfl⟩
          obtain ⟨g1, g2, g3, g4, g5, g6⟩ := ug hK (fun _ => h4) hn hN hx hy hsg
          have hUn := Unit_g0 n r r (n - r * r) (2 * r) 2 N w hT hB hn hs h4 hK hN
          unfold unG at hUn
          rw [← hx, ← hy, ← hsg] at hUn
          rcases g1.s1 with e | e
          · rw [e] at g1 g5 hUn
            exact cu_g0p n r x y w hT hn2 hn h4 hs hR g1 g2 g3.1 g4.1 g3.2 g4.2 g5 g6 hUn hSf (fun w => Least_0 n w hn2 hn h4)
          · rw [e] at g1 g5 hUn
            exact cu_g0m n r x y w hT hn2 hn h4 hs hR g1 g2 g3.1 g4.1 g3.2 g4.2 g5 g6 hUn hSf (fun w => Least_0 n w hn2 hn h4)
        · refine cu_much n r w hT hn2 hn hs ?_ (Unit_m0 n r r (n - r * r) (2 * r) 2 w hT hB hn hs h4 hK hno) hSf
          rcases Nat.lt_or_ge 20000 n with c | c
          · exact c
          · rcases ue_all hR c with ⟨_, N, hN⟩ | ⟨h5, _⟩
            · exact absurd hN.2.2.1 (hno (N - 1) (by have := hN.1; have := hN.2.1; omega))
            · omega
      · rcases ue_or n r (oddr r) ((n - oddr r * oddr r) / 2) 2 with ⟨N, hN⟩ | hno
        · obtain ⟨x, hx⟩ : ∃ x, x = (tf n r (oddr r) ((n - oddr r * oddr r) / 2) (oddr r) 1 (N - 1)).2.1 := ⟨_, rfl⟩
          obtain ⟨y, hy⟩ : ∃ y, y = (tf n r (oddr r) ((n - oddr r * oddr r) / 2) (oddr r) 1 (N - 1)).2.2 := ⟨_, rfl⟩
          obtain ⟨s, hsg⟩ : ∃ s, s = sgn N := ⟨_, rfl⟩
          obtain ⟨g1, g2, g3, g4, g5, g6⟩ := ug hK (fun e => by omega) hn hN hx hy hsg
          have hUn := Unit_g1 n r (oddr r) ((n - oddr r * oddr r) / 2) (oddr r) 1 N w hT hB hn hs h4 hK hN
          unfold unG at hUn
          rw [← hx, ← hy, ← hsg] at hUn
          rcases g1.s1 with e | e
          · rw [e] at g1 g5 hUn
            exact cu_g1p n r x y w hT hn2 hn h4 hs hR g1 g2 g3.1 g4.1 g3.2 g4.2 g5 g6 hUn hSf (fun w => Least_1 n w hn2 hn h4)
          · rw [e] at g1 g5 hUn
            exact cu_g1m n r x y w hT hn2 hn h4 hs hR g1 g2 g3.1 g4.1 g3.2 g4.2 g5 g6 hUn hSf (fun w => Least_1 n w hn2 hn h4)
        · refine cu_much n r w hT hn2 hn hs ?_ (Unit_m1 n r (oddr r) ((n - oddr r * oddr r) / 2) (oddr r) 1 w hT hB hn hs h4 hK hno) hSf
          rcases Nat.lt_or_ge 20000 n with c | c
          · exact c
          · rcases ue_all hR c with ⟨h5, _⟩ | ⟨_, N, hN⟩
            · omega
            · exact absurd hN.2.2.1 (hno (N - 1) (by have := hN.1; have := hN.2.1; omega))

end Go.Proofs.YtfbgblidlabipaaGreatDoor
