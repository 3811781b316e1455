/- prime.isWitness; prime.isPrime and prime.Is of numbers up to 1000000. -/
import Derived.Test.YtidndbdjhapfaaaGreatDoorPrimeL
import Derived.Test.YtidndbdjhapfaaaGreatDoorRsA
import Derived.Test.YtidndbdjhapfaaaGreatDoorWholeI
import Derived.Test.YtidndbdjhapfaaaGreatDoorMathQ
set_option linter.unusedSimpArgs false
set_option linter.unusedVariables false
set_option maxRecDepth 100000
namespace Go.Proofs.YtidndbdjhapfaaaGreatDoor
open Go.RowKit
attribute [local go_sem] Oper.semAt_some

/-- What isWitness tells. -/
def WitIs (a n : Nat) (b : Bool) : Prop := ∀ t d, n - 1 = 2 ^ t * d → d % 2 = 1 → (b = true ↔ Wit a n t d)

set_option maxHeartbeats 1000000 in
theorem isWitness_any (a n : Nat) (w : World) (ha : a ≤ 1000) (hn : 3 ≤ n) (hn2 : n ≤ 1000000000000000000) (hT : Tb w) :
    Calls Tryz.prog 86 #[.int .i64 a, .int .i64 n] w fun e w' => ∃ b, e = .returned (.bool b) ∧ WitIs a n b ∧ ∃ q, w' = w.drewN q := by
  obtain ⟨t, d, hd, hd2, ht, htz⟩ := tz_any (n - 1) (by omega) (by omega)
  have HTz : Hid (∀ w, Tb w → Calls Tryz.prog 98 #[.int .u64 ((n - 1 : Nat) : Int)] w fun e w' => e = .returned (.int .i64 t) ∧ w' = w) := htz
  have HD : Hid (n - 1 = 2 ^ t * d ∧ d % 2 = 1) := ⟨hd, hd2⟩
  have hn1 : (n : Int) - 1 = ((n - 1 : Nat) : Int) := by omega
  obtain ⟨N, hN⟩ : ∃ N, N = n - 1 := ⟨_, rfl⟩
  have hdn : d ≤ n - 1 := by rw [hd]; exact Nat.le_mul_of_pos_left d (Nat.pow_pos (by decide))
  have hsh : (N : Int) / 2 ^ t = (d : Int) := by
    have e : (N : Int) / 2 ^ t = ((N / 2 ^ t : Nat) : Int) := by simp
    rw [e, hN, hd, Nat.mul_div_cancel_left _ (Nat.pow_pos (by decide))]
  rw [← hN] at hn1 hdn HTz
  have hNn : N + 1 = n := by omega
  have hT' : Hid (Tb w) := hT
  have HOUT : Hid (∀ b, (b = true ↔ Wit a n t d) → WitIs a n b) := by
    intro b hb t' d' h1 h2
    obtain ⟨rfl, rfl⟩ := split_two (hd.symm.trans h1) hd2 h2
    exact hb
  have hu : IntKind.u64.wrap (N : Int) = (N : Int) := wrapN N (by omega)
  clear htz hd hd2 hN hT
  obtain ⟨A, gA⟩ : ∃ A : Nat, A = ((a : Int) % (n : Int)).toNat := ⟨_, rfl⟩
  have HA : Hid (∀ k, A ^ k % n = a ^ k % n) := by
    intro k
    rw [gA, ← Int.natCast_emod, Int.toNat_natCast, ← Nat.pow_mod]
  obtain ⟨x0, gx0⟩ : ∃ x : Nat, x = a ^ d % n := ⟨_, rfl⟩
  have hx0 : x0 < n := by rw [gx0]; exact Nat.mod_lt _ (by omega)
  have HX0 : Hid (x0 = a ^ d % n) := gx0
  have HP : Hid (∀ w, Calls Tryz.prog 31 #[.int .i64 a, .int .i64 d, .int .i64 n] w fun e w' => e = .returned (.int .i64 (x0 : Int)) ∧ ∃ q, w' = w.drewN q) := by
    intro w
    have h := modPower_any (a : Int) d n w (by omega) (by omega) hn2 (by omega)
    rw [← gA, HA.out, ← gx0] at h
    exact h
  clear gA gx0
  go_enter Tryz.func86, Tryz.ntmps86
  go_wp2_with fail
  refine (HTz.out _ hT'.out).mono ?_
  rintro e w1 ⟨rfl, rfl⟩
  go_wp2_with fail
  refine (HP.out _).mono ?_
  rintro e w2 ⟨rfl, q2, rfl⟩
  by_cases h1 : x0 = 1
  · have hb : ((x0 : Int) == 1) = true := by rw [h1]; rfl
    have HF : Hid (WitIs a n false) := HOUT.out false (by
      constructor
      · intro h; cases h
      · intro h; exact absurd (by rw [← HX0.out]; exact h1) h.1)
    go_wp2
    go_ret
    exact ⟨false, rfl, HF.out, q2, rfl⟩
  · have hb : ((x0 : Int) == 1) = false := beq_eq_false_iff_ne.2 (by omega)
    have H1 : Hid (x0 ≠ 1) := h1
    clear h1
    go_wp2
    go_loopw [6, 21] (fun xv iv wx => ∃ i x : Nat, i ≤ t ∧ iv = .int .i64 i ∧ xv = .int .i64 x ∧ x < n ∧ Hid (x = a ^ (d * 2 ^ i) % n ∧ (∀ j, j < i → a ^ (d * 2 ^ j) % n ≠ n - 1) ∧ ∃ q, wx = w1.drewN q)) (fun _ iv _ => t - (intOf iv).toNat)
    case atStart => exact ⟨0, x0, Nat.zero_le _, rfl, rfl, hx0, by rw [HX0.out]; simp, fun j hj => absurd hj (Nat.not_lt_zero _), q2, rfl⟩
    case round =>
      obtain ⟨i, x, hi, rfl, rfl, hx, HR⟩ := hrel
      by_cases hlt : i < t
      · by_cases hxn : x = N
        · have hxb : ((x : Int) == (N : Int)) = true := by rw [hxn]; simp
          have HF : Hid (WitIs a n false) := HOUT.out false (by
            constructor
            · intro h; cases h
            · intro h; exact absurd (by rw [← HR.out.1]; omega) (h.2 i hlt))
          obtain ⟨q, rfl⟩ := HR.out.2.2
          clear hxn
          go_wp2
          go_ret
          exact ⟨false, rfl, HF.out, q, rfl⟩
        · have hxb : ((x : Int) == (N : Int)) = false := beq_eq_false_iff_ne.2 (by omega)
          have HXN : Hid (x ≠ N) := hxn
          have hy2 : x * x % n < n := Nat.mod_lt _ (by omega)
          obtain ⟨y, gy⟩ : ∃ y, y = x * x % n := ⟨_, rfl⟩
          have HY : Hid (y = a ^ (d * 2 ^ (i + 1)) % n) := by
            show _ = _
            rw [gy, HR.out.1, ← Nat.mul_mod, ← Nat.pow_add, Nat.pow_succ, ← Nat.mul_assoc]
            congr 2; omega
          have HYE : Hid (x * x % n = y) := gy.symm
          rw [← gy] at hy2
          clear gy hxn
          go_wp2_with fail
          refine (productLeft_any x x n _ hx hx hn2).mono ?_
          rw [HYE.out]
          rintro e w4 ⟨rfl, q4, rfl⟩
          go_wp2
          go_roundw
          case rel =>
            obtain ⟨q, hq⟩ := HR.out.2.2
            refine ⟨i + 1, y, by omega, by go_num, rfl, hy2, HY.out, fun j hj => ?_, drewN_more ⟨q, hq⟩ _⟩
            by_cases hji : j = i
            · subst hji; rw [← HR.out.1]; have := HXN.out; omega
            · exact HR.out.2.1 j (by omega)
          case measure => simp [intOf]; omega
      · obtain rfl : i = t := by omega
        have HF : Hid (WitIs a n true) := HOUT.out true (by
          constructor
          · intro _; exact ⟨by rw [← HX0.out]; exact H1.out, HR.out.2.1⟩
          · intro _; rfl)
        obtain ⟨q, rfl⟩ := HR.out.2.2
        go_wp2
        go_ret
        exact ⟨true, rfl, HF.out, q, rfl⟩

theorem isWitness_val (a n : Nat) (ha : a ≤ 1000) (hn : 3 ≤ n) (hn2 : n ≤ 1000000000000000000) (hT : ∃ w, Tb w) :
    ∃ b, WitIs a n b ∧ ∀ w, Tb w → Calls Tryz.prog 86 #[.int .i64 a, .int .i64 n] w fun e w' => e = .returned (.bool b) ∧ ∃ q, w' = w.drewN q := by
  obtain ⟨t, d, hd, hd2, ht, _⟩ := tz_any (n - 1) (by omega) (by omega)
  by_cases h : Wit a n t d
  · refine ⟨true, ?_, fun w hw => (isWitness_any a n w ha hn hn2 hw).mono ?_⟩
    · intro t' d' h1 h2
      obtain ⟨rfl, rfl⟩ := split_two (hd.symm.trans h1) hd2 h2
      exact ⟨fun _ => h, fun _ => rfl⟩
    · rintro e w' ⟨b, rfl, hb, hq⟩
      rw [(hb t d hd hd2).2 h]; exact ⟨rfl, hq⟩
  · refine ⟨false, ?_, fun w hw => (isWitness_any a n w ha hn hn2 hw).mono ?_⟩
    · intro t' d' h1 h2
      obtain ⟨rfl, rfl⟩ := split_two (hd.symm.trans h1) hd2 h2
      exact ⟨fun e => (by cases e), fun e => absurd e h⟩
    · rintro e w' ⟨b, rfl, hb, hq⟩
      have : b = false := by
        cases b
        · rfl
        · exact absurd ((hb t d hd hd2).1 rfl) h
      rw [this]; exact ⟨rfl, hq⟩

end Go.Proofs.YtidndbdjhapfaaaGreatDoor
