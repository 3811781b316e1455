/- Contracts: powerIsWithin, root, Root. -/
import Derived.Test.YtknmfohipdjlpaaWholeJ
set_option linter.unusedSimpArgs false
set_option linter.unusedVariables false
namespace Go.Proofs.Ytknmfohipdjlpaa
open Go.RowKit

theorem pow_mono_exp {x i k : Nat} (hx : 1 ≤ x) (h : i ≤ k) : x ^ i ≤ x ^ k := Nat.pow_le_pow_right hx h

set_option maxHeartbeats 1000000 in
theorem within_any (x k n : Nat) (w : World) (hx : 1 ≤ x) (hxb : x ≤ 4000000000000000000) (hk : 1 ≤ k) (hkb : k ≤ 1000) (hn : n ≤ 1000000000000000000) :
    Calls Try.prog 64 #[.int .i64 x, .int .i64 k, .int .i64 n] w fun e w' => e = .returned (.bool (decide (x ^ k ≤ n))) ∧ ∃ q, w' = w.drewN q := by
  have tt : ((x : Int) == 0) = false := beq_eq_false_iff_ne.2 (by omega)
  have eq1 : (n : Int) / (x : Int) = ((n / x : Nat) : Int) := (Int.natCast_ediv ..).symm
  have hq : n / x ≤ n := Nat.div_le_self ..
  obtain ⟨Q, gQ⟩ : ∃ Q, Q = n / x := ⟨_, rfl⟩
  rw [← gQ] at eq1 hq
  have HQ : Hid (Q = n / x) := gQ
  clear gQ
  go_enter Try.func64, Try.ntmps64
  go_wp2
  go_loop [7, 9] (fun rv iv => ∃ i R : Nat, i ≤ k ∧ iv = .int .i64 i ∧ rv = .int .i64 R ∧ R ≤ 1000000000000000000 ∧ Hid (R = x ^ i ∧ (1 ≤ i → R ≤ n))) (fun _ iv => k - (intOf iv).toNat)
  case atStart => exact ⟨0, 1, Nat.zero_le _, rfl, rfl, by omega, rfl, fun h => absurd h (by omega)⟩
  case round =>
    obtain ⟨i, R, hi, rfl, rfl, hR, HR⟩ := hrel
    by_cases hlt : i < k
    · by_cases hgt : Q < R
      · have HF : Hid (¬ x ^ k ≤ n) := by
          show ¬ _
          have h1 : n < R * x := by
            have h2 : n / x < R := by rw [← HQ.out]; exact hgt
            exact (Nat.div_lt_iff_lt_mul (by omega)).1 h2
          have h3 : x ^ (i + 1) ≤ x ^ k := Nat.pow_le_pow_right hx hlt
          rw [Nat.pow_succ, ← HR.out.1] at h3
          omega
        go_wp2
        go_ret
        exact ⟨ret_bool (decide_eq_false HF.out).symm, 0, rfl⟩
      · have hle : R * x ≤ n := by
          have h1 : R ≤ n / x := by rw [← HQ.out]; omega
          have h2 := Nat.mul_le_mul_right x h1
          have h3 := Nat.div_mul_le_self n x
          omega
        have hI : 0 ≤ (R : Int) * (x : Int) ∧ (R : Int) * (x : Int) ≤ 1000000000000000000 := by rw [← Int.natCast_mul]; omega
        have HLE : Hid (R * x ≤ n) := hle
        clear hle
        go_wp2
        go_round
        case rel =>
          refine ⟨i + 1, R * x, by omega, by go_num, by simp, ?_, ?_, fun _ => HLE.out⟩
          · have := HLE.out; omega
          · rw [Nat.pow_succ, ← HR.out.1]
        case measure => simp [intOf]; omega
    · obtain rfl : i = k := by omega
      have HT : Hid (x ^ i ≤ n) := by show _ ≤ _; rw [← HR.out.1]; exact HR.out.2 hk
      go_wp2
      go_ret
      exact ⟨ret_bool (decide_eq_true HT.out).symm, 0, rfl⟩

theorem or_i64 (a b : Nat) (ha : a < 4611686018427387904) (hb : b < 4611686018427387904) : bits .or .i64 (a : Int) (b : Int) = ((a ||| b : Nat) : Int) := by
  have hx : a ||| b < 2 ^ 62 := Nat.or_lt_two_pow (by omega) (by omega)
  have h1 : (BitVec.ofInt 64 (a : Int)).toNat = a := by
    rw [BitVec.ofInt_natCast, BitVec.toNat_ofNat]; exact Nat.mod_eq_of_lt (by omega)
  have h2 : (BitVec.ofInt 64 (b : Int)).toNat = b := by
    rw [BitVec.ofInt_natCast, BitVec.toNat_ofNat]; exact Nat.mod_eq_of_lt (by omega)
  show IntKind.i64.wrap ((BitVec.ofInt 64 (a : Int) ||| BitVec.ofInt 64 (b : Int)).toNat : Int) = _
  rw [BitVec.toNat_or, h1, h2, IntKind.wrap_i64]
  omega

theorem or_top (A e p : Nat) (hp : 2 ^ e = p) (h0 : 0 < p) : A * (2 * p) ||| p = (2 * A + 1) * p := by
  have h2 : 2 ^ (e + 1) = 2 * p := by rw [Nat.pow_succ, hp, Nat.mul_comm]
  have h := Nat.two_pow_add_eq_or_of_lt (i := e + 1) (b := p) (by rw [h2]; omega) A
  rw [h2, Nat.mul_comm] at h
  rw [← h, Nat.add_mul, Nat.one_mul]
  congr 1
  simp only [Nat.mul_assoc, Nat.mul_comm, Nat.mul_left_comm]

theorem two60 : (2 : Nat) ^ 60 = 1152921504606846976 := by decide

theorem try_small (A i e p : Nat) (hie : i + (e + 1) = 60) (hA : A < 2 ^ i) (hp : 2 ^ e = p) : (A + 1) * (2 * p) ≤ 1152921504606846976 := by
  have h2 : 2 ^ (e + 1) = 2 * p := by rw [Nat.pow_succ, hp, Nat.mul_comm]
  have h := Nat.mul_le_mul_right (2 ^ (e + 1)) (show A + 1 ≤ 2 ^ i from hA)
  rw [← Nat.pow_add, hie, two60, h2] at h
  exact h

theorem try_word (A e p : Nat) (hp : 2 ^ e = p) (h0 : 0 < p) (hb : (A + 1) * (2 * p) ≤ 1152921504606846976) : bits .or .i64 ((A : Int) * (2 * p : Nat)) (wrap64 (p : Int)) = (((2 * A + 1) * p : Nat) : Int) := by
  rw [Nat.add_mul, Nat.one_mul] at hb
  have e2 : wrap64 (p : Int) = (p : Int) := by unfold wrap64; omega
  rw [e2, ← Int.natCast_mul, or_i64 _ _ (by omega) (by omega), or_top A e p hp h0]

theorem try_bit (A i : Nat) (hi : i < 60) (hA : A < 2 ^ i) : bits .or .i64 ((A : Int) * 2 ^ (60 - i)) (wrap64 (2 ^ (59 - i))) = (((2 * A + 1) * 2 ^ (59 - i) : Nat) : Int) ∧ (2 * A + 1) * 2 ^ (59 - i) < 1152921504606846976 := by
  obtain ⟨e, he⟩ : ∃ e, e = 59 - i := ⟨_, rfl⟩
  rw [show 60 - i = e + 1 by omega, ← he]
  obtain ⟨p, hp⟩ : ∃ p, 2 ^ e = p := ⟨_, rfl⟩
  have h0 : 0 < p := by rw [← hp]; exact Nat.two_pow_pos e
  have hb := try_small A i e p (by omega) hA hp
  have e1 : (2 : Int) ^ (e + 1) = ((2 * p : Nat) : Int) := by rw [← hp, Nat.mul_comm, ← Nat.pow_succ]; simp
  have e2 : (2 : Int) ^ e = (p : Int) := by rw [← hp]; simp
  rw [e1, e2, hp]
  refine ⟨try_word A e p hp h0 hb, ?_⟩
  have : (2 * A + 1) * p + p = (A + 1) * (2 * p) := by
    rw [Nat.add_mul, Nat.add_mul, Nat.one_mul, Nat.one_mul, Nat.mul_comm 2 A, Nat.mul_assoc]; omega
  omega

set_option maxHeartbeats 1000000 in
theorem root_any (n k : Nat) (w : World) (hk : 1 ≤ k) (hkb : k ≤ 60) (hn : n ≤ 1000000000000000000) :
    Calls Try.prog 40 #[.int .i64 n, .int .i64 k] w fun e w' => ∃ r : Nat, e = .returned (.int .i64 (r : Int)) ∧ r ^ k ≤ n ∧ n < (r + 1) ^ k ∧ r < 1152921504606846976 ∧ ∃ q, w' = w.drewN q := by
  go_enter Try.func40, Try.ntmps40
  go_wp2
  go_loopw [5, 8] (fun av iv wx => ∃ i A : Nat, i ≤ 60 ∧ iv = .int .i64 i ∧ av = .int .i64 (A * 2 ^ (60 - i) : Nat) ∧ A < 2 ^ i ∧ Hid ((A * 2 ^ (60 - i)) ^ k ≤ n ∧ n < ((A + 1) * 2 ^ (60 - i)) ^ k ∧ ∃ q, wx = w.drewN q)) (fun _ iv _ => 60 - (intOf iv).toNat)
  case atStart =>
    refine ⟨0, 0, by omega, rfl, rfl, by decide, ?_, ?_, 0, rfl⟩
    · rw [Nat.zero_mul, Nat.zero_pow hk]; omega
    · have h1 : (2 ^ 60) ^ 1 ≤ (2 ^ 60) ^ k := Nat.pow_le_pow_right (by decide) hk
      simp only [Nat.zero_add, Nat.one_mul, Nat.sub_zero]
      omega
  case round =>
    obtain ⟨i, A, hi, rfl, rfl, hA, HR⟩ := hrel
    by_cases hlt : i < 60
    · obtain ⟨htb, hTl⟩ := try_bit A i hlt hA
      obtain ⟨T, gT⟩ : ∃ T, T = (2 * A + 1) * 2 ^ (59 - i) := ⟨_, rfl⟩
      have hT1 : 1 ≤ T := by rw [gT]; exact Nat.mul_pos (by omega) (Nat.two_pow_pos _)
      rw [← gT] at htb hTl
      have HT : Hid (T = (2 * A + 1) * 2 ^ (59 - i)) := gT
      have HB : Hid (bits .or .i64 ((A : Int) * 2 ^ (60 - i)) (wrap64 (2 ^ (59 - i))) = (T : Int)) := htb
      have h60 : (2 : Nat) ^ (60 - i) = 2 * 2 ^ (59 - i) := by rw [show 60 - i = (59 - i) + 1 by omega, Nat.pow_succ, Nat.mul_comm]
      have HA2 : Hid (A * 2 ^ (60 - i) = 2 * A * 2 ^ (60 - (i + 1))) := by
        show _ = _
        rw [show 60 - (i + 1) = 59 - i by omega, h60]
        simp only [Nat.mul_assoc, Nat.mul_comm, Nat.mul_left_comm]
      have HA3 : Hid ((A + 1) * 2 ^ (60 - i) = (2 * A + 1 + 1) * 2 ^ (60 - (i + 1))) := by
        show _ = _
        rw [show 60 - (i + 1) = 59 - i by omega, h60, show 2 * A + 1 + 1 = 2 * (A + 1) by omega]
        simp only [Nat.mul_assoc, Nat.mul_comm, Nat.mul_left_comm]
      have HP2 : Hid (2 ^ (i + 1) = 2 * 2 ^ i) := by show _ = _; rw [Nat.pow_succ, Nat.mul_comm]
      clear htb gT h60
      go_wp2_with fail
      rw [HB.out]
      refine (within_any T k n _ hT1 (by omega) hk (by omega) hn).mono ?_
      by_cases hle : T ^ k ≤ n
      · have HLE : Hid (T ^ k ≤ n) := hle
        rw [decide_eq_true hle]
        clear hle
        rintro e w1 ⟨rfl, q1, rfl⟩
        go_wp2
        go_roundw
        case rel =>
          obtain ⟨q, hq⟩ := HR.out.2.2
          refine ⟨i + 1, 2 * A + 1, by omega, by go_num, ?_, ?_, ?_, ?_, ?_⟩
          · rw [show 60 - (i + 1) = 59 - i by omega, ← HT.out]
          · have := HP2.out; omega
          · rw [show 60 - (i + 1) = 59 - i by omega, ← HT.out]; exact HLE.out
          · rw [← HA3.out]; exact HR.out.2.1
          · exact drewN_more ⟨q, hq⟩ _
        case measure => simp [intOf]; omega
      · have HLE : Hid (n < T ^ k) := Nat.lt_of_not_le hle
        rw [decide_eq_false hle]
        clear hle
        rintro e w1 ⟨rfl, q1, rfl⟩
        go_wp2
        go_roundw
        case rel =>
          obtain ⟨q, hq⟩ := HR.out.2.2
          refine ⟨i + 1, 2 * A, by omega, by go_num, ?_, ?_, ?_, ?_, ?_⟩
          · rw [← HA2.out]; congr 1
          · have := HP2.out; omega
          · rw [← HA2.out]; exact HR.out.1
          · rw [show 60 - (i + 1) = 59 - i by omega, ← HT.out]; exact HLE.out
          · exact drewN_more ⟨q, hq⟩ _
        case measure => simp [intOf]; omega
    · obtain rfl : i = 60 := by omega
      obtain ⟨q, rfl⟩ := HR.out.2.2
      have H1 := HR.out.1
      have H2 := HR.out.2.1
      simp only [Nat.sub_self, Nat.pow_zero, Nat.mul_one] at H1 H2
      have HH1 : Hid (A ^ k ≤ n) := H1
      have HH2 : Hid (n < (A + 1) ^ k) := H2
      clear H1 H2
      go_wp2
      go_ret
      exact ⟨A, ret_int (by simp), HH1.out, HH2.out, by simpa using hA, q, rfl⟩

set_option maxHeartbeats 400000 in
theorem Root_far (n k : Int) (w : World) (h : numB n = false ∨ n < 0) :
    Calls Try.prog 22 #[.int .i64 n, .int .i64 k] w fun e w' => e = .returned (.tuple #[.int .i64 0, .agg #[.int .i64 3, .int .i64 0]]) ∧ Below w.heap.size w w' := by
  cases hn : numB n
  · clear h
    go_enter Try.func22, Try.ntmps22
    go_wp2_with (go_at_call 39; refine (isNumber_any _ _).mono ?_; rintro e w' ⟨rfl, rfl⟩)
    refine bodyPost_ret (v := .tuple #[.int .i64 0, .agg #[.int .i64 3, .int .i64 0]]) (by simp [results, Try.results22, go_sem]) rfl ⟨rfl, ?_⟩
    exact Below.alloc (Below.refl _ _) (Nat.le_refl _) _
  · have h2 : n < 0 := by rcases h with h | h; (rw [hn] at h; cases h); exact h
    clear h
    go_enter Try.func22, Try.ntmps22
    go_wp2_with (go_at_call 39; refine (isNumber_any _ _).mono ?_; rintro e w' ⟨rfl, rfl⟩)
    refine bodyPost_ret (v := .tuple #[.int .i64 0, .agg #[.int .i64 3, .int .i64 0]]) (by simp [results, Try.results22, go_sem]) rfl ⟨rfl, ?_⟩
    exact Below.alloc (Below.refl _ _) (Nat.le_refl _) _

set_option maxHeartbeats 400000 in
theorem Root_many (n k : Int) (w : World) (hn : numB n = true) (h0 : 0 ≤ n) (h : k < 1 ∨ 60 < k) :
    Calls Try.prog 22 #[.int .i64 n, .int .i64 k] w fun e w' => e = .returned (.tuple #[.int .i64 0, .agg #[.int .i64 3, .int .i64 1]]) ∧ Below w.heap.size w w' := by
  by_cases h1 : k < 1
  · clear h
    go_enter Try.func22, Try.ntmps22
    go_wp2_with (go_at_call 39; refine (isNumber_any _ _).mono ?_; rintro e w' ⟨rfl, rfl⟩)
    refine bodyPost_ret (v := .tuple #[.int .i64 0, .agg #[.int .i64 3, .int .i64 1]]) (by simp [results, Try.results22, go_sem]) rfl ⟨rfl, ?_⟩
    exact Below.alloc (Below.refl _ _) (Nat.le_refl _) _
  · have h2 : 60 < k := by omega
    clear h
    go_enter Try.func22, Try.ntmps22
    go_wp2_with (go_at_call 39; refine (isNumber_any _ _).mono ?_; rintro e w' ⟨rfl, rfl⟩)
    refine bodyPost_ret (v := .tuple #[.int .i64 0, .agg #[.int .i64 3, .int .i64 1]]) (by simp [results, Try.results22, go_sem]) rfl ⟨rfl, ?_⟩
    exact Below.alloc (Below.refl _ _) (Nat.le_refl _) _

set_option maxHeartbeats 400000 in
theorem Root_ok (n k : Nat) (w : World) (hn : numB (n : Int) = true) (h1 : 1 ≤ k) (h2 : k ≤ 60) :
    Calls Try.prog 22 #[.int .i64 n, .int .i64 k] w fun e w' => ∃ r : Nat, e = .returned (.tuple #[.int .i64 (r : Int), .agg #[.int .i64 0, .int .i64 0]]) ∧ r ^ k ≤ n ∧ n < (r + 1) ^ k ∧ r < 1152921504606846976 ∧ Below w.heap.size w w' := by
  have hb := numB_true hn
  go_enter Try.func22, Try.ntmps22
  go_wp2_with (first | (go_at_call 39; refine (isNumber_any _ _).mono ?_; rintro e w' ⟨rfl, rfl⟩) | (go_at_call 40; refine (root_any n k _ h1 h2 (by omega)).mono ?_; rintro e w' ⟨r, rfl, r1, r2, r3, q, rfl⟩))
  refine bodyPost_ret (v := .tuple #[.int .i64 (r : Int), .agg #[.int .i64 0, .int .i64 0]]) (by simp [results, Try.results22, go_sem]) rfl ⟨r, rfl, r1, r2, r3, ?_⟩
  exact ((below_drewN' (Below.alloc (Below.refl _ _) (Nat.le_refl _) _)).setCell (Nat.le_refl _) _).setCell (Nat.le_refl _) _

end Go.Proofs.Ytknmfohipdjlpaa
