import Derived.Test.YtijkanilpblogaeBitsB
import Derived.Test.YtijkanilpblogaeWholeE
import Derived.Test.YtijkanilpblogaeBigB
import Derived.Test.YtijkanilpblogaeWholeD
import Derived.Test.YtijkanilpblogaeQcM
import Derived.Test.YtijkanilpblogaeQfP
import Derived.Test.YtijkanilpblogaeFormReducesWalk
import Derived.Test.YtijkanilpblogaeQcWc
import Derived.Maps.AppendAt
import Derived.Deep.LoopGhost
import Derived.BigRegion
import Derived.Test.YtijkanilpblogaeQfN
import Derived.Deep.Onto
import Derived.Test.YtijkanilpblogaeRegionG
import Derived.Sort.Grow
import Derived.Shelf.Sort.Plain
import Derived.Ground.SlsfProg
import Derived.Shelf.SlSortCmp.WholeK
import Derived.Shelf.SlSortCmp.NoneTotal
import Derived.Test.YtijkanilpblogaeProg
import Derived.Test.YtijkanilpblogaeRegionH
import Derived.Deep.CutBlock
import Derived.Test.YtijkanilpblogaeFormPo
section
/- The contract of modulo.Power: a power by a number, bit by bit. -/
set_option linter.unusedSimpArgs false
set_option linter.unusedVariables false
set_option maxRecDepth 100000
namespace Go.Proofs.Ytijkanilpblogae
open Go.RowKit

/-- One more bit of the exponent. -/
theorem mod_pow_succ (n i : Nat) : n % 2 ^ (i + 1) = n % 2 ^ i + 2 ^ i * (n / 2 ^ i % 2) := by
  rw [Nat.pow_succ, Nat.mod_mul]

theorem pow_sq (A i m : Nat) : (A ^ 2 ^ i % m) * (A ^ 2 ^ i % m) % m = A ^ 2 ^ (i + 1) % m := by
  rw [← Nat.mul_mod, ← Nat.pow_add, Nat.pow_succ]; congr 2; omega

theorem pow_one_bit (A n i m : Nat) (h : n / 2 ^ i % 2 = 1) : (A ^ (n % 2 ^ i) % m) * (A ^ 2 ^ i % m) % m = A ^ (n % 2 ^ (i + 1)) % m := by
  rw [← Nat.mul_mod, ← Nat.pow_add, mod_pow_succ, h, Nat.mul_one]
theorem pow_no_bit (A n i m : Nat) (h : n / 2 ^ i % 2 = 0) : A ^ (n % 2 ^ i) % m = A ^ (n % 2 ^ (i + 1)) % m := by
  rw [mod_pow_succ, h, Nat.mul_zero, Nat.add_zero]

theorem and_one_i64 (a : Nat) (ha : a < 9223372036854775808) : bits .and .i64 (a : Int) 1 = ((a % 2 : Nat) : Int) := by
  have h1 : (BitVec.ofInt 64 (a : Int)).toNat = a := by
    rw [BitVec.ofInt_natCast, BitVec.toNat_ofNat]; exact Nat.mod_eq_of_lt (by omega)
  have h2 : (BitVec.ofInt 64 (1 : Int)).toNat = 1 := by decide
  show IntKind.i64.wrap ((BitVec.ofInt 64 (a : Int) &&& BitVec.ofInt 64 (1 : Int)).toNat : Int) = _
  rw [BitVec.toNat_and, h1, h2, Nat.and_one_is_mod, IntKind.wrap_i64]
  omega

theorem bit_i64 (n i b : Nat) (hn : n < 9223372036854775808) (h : n / 2 ^ i % 2 = b) : bits .and .i64 ((n : Int) / 2 ^ i) 1 = (b : Int) := by
  have e : (n : Int) / 2 ^ i = ((n / 2 ^ i : Nat) : Int) := by simp
  rw [e, and_one_i64 _ (Nat.lt_of_le_of_lt (Nat.div_le_self ..) hn), h]

end Go.Proofs.Ytijkanilpblogae
end

section
/- Contracts: the calls Power and Inverse. -/
set_option linter.unusedSimpArgs false
set_option linter.unusedVariables false
set_option maxRecDepth 100000
namespace Go.Proofs.Ytijkanilpblogae
open Go.RowKit

theorem triple_cells (a b c : Int) (W : World) (B : Nat) (h0 : W.cell? ⟨B, 0, none⟩ = some (.int .i64 a)) (h1 : W.cell? ⟨B, 1, none⟩ = some (.int .i64 b)) (h2 : W.cell? ⟨B, 2, none⟩ = some (.int .i64 c)) :
    ∀ j, j < [a, b, c].length → W.cell? ⟨B, 0 + j, none⟩ = some (.int .i64 ([a, b, c].getD j 0)) := by
  intro j hj
  match j, hj with
  | 0, _ => exact h0
  | 1, _ => exact h1
  | 2, _ => exact h2

def okB3 (a b c : Int) : Bool := numB a && numB b && numB c

theorem okB3_bounds {a b c : Int} (h : okB3 a b c = true) : a.natAbs ≤ 1000000000000000000 ∧ b.natAbs ≤ 1000000000000000000 ∧ c.natAbs ≤ 1000000000000000000 := by
  unfold okB3 at h; rw [Bool.and_eq_true, Bool.and_eq_true] at h
  have h1 := numB_true h.1.1; have h2 := numB_true h.1.2; have h3 := numB_true h.2; omega
theorem okB3_nf {a b c : Int} (h : okB3 a b c = true) : nf 0 [a, b, c] = (0, 0) := by
  unfold okB3 at h; rw [Bool.and_eq_true, Bool.and_eq_true] at h
  simp [nf, h.1.1, h.1.2, h.2]
theorem okB3_ne {a b c : Int} (h : okB3 a b c = false) : ((nf 0 [a, b, c]).1 != 0) = true := by
  unfold okB3 at h; unfold nf nf nf nf; cases h1 : numB a <;> cases h2 : numB b <;> cases h3 : numB c <;> simp_all

theorem okB_ne {a b : Int} (h : okB a b = false) : ((nf 0 [a, b]).1 != 0) = true := by
  unfold okB at h; unfold nf nf nf; cases h1 : numB a <;> cases h2 : numB b <;> simp_all

theorem inv_of_bez {a m u v : Int} (hm : 0 < m) (hg : Int.gcd a m = 1) (h : Bez a m u v) : 0 ≤ u ∧ u < m ∧ (u * a) % m = 1 % m := by
  have h1 := h.low (by omega)
  have h2 := h.high (by omega)
  have h3 := h.lin
  rw [hg] at h2 h3
  refine ⟨h1, by rw [Nat.div_one] at h2; omega, ?_⟩
  have e : u * a = 1 + m * (-v) := by rw [Int.mul_neg, Int.mul_comm m]; omega
  rw [e, Int.add_mul_emod_self_left]

end Go.Proofs.Ytijkanilpblogae
end

section
/- Contracts: powerIsWithin, root, Root. -/
set_option linter.unusedSimpArgs false
set_option linter.unusedVariables false
set_option maxRecDepth 100000
namespace Go.Proofs.Ytijkanilpblogae
open Go.RowKit

theorem pow_mono_exp {x i k : Nat} (hx : 1 ≤ x) (h : i ≤ k) : x ^ i ≤ x ^ k := Nat.pow_le_pow_right hx h

set_option maxHeartbeats 1000000 in
theorem within_any (x k n : Nat) (w : World) (hx : 1 ≤ x) (hxb : x ≤ 4000000000000000000) (hk : 1 ≤ k) (hkb : k ≤ 1000) (hn : n ≤ 1000000000000000000) :
    Calls Try.prog 118 #[.int .i64 x, .int .i64 k, .int .i64 n] w fun e w' => e = .returned (.bool (decide (x ^ k ≤ n))) ∧ ∃ q, w' = w.drewN q := by
  have tt : ((x : Int) == 0) = false := beq_eq_false_iff_ne.2 (by omega)
  have eq1 : (n : Int) / (x : Int) = ((n / x : Nat) : Int) := (Int.natCast_ediv ..).symm
  have hq : n / x ≤ n := Nat.div_le_self ..
  obtain ⟨Q, gQ⟩ : ∃ Q, Q = n / x := ⟨_, rfl⟩
  rw [← gQ] at eq1 hq
  have HQ : Hid (Q = n / x) := gQ
  clear gQ
  go_enter Try.func118, Try.ntmps118
  go_wp2
  go_loop [7, 9] (fun rv iv => ∃ i R : Nat, i ≤ k ∧ iv = .int .i64 i ∧ rv = .int .i64 R ∧ R ≤ 1000000000000000000 ∧ Hid (R = x ^ i ∧ (1 ≤ i → R ≤ n))) (fun _ iv => k - (intOf iv).toNat)
  case atStart => exact ⟨0, 1, Nat.zero_le _, rfl, rfl, by omega, rfl, fun h => absurd h (by omega)⟩
  case round =>
    obtain ⟨i, R, hi, rfl, rfl, hR, HR⟩ := hrel
    by_cases hlt : i < k
    · by_cases hgt : Q < R
      · have HF : Hid (¬ x ^ k ≤ n) := by
          show ¬ _
          have h1 : n < R * x := by
            have h2 : n / x < R := by rw [← HQ.out]; exact hgt
            exact (Nat.div_lt_iff_lt_mul (by omega)).1 h2
          have h3 : x ^ (i + 1) ≤ x ^ k := Nat.pow_le_pow_right hx hlt
          rw [Nat.pow_succ, ← HR.out.1] at h3
          omega
        go_wp2
        go_ret
        exact ⟨ret_bool (decide_eq_false HF.out).symm, 0, rfl⟩
      · have hle : R * x ≤ n := by
          have h1 : R ≤ n / x := by rw [← HQ.out]; omega
          have h2 := Nat.mul_le_mul_right x h1
          have h3 := Nat.div_mul_le_self n x
          omega
        have hI : 0 ≤ (R : Int) * (x : Int) ∧ (R : Int) * (x : Int) ≤ 1000000000000000000 := by rw [← Int.natCast_mul]; omega
        have HLE : Hid (R * x ≤ n) := hle
        clear hle
        go_wp2
        go_round
        case rel =>
          refine ⟨i + 1, R * x, by omega, by go_num, by simp, ?_, ?_, fun _ => HLE.out⟩
          · have := HLE.out; omega
          · rw [Nat.pow_succ, ← HR.out.1]
        case measure => simp [intOf]; omega
    · obtain rfl : i = k := by omega
      have HT : Hid (x ^ i ≤ n) := by show _ ≤ _; rw [← HR.out.1]; exact HR.out.2 hk
      go_wp2
      go_ret
      exact ⟨ret_bool (decide_eq_true HT.out).symm, 0, rfl⟩

theorem or_i64 (a b : Nat) (ha : a < 4611686018427387904) (hb : b < 4611686018427387904) : bits .or .i64 (a : Int) (b : Int) = ((a ||| b : Nat) : Int) := by
  have hx : a ||| b < 2 ^ 62 := Nat.or_lt_two_pow (by omega) (by omega)
  have h1 : (BitVec.ofInt 64 (a : Int)).toNat = a := by
    rw [BitVec.ofInt_natCast, BitVec.toNat_ofNat]; exact Nat.mod_eq_of_lt (by omega)
  have h2 : (BitVec.ofInt 64 (b : Int)).toNat = b := by
    rw [BitVec.ofInt_natCast, BitVec.toNat_ofNat]; exact Nat.mod_eq_of_lt (by omega)
  show IntKind.i64.wrap ((BitVec.ofInt 64 (a : Int) ||| BitVec.ofInt 64 (b : Int)).toNat : Int) = _
  rw [BitVec.toNat_or, h1, h2, IntKind.wrap_i64]
  omega

theorem or_top (A e p : Nat) (hp : 2 ^ e = p) (h0 : 0 < p) : A * (2 * p) ||| p = (2 * A + 1) * p := by
  have h2 : 2 ^ (e + 1) = 2 * p := by rw [Nat.pow_succ, hp, Nat.mul_comm]
  have h := Nat.two_pow_add_eq_or_of_lt (i := e + 1) (b := p) (by rw [h2]; omega) A
  rw [h2, Nat.mul_comm] at h
  rw [← h, Nat.add_mul, Nat.one_mul]
  congr 1
  simp only [Nat.mul_assoc, Nat.mul_comm, Nat.mul_left_comm]

theorem two60 : (2 : Nat) ^ 60 = 1152921504606846976 := by decide

theorem try_small (A i e p : Nat) (hie : i + (e + 1) = 60) (hA : A < 2 ^ i) (hp : 2 ^ e = p) : (A + 1) * (2 * p) ≤ 1152921504606846976 := by
  have h2 : 2 ^ (e + 1) = 2 * p := by rw [Nat.pow_succ, hp, Nat.mul_comm]
  have h := Nat.mul_le_mul_right (2 ^ (e + 1)) (show A + 1 ≤ 2 ^ i from hA)
  rw [← Nat.pow_add, hie, two60, h2] at h
  exact h

theorem try_word (A e p : Nat) (hp : 2 ^ e = p) (h0 : 0 < p) (hb : (A + 1) * (2 * p) ≤ 1152921504606846976) : bits .or .i64 ((A : Int) * (2 * p : Nat)) (wrap64 (p : Int)) = (((2 * A + 1) * p : Nat) : Int) := by
  rw [Nat.add_mul, Nat.one_mul] at hb
  have e2 : wrap64 (p : Int) = (p : Int) := by unfold wrap64; omega
  rw [e2, ← Int.natCast_mul, or_i64 _ _ (by omega) (by omega), or_top A e p hp h0]

theorem try_bit (A i : Nat) (hi : i < 60) (hA : A < 2 ^ i) : bits .or .i64 ((A : Int) * 2 ^ (60 - i)) (wrap64 (2 ^ (59 - i))) = (((2 * A + 1) * 2 ^ (59 - i) : Nat) : Int) ∧ (2 * A + 1) * 2 ^ (59 - i) < 1152921504606846976 := by
  obtain ⟨e, he⟩ : ∃ e, e = 59 - i := ⟨_, rfl⟩
  rw [show 60 - i = e + 1 by omega, ← he]
  obtain ⟨p, hp⟩ : ∃ p, 2 ^ e = p := ⟨_, rfl⟩
  have h0 : 0 < p := by rw [← hp]; exact Nat.two_pow_pos e
  have hb := try_small A i e p (by omega) hA hp
  have e1 : (2 : Int) ^ (e + 1) = ((2 * p : Nat) : Int) := by rw [← hp, Nat.mul_comm, ← Nat.pow_succ]; simp
  have e2 : (2 : Int) ^ e = (p : Int) := by rw [← hp]; simp
  rw [e1, e2, hp]
  refine ⟨try_word A e p hp h0 hb, ?_⟩
  have : (2 * A + 1) * p + p = (A + 1) * (2 * p) := by
    rw [Nat.add_mul, Nat.add_mul, Nat.one_mul, Nat.one_mul, Nat.mul_comm 2 A, Nat.mul_assoc]; omega
  omega

set_option maxHeartbeats 1000000 in
theorem root_any (n k : Nat) (w : World) (hk : 1 ≤ k) (hkb : k ≤ 60) (hn : n ≤ 1000000000000000000) :
    Calls Try.prog 102 #[.int .i64 n, .int .i64 k] w fun e w' => ∃ r : Nat, e = .returned (.int .i64 (r : Int)) ∧ r ^ k ≤ n ∧ n < (r + 1) ^ k ∧ r < 1152921504606846976 ∧ ∃ q, w' = w.drewN q := by
  go_enter Try.func102, Try.ntmps102
  go_wp2
  go_loopw [5, 8] (fun av iv wx => ∃ i A : Nat, i ≤ 60 ∧ iv = .int .i64 i ∧ av = .int .i64 (A * 2 ^ (60 - i) : Nat) ∧ A < 2 ^ i ∧ Hid ((A * 2 ^ (60 - i)) ^ k ≤ n ∧ n < ((A + 1) * 2 ^ (60 - i)) ^ k ∧ ∃ q, wx = w.drewN q)) (fun _ iv _ => 60 - (intOf iv).toNat)
  case atStart =>
    refine ⟨0, 0, by omega, rfl, rfl, by decide, ?_, ?_, 0, rfl⟩
    · rw [Nat.zero_mul, Nat.zero_pow hk]; omega
    · have h1 : (2 ^ 60) ^ 1 ≤ (2 ^ 60) ^ k := Nat.pow_le_pow_right (by decide) hk
      simp only [Nat.zero_add, Nat.one_mul, Nat.sub_zero]
      omega
  case round =>
    obtain ⟨i, A, hi, rfl, rfl, hA, HR⟩ := hrel
    by_cases hlt : i < 60
    · obtain ⟨htb, hTl⟩ := try_bit A i hlt hA
      obtain ⟨T, gT⟩ : ∃ T, T = (2 * A + 1) * 2 ^ (59 - i) := ⟨_, rfl⟩
      have hT1 : 1 ≤ T := by rw [gT]; exact Nat.mul_pos (by omega) (Nat.two_pow_pos _)
      rw [← gT] at htb hTl
      have HT : Hid (T = (2 * A + 1) * 2 ^ (59 - i)) := gT
      have HB : Hid (bits .or .i64 ((A : Int) * 2 ^ (60 - i)) (wrap64 (2 ^ (59 - i))) = (T : Int)) := htb
      have h60 : (2 : Nat) ^ (60 - i) = 2 * 2 ^ (59 - i) := by rw [show 60 - i = (59 - i) + 1 by omega, Nat.pow_succ, Nat.mul_comm]
      have HA2 : Hid (A * 2 ^ (60 - i) = 2 * A * 2 ^ (60 - (i + 1))) := by
        show _ = _
        rw [show 60 - (i + 1) = 59 - i by omega, h60]
        simp only [Nat.mul_assoc, Nat.mul_comm, Nat.mul_left_comm]
      have HA3 : Hid ((A + 1) * 2 ^ (60 - i) = (2 * A + 1 + 1) * 2 ^ (60 - (i + 1))) := by
        show _ = _
        rw [show 60 - (i + 1) = 59 - i by omega, h60, show 2 * A + 1 + 1 = 2 * (A + 1) by omega]
        simp only [Nat.mul_assoc, Nat.mul_comm, Nat.mul_left_comm]
      have HP2 : Hid (2 ^ (i + 1) = 2 * 2 ^ i) := by show _ = _; rw [Nat.pow_succ, Nat.mul_comm]
      clear htb gT h60
      go_wp2_with fail
      rw [HB.out]
      refine (within_any T k n _ hT1 (by omega) hk (by omega) hn).mono ?_
      by_cases hle : T ^ k ≤ n
      · have HLE : Hid (T ^ k ≤ n) := hle
        rw [decide_eq_true hle]
        clear hle
        rintro e w1 ⟨rfl, q1, rfl⟩
        go_wp2
        go_roundw
        case rel =>
          obtain ⟨q, hq⟩ := HR.out.2.2
          refine ⟨i + 1, 2 * A + 1, by omega, by go_num, ?_, ?_, ?_, ?_, ?_⟩
          · rw [show 60 - (i + 1) = 59 - i by omega, ← HT.out]
          · have := HP2.out; omega
          · rw [show 60 - (i + 1) = 59 - i by omega, ← HT.out]; exact HLE.out
          · rw [← HA3.out]; exact HR.out.2.1
          · exact drewN_more ⟨q, hq⟩ _
        case measure => simp [intOf]; omega
      · have HLE : Hid (n < T ^ k) := Nat.lt_of_not_le hle
        rw [decide_eq_false hle]
        clear hle
        rintro e w1 ⟨rfl, q1, rfl⟩
        go_wp2
        go_roundw
        case rel =>
          obtain ⟨q, hq⟩ := HR.out.2.2
          refine ⟨i + 1, 2 * A, by omega, by go_num, ?_, ?_, ?_, ?_, ?_⟩
          · rw [← HA2.out]; congr 1
          · have := HP2.out; omega
          · rw [← HA2.out]; exact HR.out.1
          · rw [show 60 - (i + 1) = 59 - i by omega, ← HT.out]; exact HLE.out
          · exact drewN_more ⟨q, hq⟩ _
        case measure => simp [intOf]; omega
    · obtain rfl : i = 60 := by omega
      obtain ⟨q, rfl⟩ := HR.out.2.2
      have H1 := HR.out.1
      have H2 := HR.out.2.1
      simp only [Nat.sub_self, Nat.pow_zero, Nat.mul_one] at H1 H2
      have HH1 : Hid (A ^ k ≤ n) := H1
      have HH2 : Hid (n < (A + 1) ^ k) := H2
      clear H1 H2
      go_wp2
      go_ret
      exact ⟨A, ret_int (by simp), HH1.out, HH2.out, by simpa using hA, q, rfl⟩

set_option maxHeartbeats 400000 in
theorem Root_far (n k : Int) (w : World) (h : numB n = false ∨ n < 0) :
    Calls Try.prog 76 #[.int .i64 n, .int .i64 k] w fun e w' => e = .returned (.tuple #[.int .i64 0, .agg #[.int .i64 3, .int .i64 0]]) ∧ Below w.heap.size w w' := by
  cases hn : numB n
  · clear h
    go_enter Try.func76, Try.ntmps76
    go_wp2_with (go_at_call 86; refine (isNumber_any _ _).mono ?_; rintro e w' ⟨rfl, rfl⟩)
    refine bodyPost_ret (v := .tuple #[.int .i64 0, .agg #[.int .i64 3, .int .i64 0]]) (by simp [results, Try.results76, go_sem]) rfl ⟨rfl, ?_⟩
    exact Below.alloc (Below.refl _ _) (Nat.le_refl _) _
  · have h2 : n < 0 := by rcases h with h | h; (rw [hn] at h; cases h); exact h
    clear h
    go_enter Try.func76, Try.ntmps76
    go_wp2_with (go_at_call 86; refine (isNumber_any _ _).mono ?_; rintro e w' ⟨rfl, rfl⟩)
    refine bodyPost_ret (v := .tuple #[.int .i64 0, .agg #[.int .i64 3, .int .i64 0]]) (by simp [results, Try.results76, go_sem]) rfl ⟨rfl, ?_⟩
    exact Below.alloc (Below.refl _ _) (Nat.le_refl _) _

set_option maxHeartbeats 400000 in
theorem Root_many (n k : Int) (w : World) (hn : numB n = true) (h0 : 0 ≤ n) (h : k < 1 ∨ 60 < k) :
    Calls Try.prog 76 #[.int .i64 n, .int .i64 k] w fun e w' => e = .returned (.tuple #[.int .i64 0, .agg #[.int .i64 3, .int .i64 1]]) ∧ Below w.heap.size w w' := by
  by_cases h1 : k < 1
  · clear h
    go_enter Try.func76, Try.ntmps76
    go_wp2_with (go_at_call 86; refine (isNumber_any _ _).mono ?_; rintro e w' ⟨rfl, rfl⟩)
    refine bodyPost_ret (v := .tuple #[.int .i64 0, .agg #[.int .i64 3, .int .i64 1]]) (by simp [results, Try.results76, go_sem]) rfl ⟨rfl, ?_⟩
    exact Below.alloc (Below.refl _ _) (Nat.le_refl _) _
  · have h2 : 60 < k := by omega
    clear h
    go_enter Try.func76, Try.ntmps76
    go_wp2_with (go_at_call 86; refine (isNumber_any _ _).mono ?_; rintro e w' ⟨rfl, rfl⟩)
    refine bodyPost_ret (v := .tuple #[.int .i64 0, .agg #[.int .i64 3, .int .i64 1]]) (by simp [results, Try.results76, go_sem]) rfl ⟨rfl, ?_⟩
    exact Below.alloc (Below.refl _ _) (Nat.le_refl _) _

set_option maxHeartbeats 400000 in
theorem Root_ok (n k : Nat) (w : World) (hn : numB (n : Int) = true) (h1 : 1 ≤ k) (h2 : k ≤ 60) :
    Calls Try.prog 76 #[.int .i64 n, .int .i64 k] w fun e w' => ∃ r : Nat, e = .returned (.tuple #[.int .i64 (r : Int), .agg #[.int .i64 0, .int .i64 0]]) ∧ r ^ k ≤ n ∧ n < (r + 1) ^ k ∧ r < 1152921504606846976 ∧ Below w.heap.size w w' := by
  have hb := numB_true hn
  go_enter Try.func76, Try.ntmps76
  go_wp2_with (first | (go_at_call 86; refine (isNumber_any _ _).mono ?_; rintro e w' ⟨rfl, rfl⟩) | (go_at_call 102; refine (root_any n k _ h1 h2 (by omega)).mono ?_; rintro e w' ⟨r, rfl, r1, r2, r3, q, rfl⟩))
  refine bodyPost_ret (v := .tuple #[.int .i64 (r : Int), .agg #[.int .i64 0, .int .i64 0]]) (by simp [results, Try.results76, go_sem]) rfl ⟨r, rfl, r1, r2, r3, ?_⟩
  exact ((below_drewN' (Below.alloc (Below.refl _ _) (Nat.le_refl _) _)).setCell (Nat.le_refl _) _).setCell (Nat.le_refl _) _

end Go.Proofs.Ytijkanilpblogae
end

section
/- Plain facts of the program's points: roots, rows, and that all are there. -/
set_option linter.unusedSimpArgs false
set_option linter.unusedVariables false
set_option maxRecDepth 100000
namespace Go.Proofs.Ytijkanilpblogae

/-- The root of a number, left to whole ones. -/
def isq : Nat → Nat
  | 0 => 0
  | n + 1 => if (isq n + 1) * (isq n + 1) ≤ n + 1 then isq n + 1 else isq n
theorem isq_is : ∀ n, isq n * isq n ≤ n ∧ n < (isq n + 1) * (isq n + 1)
  | 0 => by simp [isq]
  | n + 1 => by
    obtain ⟨h1, h2⟩ := isq_is n
    unfold isq
    split
    · rename_i h3
      refine ⟨h3, ?_⟩
      have : (isq n + 1 + 1) * (isq n + 1 + 1) = (isq n + 1) * (isq n + 1) + 2 * (isq n + 1) + 1 := by grind
      omega
    · rename_i h3
      exact ⟨by omega, by omega⟩
theorem sq_lt_of {a b : Nat} (h : a * a < (b + 1) * (b + 1)) : a ≤ b := by
  rcases Nat.lt_or_ge b a with h1 | h1
  · have := Nat.mul_le_mul (show b + 1 ≤ a by omega) (show b + 1 ≤ a by omega)
    omega
  · exact h1
theorem isq_one {n r : Nat} (h1 : r * r ≤ n) (h2 : n < (r + 1) * (r + 1)) : r = isq n := by
  obtain ⟨h3, h4⟩ := isq_is n
  have := sq_lt_of (a := r) (b := isq n) (by omega)
  have := sq_lt_of (a := isq n) (b := r) (by omega)
  omega
def sqr (n : Int) : Int := (isq n.toNat : Int)
theorem sqr_nn (n : Int) : 0 ≤ sqr n := by unfold sqr; omega
theorem sqr_le {n : Int} (h : 0 ≤ n) : sqr n * sqr n ≤ n := by
  have := (isq_is n.toNat).1
  unfold sqr
  have e : ((isq n.toNat * isq n.toNat : Nat) : Int) = (isq n.toNat : Int) * (isq n.toNat : Int) := Int.natCast_mul ..
  omega
/-- What is t, if its square is n. -/
theorem sqr_sq {t : Int} : sqr (t * t) = t.natAbs := by
  unfold sqr
  have e : (t * t).toNat = t.natAbs * t.natAbs := by
    have : ((t.natAbs * t.natAbs : Nat) : Int) = t * t := by simp [Int.natAbs_mul_self']
    omega
  rw [e, ← isq_one (n := t.natAbs * t.natAbs) (r := t.natAbs) (Nat.le_refl _) (Nat.mul_lt_mul_of_lt_of_le (by omega) (by omega) (by omega))]
theorem le_sqr {t n : Int} (h : t * t ≤ n) : (t.natAbs : Int) ≤ sqr n := by
  have h2 := (isq_is n.toNat).2
  have e : ((t.natAbs * t.natAbs : Nat) : Int) = t * t := by simp [Int.natAbs_mul_self']
  have := sq_lt_of (a := t.natAbs) (b := isq n.toNat) (by omega)
  unfold sqr; omega

/-- All x for which (2 a x + b y)^2 is sq. -/
def ac1 (a b y r : Int) : List Int := if (r - b * y).tmod (2 * a) = 0 then [(r - b * y).tdiv (2 * a)] else []
def acr (a b y sq : Int) : List Int := if sqr sq * sqr sq = sq then (if sqr sq = 0 then ac1 a b y 0 else ac1 a b y (-sqr sq) ++ ac1 a b y (sqr sq)) else []

theorem mem_ac1 {a b y r x : Int} (ha : 1 ≤ a) : x ∈ ac1 a b y r ↔ 2 * a * x + b * y = r := by
  unfold ac1
  have h0 := Int.mul_tdiv_add_tmod (r - b * y) (2 * a)
  split
  · rename_i h
    rw [h] at h0
    simp only [List.mem_singleton]
    constructor
    · rintro rfl; omega
    · intro h1
      have : r - b * y = x * (2 * a) := by rw [Int.mul_comm x]; omega
      rw [this, Int.mul_tdiv_cancel _ (by omega)]
  · rename_i h
    constructor
    · intro h1; simp at h1
    · intro h1
      exfalso
      apply h
      have : r - b * y = x * (2 * a) := by rw [Int.mul_comm x]; omega
      rw [this]; exact Int.mul_tmod_left ..
theorem mem_acr {a b y sq x : Int} (ha : 1 ≤ a) : x ∈ acr a b y sq ↔ (2 * a * x + b * y) * (2 * a * x + b * y) = sq := by
  unfold acr
  generalize ht : 2 * a * x + b * y = t
  constructor
  · intro h
    split at h
    · rename_i h1
      split at h
      · rename_i h2
        rw [mem_ac1 ha, ht] at h
        rw [h2] at h1; subst h; exact h1
      · rw [List.mem_append, mem_ac1 ha, mem_ac1 ha, ht] at h
        rcases h with h | h
        · rw [h, Int.neg_mul_neg]; exact h1
        · rw [h]; exact h1
    · simp at h
  · rintro rfl
    have e := sqr_sq (t := t)
    rw [e]
    have e2 : (t.natAbs : Int) * (t.natAbs : Int) = t * t := by simp [Int.natAbs_mul_self']
    rw [if_pos e2]
    split
    · rw [mem_ac1 ha, ht]; omega
    · rw [List.mem_append, mem_ac1 ha, mem_ac1 ha, ht]; omega
theorem ac1_nodup (a b y r : Int) : (ac1 a b y r).Nodup := by unfold ac1; split <;> simp
theorem ac1_len (a b y r : Int) : (ac1 a b y r).length ≤ 1 := by unfold ac1; split <;> simp
theorem acr_nodup {a b y sq : Int} (ha : 1 ≤ a) : (acr a b y sq).Nodup := by
  unfold acr
  split
  · split
    · exact ac1_nodup ..
    · rename_i h1 h2
      refine List.nodup_append.2 ⟨ac1_nodup .., ac1_nodup .., fun x hx z hz e => ?_⟩
      subst e
      rw [mem_ac1 ha] at hx hz
      omega
  · simp
theorem acr_len (a b y sq : Int) : (acr a b y sq).length ≤ 2 := by
  unfold acr
  have h1 := ac1_len a b y 0
  have h2 := ac1_len a b y (-sqr sq)
  have h3 := ac1_len a b y (sqr sq)
  split
  · split
    · omega
    · rw [List.length_append]; omega
  · simp

/-- 4 A n, as a square and the rest. -/
theorem four_an (g : Qf) (x y : Int) : 4 * g.a * g.at x y = (2 * g.a * x + g.b * y) * (2 * g.a * x + g.b * y) + -g.disc * y * y := by
  unfold Qf.at Qf.disc; grind
theorem at_iff {g : Qf} (ha : 1 ≤ g.a) {x y n : Int} : g.at x y = n ↔ (2 * g.a * x + g.b * y) * (2 * g.a * x + g.b * y) = 4 * g.a * n - -g.disc * y * y := by
  have h := four_an g x y
  constructor
  · rintro rfl; omega
  · intro h1
    refine Int.eq_of_mul_eq_mul_left (a := 4 * g.a) (by omega) ?_
    omega

/-- One row, turned back. -/
def prow (g : Qf) (m : Mt) (n y : Int) : List (Int × Int) := (acr g.a g.b y (4 * g.a * n - -g.disc * y * y)).map fun x => (m.p * x + m.q * y, m.r * x + m.s * y)
/-- The first k rows from -M on. -/
def prows (g : Qf) (m : Mt) (n M : Int) (k : Nat) : List (Int × Int) := (List.range k).flatMap fun i : Nat => prow g m n ((i : Int) - M)
theorem prows_succ (g : Qf) (m : Mt) (n M : Int) (k : Nat) : prows g m n M (k + 1) = prows g m n M k ++ prow g m n ((k : Int) - M) := by
  unfold prows; rw [List.range_succ, List.flatMap_append]; simp
theorem prow_len (g : Qf) (m : Mt) (n y : Int) : (prow g m n y).length ≤ 2 := by unfold prow; rw [List.length_map]; exact acr_len ..
theorem prows_len (g : Qf) (m : Mt) (n M : Int) : ∀ k, (prows g m n M k).length ≤ 2 * k
  | 0 => by simp [prows]
  | k + 1 => by
    rw [prows_succ, List.length_append]
    have := prows_len g m n M k
    have := prow_len g m n ((k : Int) - M)
    omega
theorem mem_prow {g : Qf} {m : Mt} {n y : Int} (ha : 1 ≤ g.a) {a : Int × Int} : a ∈ prow g m n y ↔ ∃ x, g.at x y = n ∧ a = (m.p * x + m.q * y, m.r * x + m.s * y) := by
  unfold prow
  rw [List.mem_map]
  constructor
  · rintro ⟨x, hx, rfl⟩
    exact ⟨x, (at_iff ha).2 ((mem_acr ha).1 hx), rfl⟩
  · rintro ⟨x, hx, rfl⟩
    exact ⟨x, (mem_acr ha).2 ((at_iff ha).1 hx), rfl⟩

theorem turn_inj {m : Mt} (hd : m.p * m.s - m.q * m.r = 1) {x y x' y' : Int} (h1 : m.p * x + m.q * y = m.p * x' + m.q * y') (h2 : m.r * x + m.s * y = m.r * x' + m.s * y') : x = x' ∧ y = y' := by
  have e1 : (m.p * m.s - m.q * m.r) * x = (m.p * m.s - m.q * m.r) * x' := by
    have a1 : m.s * (m.p * x + m.q * y) = m.s * (m.p * x' + m.q * y') := by rw [h1]
    have a2 : m.q * (m.r * x + m.s * y) = m.q * (m.r * x' + m.s * y') := by rw [h2]
    grind
  have e2 : (m.p * m.s - m.q * m.r) * y = (m.p * m.s - m.q * m.r) * y' := by
    have a1 : m.r * (m.p * x + m.q * y) = m.r * (m.p * x' + m.q * y') := by rw [h1]
    have a2 : m.p * (m.r * x + m.s * y) = m.p * (m.r * x' + m.s * y') := by rw [h2]
    grind
  rw [hd] at e1 e2
  omega

theorem prow_nodup {g : Qf} {m : Mt} {n y : Int} (ha : 1 ≤ g.a) (hd : m.p * m.s - m.q * m.r = 1) : (prow g m n y).Nodup := by
  unfold prow
  refine List.Pairwise.map _ (fun a b hab e => ?_) (acr_nodup ha)
  simp only [Prod.mk.injEq] at e
  exact hab (turn_inj hd e.1 e.2).1
theorem prows_nodup {g : Qf} {m : Mt} {n M : Int} (ha : 1 ≤ g.a) (hd : m.p * m.s - m.q * m.r = 1) : ∀ k, (prows g m n M k).Nodup
  | 0 => by simp [prows]
  | k + 1 => by
    rw [prows_succ]
    refine List.nodup_append.2 ⟨prows_nodup ha hd k, prow_nodup ha hd, fun a h1 b h2 e => ?_⟩
    subst e
    unfold prows at h1
    rw [List.mem_flatMap] at h1
    obtain ⟨i, hi, h1⟩ := h1
    rw [List.mem_range] at hi
    rw [mem_prow ha] at h1 h2
    obtain ⟨x, _, rfl⟩ := h1
    obtain ⟨x', _, e⟩ := h2
    simp only [Prod.mk.injEq] at e
    have := (turn_inj hd e.1 e.2).2
    omega

/-- All of them. -/
theorem prows_all {f g : Qf} {m : Mt} {n D M : Int} (h : Rd f g m) (ha : 1 ≤ g.a) (hD : -g.disc = D) (hD0 : 1 ≤ D) (hn : 0 ≤ n) (hM : M = sqr ((4 * g.a * n).tdiv D)) {k : Nat} (hk : (k : Int) = 2 * M + 1) {l : List (Int × Int)} (hp : l.Perm (prows g m n M k)) (hs : l.Pairwise plt) : Pts f n l := by
  have key : ∀ a, a ∈ prows g m n M k ↔ f.at a.1 a.2 = n := fun a => by
    unfold prows
    rw [List.mem_flatMap]
    constructor
    · rintro ⟨i, _, ha2⟩
      rw [mem_prow ha] at ha2
      obtain ⟨x, hx, rfl⟩ := ha2
      rw [← hx]; exact h.like x _
    · intro he
      obtain ⟨X, Y⟩ := a
      simp only [] at he
      have hb := h.back X Y
      rw [he] at hb
      obtain ⟨x, hx⟩ : ∃ x, x = m.s * X - m.q * Y := ⟨_, rfl⟩
      obtain ⟨y, hy⟩ : ∃ y, y = m.p * Y - m.r * X := ⟨_, rfl⟩
      rw [← hx, ← hy] at hb
      have h4 := four_an g x y
      rw [← hb, hD] at h4
      have h5 := sq_nn (2 * g.a * x + g.b * y)
      have h6 : y * y * D ≤ 4 * g.a * n := by
        have : D * y * y = y * y * D := by grind
        omega
      have h7 : y * y ≤ (4 * g.a * n).tdiv D := by
        rw [Int.tdiv_eq_ediv_of_nonneg (Int.mul_nonneg (by omega) hn)]
        exact (Int.le_ediv_iff_mul_le (by omega)).2 h6
      have h8 := le_sqr h7
      rw [← hM] at h8
      refine ⟨(y + M).toNat, List.mem_range.2 (by omega), ?_⟩
      have e : (((y + M).toNat : Nat) : Int) - M = y := by omega
      rw [e, mem_prow ha]
      refine ⟨x, hb.symm, ?_⟩
      have hdt := h.det
      simp only [Prod.mk.injEq]
      constructor
      · have : (m.p * m.s - m.q * m.r) * X = 1 * X := by rw [hdt]
        rw [hx, hy]; grind
      · have : (m.p * m.s - m.q * m.r) * Y = 1 * Y := by rw [hdt]
        rw [hx, hy]; grind
  exact ⟨fun a ha => (key a).1 (hp.mem_iff.1 ha), fun x y hxy => hp.mem_iff.2 ((key (x, y)).2 hxy), hs⟩
end Go.Proofs.Ytijkanilpblogae
end

section
/- The program: quad.squareRoot. -/
set_option linter.unusedSimpArgs false
set_option linter.unusedVariables false
set_option maxRecDepth 100000
namespace Go.Proofs.Ytijkanilpblogae
open Go.RowKit

set_option maxHeartbeats 1000000 in
theorem squareRoot_any (n : Int) (w : World) (h0 : 0 ≤ n) (h1 : n ≤ 1000000000000000000) :
    Calls Try.prog 55 #[.int .i64 n] w fun e w' => e = .returned (.int .i64 (sqr n)) ∧ Below w.heap.size w w' := by
  have HR : Hid (∀ w, Calls Try.prog 76 #[.int .i64 n, .int .i64 2] w fun e w' => e = .returned (.tuple #[.int .i64 (sqr n), .agg #[.int .i64 0, .int .i64 0]]) ∧ Below w.heap.size w w') := fun w => by
    obtain ⟨m, rfl⟩ : ∃ m : Nat, n = m := ⟨n.toNat, by omega⟩
    refine (Root_ok m 2 w (by unfold numB; simp; omega) (by decide) (by decide)).mono ?_
    rintro e w' ⟨r, rfl, r1, r2, _, k⟩
    have e1 : r = isq m := isq_one (by simpa [Nat.pow_two] using r1) (by simpa [Nat.pow_two] using r2)
    subst e1
    exact ⟨by unfold sqr; simp, k⟩
  obtain ⟨R, hR⟩ : ∃ R, sqr n = R := ⟨_, rfl⟩
  rw [hR] at HR ⊢
  clear hR h0 h1
  go_enter Try.func55, Try.ntmps55
  go_wp2_with fail
  refine (HR.out _).mono ?_
  rintro e w1 ⟨rfl, k1⟩
  have HK : Hid (Below w.heap.size w w1) := k1
  clear k1
  go_wp2
  go_ret
  exact ⟨rfl, HK.out.trans ((al1 _ _).mono HK.out.size)⟩

end Go.Proofs.Ytijkanilpblogae
end

section
/- The program: slices.Compact of two, across. -/
set_option linter.unusedSimpArgs false
set_option linter.unusedVariables false
set_option maxRecDepth 100000
namespace Go.Proofs.Ytijkanilpblogae
open Go.RowKit

set_option maxHeartbeats 4000000 in
/-- Two that differ. -/
theorem Compact_two (x y : Int) (b : Nat) (w : World) (hxy : (y == x) = false) (h : Cl b [.int .i64 x, .int .i64 y] 3 w) :
    Calls Try.prog 77 #[.slice (some ⟨b, 0, none⟩) 2 2] w fun e w' => e = .returned (.slice (some ⟨b, 0, none⟩) 2 2) ∧ ∃ q, w' = w.drewN q := by
  have HC : Hid (Cl b [.int .i64 x, .int .i64 y] 3 w) := h
  clear h
  go_enter Try.func77, Try.ntmps77
  go_wp2
  go_loopw [3] (fun kv wx => (kv = .int .i64 1 ∨ kv = .int .i64 2) ∧ Hid (∃ q, wx = w.drewN q)) (fun kv _ => 2 - (intOf kv).toNat)
  case atStart => exact ⟨.inl rfl, 0, rfl⟩
  case round =>
    obtain ⟨hk, HW⟩ := hrel
    obtain ⟨q, hq⟩ := HW.out
    have C := HC.out.drewN (n := q)
    rw [← hq] at C
    have c0 : wr.cell? ⟨b, 0, none⟩ = some (.int .i64 x) := C.cell 0
    have c1 : wr.cell? ⟨b, 1, none⟩ = some (.int .i64 y) := C.cell 1
    have HQ : Hid (wr = w.drewN q) := hq
    clear hq C HW
    rcases hk with rfl | rfl
    · go_wp2
      go_region
      go_wp2
      go_roundw
      case rel => exact ⟨.inr rfl, q + 1, by rw [HQ.out]; rfl⟩
      case measure => simp [intOf]
    · go_wp2
      go_ret
      exact ⟨rfl, q, HQ.out⟩

set_option maxHeartbeats 4000000 in
/-- Two that are 0. -/
theorem Compact_zero (b : Nat) (w : World) (h : Cl b [.int .i64 0, .int .i64 0] 3 w) :
    Calls Try.prog 77 #[.slice (some ⟨b, 0, none⟩) 2 2] w fun e w' => e = .returned (.slice (some ⟨b, 0, none⟩) 1 2) ∧ ∃ q, w' = (w.setCell ⟨b, 1, none⟩ (.int .i64 0)).drewN q := by
  have HC : Hid (Cl b [.int .i64 0, .int .i64 0] 3 w) := h
  have c0 : w.cell? ⟨b, 0, none⟩ = some (.int .i64 0) := h.cell 0
  have c1 : w.cell? ⟨b, 1, none⟩ = some (.int .i64 0) := h.cell 1
  have f1 : w.frozen? ⟨b, 1, none⟩ = false := h.frozen _
  have lt := h.lt
  clear h
  go_enter Try.func77, Try.ntmps77
  go_wp2
  go_loopw [3] (fun kv wx => kv = .int .i64 1 ∧ wx = w) (fun kv _ => 2 - (intOf kv).toNat)
  case atStart => exact ⟨rfl, rfl⟩
  case round =>
    obtain ⟨rfl, rfl⟩ := hrel
    go_wp2
    go_region
    go_wp2
    have cc : ∀ j, j < 1 → (wr.drew.cell? ⟨b, 1 + j, none⟩).isSome = true := by
      intro j hj
      obtain rfl : j = 0 := by omega
      show (wr.cell? ⟨b, 1, none⟩).isSome = true
      rw [c1]; rfl
    have ff : ∀ j, j < 1 → wr.drew.frozen? ⟨b, 1 + j, none⟩ = false := by
      intro j hj
      obtain rfl : j = 0 := by omega
      exact f1
    have hcl : ∀ ty, (Builtin.clear_ #[47] ty #[.slice (some ⟨b, 1, none⟩) 1 1]).run Try.prog wr.drew = .ok (.tuple #[]) (wr.drew.setCell ⟨b, 1, none⟩ (.int .i64 0)) := fun ty =>
      Lib.run_clear_slice wr.drew _ _ ty _ Try.underlying47 Try.zeroValue3 rfl rfl b 1 1 1 (by omega) cc ff
    clear cc ff
    go_loopw [3, 5] (fun kv jv wx => kv = .int .i64 1 ∧ jv = .int .i64 1 ∧ wx = wr.drew) (fun _ jv _ => 0)
    case atStart => exact ⟨rfl, rfl, rfl⟩
    case round =>
      obtain ⟨rfl, rfl, rfl⟩ := hrel
      go_wp2
      go_ret
      exact ⟨rfl, 1, rfl⟩

end Go.Proofs.Ytijkanilpblogae
end

section
/- The program: across. -/
set_option linter.unusedSimpArgs false
set_option linter.unusedVariables false
set_option maxRecDepth 100000
namespace Go.Proofs.Ytijkanilpblogae
open Go.RowKit

def icl (l : List Int) : List Value := l.map fun i => .int .i64 i
theorem Try.infoIntP : (Try.prog.info? 3).map (fun i => (i.zero, i.size, i.bytes)) = some (some (.int .i64 0), 1, 8) := by kernel_rfl
theorem Ms.grow1 {l : List (Nat × List Value × TypeId)} {w W W1 : World} {row : Option Nat} (h : Ms l w W) (hg : W.grownBy W1 row) (h1 : ∀ x ∈ l, row ≠ some x.1) (h2 : ∀ g, row = some g → w.heap.size ≤ g) : Ms l w W1 :=
  ⟨fun x hx => (h.1 x hx).grown hg (h1 x hx), h.2.grown hg h.2.size h2⟩
theorem take_len (a b y : Int) (rs : List Int) : ∀ i, ((rs.take i).flatMap (ac1 a b y)).length ≤ rs.length := fun i => by
  have key : ∀ l : List Int, (l.flatMap (ac1 a b y)).length ≤ l.length := fun l => by
    induction l with
    | nil => simp
    | cons r l ih =>
      rw [List.flatMap_cons, List.length_append]
      have := ac1_len a b y r
      simp only [List.length_cons]
      omega
  have h1 := key (rs.take i)
  have h2 : (rs.take i).length ≤ rs.length := by rw [List.length_take]; omega
  omega

set_option maxRecDepth 100000 in
set_option maxHeartbeats 8000000 in
theorem across_any (g : Qf) (y sq : Int) (w : World) (ha : 1 ≤ g.a ∧ g.a ≤ 1000000) (hb : -1000000 ≤ g.b ∧ g.b ≤ 1000000) (hy : -2000000 ≤ y ∧ y ≤ 2000000) (hs : 0 ≤ sq ∧ sq ≤ 4000000000000) :
    Calls Try.prog 56 #[g.v, .int .i64 y, .int .i64 sq] w fun e w' => ∃ l : List Int, l = acr g.a g.b y sq ∧ ∃ (a : Option Addr) (c : Nat), e = .returned (.slice a l.length c) ∧ w'.ownsRow w.heap.size 3 1 (.slice a l.length c) l.length (icl l) ∧ Below w.heap.size w w' := by
  obtain ⟨j0, hj, hk0, hk1, hk2⟩ := info_parts Try.infoIntP
  have HJ : Hid (Try.prog.info? 3 = some j0 ∧ j0.zero = some (.int .i64 0) ∧ j0.size = 1 ∧ j0.bytes = 8) := ⟨hj, hk0, hk1, hk2⟩
  clear hj hk0 hk1 hk2
  obtain ⟨R, hR⟩ : ∃ R, sqr sq = R := ⟨_, rfl⟩
  have HSq : Hid (∀ w, Calls Try.prog 55 #[.int .i64 sq] w fun e w' => e = .returned (.int .i64 R) ∧ Below w.heap.size w w') := fun w => by rw [← hR]; exact squareRoot_any sq w hs.1 (by omega)
  have hR0 : 0 ≤ R := by rw [← hR]; exact sqr_nn _
  have hR1 : R * R ≤ sq := by rw [← hR]; exact sqr_le hs.1
  have hR2 : R ≤ 2000000 := by
    rcases Int.lt_or_le 2000000 R with k | k
    · have : 2000001 * 2000001 ≤ R * R := Int.mul_le_mul (by omega) (by omega) (by omega) (by omega)
      omega
    · exact k
  obtain ⟨L0, hL0⟩ : ∃ L0, L0 = acr g.a g.b y sq := ⟨_, rfl⟩
  rw [← hL0]
  have HL0 : Hid (L0 = if R * R = sq then (if R = 0 then ac1 g.a g.b y 0 else ac1 g.a g.b y (-R) ++ ac1 g.a g.b y R) else []) := by show _ = _; rw [hL0, acr, hR]
  clear hL0 hR
  obtain ⟨Q, hQ⟩ : ∃ Q, R * R = Q := ⟨_, rfl⟩
  have hQb : 0 ≤ Q ∧ Q ≤ 4000000000000 := by rw [← hQ]; exact ⟨sq_nn R, by omega⟩
  obtain ⟨P, hP⟩ : ∃ P, g.b * y = P := ⟨_, rfl⟩
  have HP : Hid (g.b * y = P) := hP
  have hPb : -2000000000000 ≤ P ∧ P ≤ 2000000000000 := by
    rw [← hP]
    have y1 : (g.b * y).natAbs = g.b.natAbs * y.natAbs := Int.natAbs_mul ..
    have y2 : g.b.natAbs * y.natAbs ≤ 1000000 * 2000000 := Nat.mul_le_mul (by omega) (by omega)
    omega
  have t0 : ((2 * g.a : Int) == 0) = false := beq_eq_false_iff_ne.2 (by omega)
  rw [hQ] at HL0 hR1
  unfold Qf.v
  go_enter Try.func56, Try.ntmps56
  go_wp2_with fail
  have M0 : Ms [(w.heap.size, g.l, 32)] w (w.alloc (.cells #[.int .i64 g.a, .int .i64 g.b, .int .i64 g.c] 32)) := ⟨fun x hx => by simp only [List.mem_cons, List.not_mem_nil, or_false] at hx; subst hx; exact Cl.new g.l _ w, al1 _ _⟩
  refine (HSq.out _).mono ?_
  rintro e w1 ⟨rfl, k1⟩
  have HM1 : Hid (Ms [(w.heap.size, g.l, 32)] w w1) := M0.below k1
  clear M0 k1 HSq
  cases hne : (Q != sq)
  · have HM2 : Hid (Ms [(w1.heap.size, [.int .i64 (-R), .int .i64 R], 3), (w.heap.size, g.l, 32)] w (w1.alloc (.cells #[.int .i64 (-R), .int .i64 R] 3))) := HM1.out.new _ _
    have hlt : w.heap.size < w1.heap.size := HM1.out.lt _ (.head _)
    have hQe : Q = sq := by simpa using hne
    rw [if_pos hQe] at HL0
    by_cases hR00 : R = 0
    · subst hR00
      have HCp : Hid (∀ W, Cl w1.heap.size [.int .i64 0, .int .i64 0] 3 W → Calls Try.prog 77 #[.slice (some ⟨w1.heap.size, 0, none⟩) 2 2] W fun e w' => e = .returned (.slice (some ⟨w1.heap.size, 0, none⟩) 1 2) ∧ ∃ q, w' = (W.setCell ⟨w1.heap.size, 1, none⟩ (.int .i64 0)).drewN q) := fun W h => Compact_zero _ W h
      go_wp2_with fail
      refine (HCp.out _ (HM2.out.1 _ (.head _))).mono ?_
      rintro e W3 ⟨rfl, q, hq⟩
      have HM3 : Hid (Ms [(w1.heap.size, [.int .i64 (-0), .int .i64 0], 3), (w.heap.size, g.l, 32)] w W3) := by
        rw [hq]
        refine Ms.below ?_ (below_drewN' (Below.refl _ _))
        have c1 := (HM2.out.1 _ (.head _)).set 1 (.int .i64 0)
        refine Ms.cons ⟨fun x hx => ?_, HM2.out.2.setCell (by show w.heap.size ≤ w1.heap.size; omega) _⟩ c1
        simp only [List.mem_cons, List.not_mem_nil, or_false] at hx
        subst hx
        exact (HM2.out.1 _ (.tail _ (.head _))).other (by show w.heap.size ≠ w1.heap.size; omega) _
      have HLT : Hid (w.heap.size < w1.heap.size ∧ w1.heap.size < W3.heap.size) := ⟨hlt, HM3.out.lt _ (.head _)⟩
      clear hq hlt HM1 HM2 HCp
      go_wp2_with fail
      obtain ⟨rs, hrs⟩ : ∃ rs : List Int, rs = [0] := ⟨_, rfl⟩
      have HRS : Hid (∀ (i : Nat) (r : Int), rs[i]? = some r → [Value.int .i64 (-0), Value.int .i64 0][i]? = some (Value.int .i64 r)) := by
        intro i r h
        rw [hrs] at h
        match i, h with
        | 0, h => simp at h; subst h; rfl
      have HRB : Hid (∀ r ∈ rs, -2000000 ≤ r ∧ r ≤ 2000000) := by intro r h; rw [hrs] at h; simp at h; omega
      have HAll : Hid (rs.flatMap (ac1 g.a g.b y) = L0) := by show _ = _; rw [hrs, HL0.out]; simp
      have HLen : Hid (rs.length = 1) := by rw [hrs]; exact rfl
      clear hrs
      go_loopg [8, 25] 1 (fun gk ov iv wx => ∃ (i : Nat) (l : List Int) (a : Option Addr) (c : Nat), ov = .slice a l.length c ∧ iv = .int .i64 i ∧ i ≤ 1 ∧ Hid (gk = 1 - i ∧ l = (rs.take i).flatMap (ac1 g.a g.b y) ∧ wx.ownsRow W3.heap.size 3 1 (.slice a l.length c) l.length (icl l) ∧ W3.heap.size ≤ wx.heap.size ∧ Ms [(w1.heap.size, [.int .i64 (-0), .int .i64 0], 3), (w.heap.size, g.l, 32)] w wx))
      case atStart => exact ⟨0, [], none, 0, rfl, rfl, Nat.zero_le _, rfl, rfl, World.ownsRow_nil _ _ _ _, Nat.le_refl _, HM3.out⟩
      case round =>
        clear HM3
        obtain ⟨i, l, a, c, rfl, rfl, hi, HR⟩ := hrel
        have HGi : Hid (gk = 1 - i) := HR.out.1
        have HLi : Hid (l = (rs.take i).flatMap (ac1 g.a g.b y)) := HR.out.2.1
        have HRo : Hid (wr.ownsRow W3.heap.size 3 1 (.slice a l.length c) l.length (icl l)) := HR.out.2.2.1
        have hW3r : W3.heap.size ≤ wr.heap.size := HR.out.2.2.2.1
        have HMi : Hid (Ms [(w1.heap.size, [.int .i64 (-0), .int .i64 0], 3), (w.heap.size, g.l, 32)] w wr) := HR.out.2.2.2.2
        have hll : l.length ≤ 2 := by have := take_len g.a g.b y rs i; rw [← HLi.out, HLen.out] at this; omega
        clear HR
        by_cases hix : i < 1
        · have bi : decide ((i : Int) < 1) = true := decide_eq_true (by omega)
          obtain ⟨r, hr⟩ : ∃ r, rs[i]? = some r := ⟨_, List.getElem?_eq_getElem (by rw [HLen.out]; exact hix)⟩
          have z0 : wr.cell? ⟨w1.heap.size, i, none⟩ = some (.int .i64 r) := by
            rw [(HMi.out.1 _ (.head _)).cell i]; exact HRS.out i r hr
          have hrb : -2000000 ≤ r ∧ r ≤ 2000000 := by
            have := HRB.out r (List.mem_of_getElem? hr)
            omega
          have z1 := (HMi.out.1 _ (.tail _ (.head _))).cell 0
          have z2 := (HMi.out.1 _ (.tail _ (.head _))).cell 1
          simp at z1 z2
          have HTk : Hid ((rs.take (i + 1)).flatMap (ac1 g.a g.b y) = l ++ ac1 g.a g.b y r) := by
            show _ = _
            rw [HLi.out, List.take_add_one, hr]; simp
          obtain ⟨U, hU⟩ : ∃ U, U = r - P := ⟨_, rfl⟩
          obtain ⟨T, hT⟩ : ∃ T, U.tmod (2 * g.a) = T := ⟨_, rfl⟩
          obtain ⟨X, hX⟩ : ∃ X, U.tdiv (2 * g.a) = X := ⟨_, rfl⟩
          have HAc : Hid (ac1 g.a g.b y r = if T = 0 then [X] else []) := by
            show _ = _
            unfold ac1; rw [HP.out, ← hU, hT, hX]
          have hUb : -3000000000000 ≤ U ∧ U ≤ 3000000000000 := by omega
          have hTb : -3000000000000 ≤ T ∧ T ≤ 3000000000000 := by
            have h1 : T.natAbs = U.natAbs % (2 * g.a).natAbs := by rw [← hT]; exact Int.natAbs_tmod ..
            have h2 := Nat.mod_le U.natAbs (2 * g.a).natAbs
            omega
          have hXb : -3000000000000 ≤ X ∧ X ≤ 3000000000000 := by
            have h1 : X.natAbs = U.natAbs / (2 * g.a).natAbs := by rw [← hX]; exact Int.natAbs_tdiv ..
            have h2 := Nat.div_le_self U.natAbs (2 * g.a).natAbs
            omega
          have hU2 : r - P = U := hU.symm
          clear hU hr
          cases hT0 : (T == 0)
          · have HN : Hid (l = (rs.take (i + 1)).flatMap (ac1 g.a g.b y)) := by
              show _ = _
              rw [HTk.out, HAc.out, if_neg (by simpa using hT0)]; simp
            go_wp2
            go_roundg (1 - (i + 1))
            case rel => exact ⟨i + 1, l, a, c, rfl, by go_num, by omega, rfl, HN.out, HRo.out, hW3r, HMi.out⟩
            case measure => have := HGi.out; omega
          · have HN : Hid (l ++ [X] = (rs.take (i + 1)).flatMap (ac1 g.a g.b y)) := by
              show _ = _
              rw [HTk.out, HAc.out, if_pos (by simpa using hT0)]
            go_wp2_with (at_builtin; refine wpList_append_own _ rfl _ _ 47 rfl W3.heap.size 3 j0 (.int .i64 0) 1 8 Try.underlying47 HJ.out.1 HJ.out.2.1 HJ.out.2.2.1 HJ.out.2.2.2 rfl (by decide) (.slice a l.length c) l.length (icl l) rfl (HRo.out.alloc _) ⟨wr.heap.size, 0, none⟩ 1 1 [.int .i64 X] rfl rfl (Cl.new [.int .i64 X] 3 wr).news (by simp [Value.oneCell']) (by simp only [maxLen]; omega) (by omega) (by simp; omega) ?_; intro v' w6 hown' hgrow _; obtain ⟨g', cap', rfl⟩ := ownsRow_succ hown')
            have hrow : ∀ k, (Value.slice a l.length c).ownBlock = some k → W3.heap.size ≤ k := fun k e => (HRo.out.lt k e).1
            have HE : Hid (w6.ownsRow W3.heap.size 3 1 (.slice (some ⟨g', 0, none⟩) (l ++ [X]).length cap') (l ++ [X]).length (icl (l ++ [X])) ∧ W3.heap.size ≤ w6.heap.size ∧ Ms [(w1.heap.size, [.int .i64 (-0), .int .i64 0], 3), (w.heap.size, g.l, 32)] w w6) := by
              refine ⟨?_, ?_, ?_⟩
              · rw [List.length_append, show icl (l ++ [X]) = icl l ++ [.int .i64 X] by simp [icl]]
                exact hown'
              · have := hgrow.size
                simp at this
                omega
              · refine (HMi.out.below (al1 _ _)).grow1 hgrow (fun y hy e => ?_) (fun g e => ?_)
                · have h1 := hrow _ e
                  simp only [List.mem_cons, List.not_mem_nil, or_false] at hy
                  have h2 := HLT.out
                  rcases hy with rfl | rfl
                  · simp at h1; omega
                  · simp at h1; omega
                · have h1 := hrow _ e
                  have h2 := HLT.out
                  omega
            clear hown' hgrow hrow
            go_wp2
            go_roundg (1 - (i + 1))
            case rel => exact ⟨i + 1, l ++ [X], some ⟨g', 0, none⟩, cap', by simp, by go_num, by omega, rfl, HN.out, HE.out⟩
            case measure => have := HGi.out; omega
        · obtain rfl : i = 1 := by omega
          have bi : decide ((1 : Int) < 1) = false := decide_eq_false (by omega)
          have HLe : Hid (l = L0) := by show _ = _; rw [HLi.out, ← HLen.out, List.take_length, HAll.out]
          go_wp2
          go_ret
          refine ⟨l, HLe.out, a, c, rfl, HRo.out.mono (by have := HLT.out; omega), HMi.out.2⟩
    · have HCp : Hid (∀ W, Cl w1.heap.size [.int .i64 (-R), .int .i64 R] 3 W → Calls Try.prog 77 #[.slice (some ⟨w1.heap.size, 0, none⟩) 2 2] W fun e w' => e = .returned (.slice (some ⟨w1.heap.size, 0, none⟩) 2 2) ∧ ∃ q, w' = W.drewN q) := fun W h => Compact_two _ _ _ W (beq_eq_false_iff_ne.2 (by omega)) h
      go_wp2_with fail
      refine (HCp.out _ (HM2.out.1 _ (.head _))).mono ?_
      rintro e W3 ⟨rfl, q, hq⟩
      have HM3 : Hid (Ms [(w1.heap.size, [.int .i64 (-R), .int .i64 R], 3), (w.heap.size, g.l, 32)] w W3) := by
        rw [hq]
        exact HM2.out.below (below_drewN' (Below.refl _ _))
      have HLT : Hid (w.heap.size < w1.heap.size ∧ w1.heap.size < W3.heap.size) := ⟨hlt, HM3.out.lt _ (.head _)⟩
      clear hq hlt HM1 HM2 HCp
      go_wp2_with fail
      obtain ⟨rs, hrs⟩ : ∃ rs : List Int, rs = [-R, R] := ⟨_, rfl⟩
      have HRS : Hid (∀ (i : Nat) (r : Int), rs[i]? = some r → [Value.int .i64 (-R), Value.int .i64 R][i]? = some (Value.int .i64 r)) := by
        intro i r h
        rw [hrs] at h
        match i, h with
        | 0, h => simp at h; subst h; rfl
        | 1, h => simp at h; subst h; rfl
      have HRB : Hid (∀ r ∈ rs, -2000000 ≤ r ∧ r ≤ 2000000) := by intro r h; rw [hrs] at h; simp at h; omega
      have HAll : Hid (rs.flatMap (ac1 g.a g.b y) = L0) := by show _ = _; rw [hrs, HL0.out, if_neg hR00]; simp
      have HLen : Hid (rs.length = 2) := by rw [hrs]; exact rfl
      clear hrs
      go_loopg [8, 25] 2 (fun gk ov iv wx => ∃ (i : Nat) (l : List Int) (a : Option Addr) (c : Nat), ov = .slice a l.length c ∧ iv = .int .i64 i ∧ i ≤ 2 ∧ Hid (gk = 2 - i ∧ l = (rs.take i).flatMap (ac1 g.a g.b y) ∧ wx.ownsRow W3.heap.size 3 1 (.slice a l.length c) l.length (icl l) ∧ W3.heap.size ≤ wx.heap.size ∧ Ms [(w1.heap.size, [.int .i64 (-R), .int .i64 R], 3), (w.heap.size, g.l, 32)] w wx))
      case atStart => exact ⟨0, [], none, 0, rfl, rfl, Nat.zero_le _, rfl, rfl, World.ownsRow_nil _ _ _ _, Nat.le_refl _, HM3.out⟩
      case round =>
        clear HM3
        obtain ⟨i, l, a, c, rfl, rfl, hi, HR⟩ := hrel
        have HGi : Hid (gk = 2 - i) := HR.out.1
        have HLi : Hid (l = (rs.take i).flatMap (ac1 g.a g.b y)) := HR.out.2.1
        have HRo : Hid (wr.ownsRow W3.heap.size 3 1 (.slice a l.length c) l.length (icl l)) := HR.out.2.2.1
        have hW3r : W3.heap.size ≤ wr.heap.size := HR.out.2.2.2.1
        have HMi : Hid (Ms [(w1.heap.size, [.int .i64 (-R), .int .i64 R], 3), (w.heap.size, g.l, 32)] w wr) := HR.out.2.2.2.2
        have hll : l.length ≤ 2 := by have := take_len g.a g.b y rs i; rw [← HLi.out, HLen.out] at this; omega
        clear HR
        by_cases hix : i < 2
        · have bi : decide ((i : Int) < 2) = true := decide_eq_true (by omega)
          obtain ⟨r, hr⟩ : ∃ r, rs[i]? = some r := ⟨_, List.getElem?_eq_getElem (by rw [HLen.out]; exact hix)⟩
          have z0 : wr.cell? ⟨w1.heap.size, i, none⟩ = some (.int .i64 r) := by
            rw [(HMi.out.1 _ (.head _)).cell i]; exact HRS.out i r hr
          have hrb : -2000000 ≤ r ∧ r ≤ 2000000 := by
            have := HRB.out r (List.mem_of_getElem? hr)
            omega
          have z1 := (HMi.out.1 _ (.tail _ (.head _))).cell 0
          have z2 := (HMi.out.1 _ (.tail _ (.head _))).cell 1
          simp at z1 z2
          have HTk : Hid ((rs.take (i + 1)).flatMap (ac1 g.a g.b y) = l ++ ac1 g.a g.b y r) := by
            show _ = _
            rw [HLi.out, List.take_add_one, hr]; simp
          obtain ⟨U, hU⟩ : ∃ U, U = r - P := ⟨_, rfl⟩
          obtain ⟨T, hT⟩ : ∃ T, U.tmod (2 * g.a) = T := ⟨_, rfl⟩
          obtain ⟨X, hX⟩ : ∃ X, U.tdiv (2 * g.a) = X := ⟨_, rfl⟩
          have HAc : Hid (ac1 g.a g.b y r = if T = 0 then [X] else []) := by
            show _ = _
            unfold ac1; rw [HP.out, ← hU, hT, hX]
          have hUb : -3000000000000 ≤ U ∧ U ≤ 3000000000000 := by omega
          have hTb : -3000000000000 ≤ T ∧ T ≤ 3000000000000 := by
            have h1 : T.natAbs = U.natAbs % (2 * g.a).natAbs := by rw [← hT]; exact Int.natAbs_tmod ..
            have h2 := Nat.mod_le U.natAbs (2 * g.a).natAbs
            omega
          have hXb : -3000000000000 ≤ X ∧ X ≤ 3000000000000 := by
            have h1 : X.natAbs = U.natAbs / (2 * g.a).natAbs := by rw [← hX]; exact Int.natAbs_tdiv ..
            have h2 := Nat.div_le_self U.natAbs (2 * g.a).natAbs
            omega
          have hU2 : r - P = U := hU.symm
          clear hU hr
          cases hT0 : (T == 0)
          · have HN : Hid (l = (rs.take (i + 1)).flatMap (ac1 g.a g.b y)) := by
              show _ = _
              rw [HTk.out, HAc.out, if_neg (by simpa using hT0)]; simp
            go_wp2
            go_roundg (2 - (i + 1))
            case rel => exact ⟨i + 1, l, a, c, rfl, by go_num, by omega, rfl, HN.out, HRo.out, hW3r, HMi.out⟩
            case measure => have := HGi.out; omega
          · have HN : Hid (l ++ [X] = (rs.take (i + 1)).flatMap (ac1 g.a g.b y)) := by
              show _ = _
              rw [HTk.out, HAc.out, if_pos (by simpa using hT0)]
            go_wp2_with (at_builtin; refine wpList_append_own _ rfl _ _ 47 rfl W3.heap.size 3 j0 (.int .i64 0) 1 8 Try.underlying47 HJ.out.1 HJ.out.2.1 HJ.out.2.2.1 HJ.out.2.2.2 rfl (by decide) (.slice a l.length c) l.length (icl l) rfl (HRo.out.alloc _) ⟨wr.heap.size, 0, none⟩ 1 1 [.int .i64 X] rfl rfl (Cl.new [.int .i64 X] 3 wr).news (by simp [Value.oneCell']) (by simp only [maxLen]; omega) (by omega) (by simp; omega) ?_; intro v' w6 hown' hgrow _; obtain ⟨g', cap', rfl⟩ := ownsRow_succ hown')
            have hrow : ∀ k, (Value.slice a l.length c).ownBlock = some k → W3.heap.size ≤ k := fun k e => (HRo.out.lt k e).1
            have HE : Hid (w6.ownsRow W3.heap.size 3 1 (.slice (some ⟨g', 0, none⟩) (l ++ [X]).length cap') (l ++ [X]).length (icl (l ++ [X])) ∧ W3.heap.size ≤ w6.heap.size ∧ Ms [(w1.heap.size, [.int .i64 (-R), .int .i64 R], 3), (w.heap.size, g.l, 32)] w w6) := by
              refine ⟨?_, ?_, ?_⟩
              · rw [List.length_append, show icl (l ++ [X]) = icl l ++ [.int .i64 X] by simp [icl]]
                exact hown'
              · have := hgrow.size
                simp at this
                omega
              · refine (HMi.out.below (al1 _ _)).grow1 hgrow (fun y hy e => ?_) (fun g e => ?_)
                · have h1 := hrow _ e
                  simp only [List.mem_cons, List.not_mem_nil, or_false] at hy
                  have h2 := HLT.out
                  rcases hy with rfl | rfl
                  · simp at h1; omega
                  · simp at h1; omega
                · have h1 := hrow _ e
                  have h2 := HLT.out
                  omega
            clear hown' hgrow hrow
            go_wp2
            go_roundg (2 - (i + 1))
            case rel => exact ⟨i + 1, l ++ [X], some ⟨g', 0, none⟩, cap', by simp, by go_num, by omega, rfl, HN.out, HE.out⟩
            case measure => have := HGi.out; omega
        · obtain rfl : i = 2 := by omega
          have bi : decide ((2 : Int) < 2) = false := decide_eq_false (by omega)
          have HLe : Hid (l = L0) := by show _ = _; rw [HLi.out, ← HLen.out, List.take_length, HAll.out]
          go_wp2
          go_ret
          refine ⟨l, HLe.out, a, c, rfl, HRo.out.mono (by have := HLT.out; omega), HMi.out.2⟩
  · have hQe : Q ≠ sq := by simpa using hne
    have HLe : Hid (L0 = []) := by show _ = _; rw [HL0.out, if_neg hQe]
    clear hQe
    go_wp2
    go_ret
    exact ⟨[], HLe.out.symm, none, 0, rfl, World.ownsRow_nil _ _ _ _, HM1.out.2⟩

end Go.Proofs.Ytijkanilpblogae
end

section
/- The program: (turned).at, compare. -/
set_option linter.unusedSimpArgs false
set_option linter.unusedVariables false
set_option maxRecDepth 100000
namespace Go.Proofs.Ytijkanilpblogae
open Go.RowKit

set_option maxHeartbeats 2000000 in
theorem at_any (g : Qf) (m : Mt) (x y : Int) (w : World) (hm : m.upto 100000000) (hx : -4000000 ≤ x ∧ x ≤ 4000000) (hy : -2000000 ≤ y ∧ y ≤ 2000000) :
    Calls Try.prog 57 #[Tv g m, .int .i64 x, .int .i64 y] w fun e w' => e = .returned (.agg #[.int .i64 (m.p * x + m.q * y), .int .i64 (m.r * x + m.s * y)]) ∧ Below w.heap.size w w' := by
  obtain ⟨h1, h2, h3, h4⟩ := hm
  have key : ∀ a z : Int, -100000000 ≤ a ∧ a ≤ 100000000 → -4000000 ≤ z ∧ z ≤ 4000000 → -400000000000000 ≤ a * z ∧ a * z ≤ 400000000000000 := fun a z ha hz => by
    have y1 : (a * z).natAbs = a.natAbs * z.natAbs := Int.natAbs_mul ..
    have y2 : a.natAbs * z.natAbs ≤ 100000000 * 4000000 := Nat.mul_le_mul (by omega) (by omega)
    omega
  obtain ⟨A, hA⟩ : ∃ A, m.p * x = A := ⟨_, rfl⟩
  obtain ⟨B, hB⟩ : ∃ A, m.q * y = A := ⟨_, rfl⟩
  obtain ⟨C, hC⟩ : ∃ A, m.r * x = A := ⟨_, rfl⟩
  obtain ⟨D, hD⟩ : ∃ A, m.s * y = A := ⟨_, rfl⟩
  have b1 := key m.p x h1 hx
  have b2 := key m.q y h2 (by omega)
  have b3 := key m.r x h3 hx
  have b4 := key m.s y h4 (by omega)
  rw [hA] at b1 ⊢
  rw [hB] at b2 ⊢
  rw [hC] at b3 ⊢
  rw [hD] at b4 ⊢
  clear key
  unfold Tv
  go_enter Try.func57, Try.ntmps57
  go_wp2
  refine bodyPost_ret (v := .agg #[.int .i64 (A + B), .int .i64 (C + D)]) (by simp [results, Try.results57, go_sem]) rfl ⟨rfl, ?_⟩
  exact Below.alloc (Below.alloc (Below.refl _ _) (Nat.le_refl _) _) (by simp) _

def cmp1 (x y : Int) : Int := if x < y then -1 else if y < x then 1 else 0
def cmp2 (x y : Int × Int) : Int := if cmp1 x.1 y.1 ≠ 0 then cmp1 x.1 y.1 else cmp1 x.2 y.2

set_option maxHeartbeats 2000000 in
theorem Compare_any (x y : Int) (w : World) : Calls Try.prog 80 #[.int .i64 x, .int .i64 y] w fun e w' => e = .returned (.int .i64 (cmp1 x y)) ∧ w' = w := by
  by_cases h1 : x < y
  · have e : cmp1 x y = -1 := if_pos h1
    rw [e]
    have t1 : decide (x < y) = true := decide_eq_true h1
    clear h1 e
    go_enter Try.func80, Try.ntmps80
    go_wp2
    go_ret
    exact ⟨rfl, rfl⟩
  · have t1 : decide (x < y) = false := decide_eq_false h1
    by_cases h2 : y < x
    · have e : cmp1 x y = 1 := by rw [cmp1, if_neg h1, if_pos h2]
      rw [e]
      have t2 : decide (y < x) = true := decide_eq_true h2
      clear h1 h2 e
      go_enter Try.func80, Try.ntmps80
      go_wp2
      go_ret
      exact ⟨rfl, rfl⟩
    · have e : cmp1 x y = 0 := by rw [cmp1, if_neg h1, if_neg h2]
      rw [e]
      have t2 : decide (y < x) = false := decide_eq_false h2
      clear h1 h2 e
      go_enter Try.func80, Try.ntmps80
      go_wp2
      go_ret
      exact ⟨rfl, rfl⟩

set_option maxHeartbeats 2000000 in
theorem Or_two (x y : Int) (b : Nat) (w : World) (h0 : w.cell? ⟨b, 0, none⟩ = some (.int .i64 x)) (h1 : w.cell? ⟨b, 1, none⟩ = some (.int .i64 y)) :
    Calls Try.prog 79 #[.slice (some ⟨b, 0, none⟩) 2 2] w fun e w' => e = .returned (.int .i64 (if x ≠ 0 then x else y)) ∧ w' = w := by
  obtain ⟨z, hz⟩ : ∃ z, z = if x ≠ 0 then x else y := ⟨_, rfl⟩
  rw [← hz]
  have HZ : Hid (z = if x ≠ 0 then x else y) := hz
  clear hz
  go_enter Try.func79, Try.ntmps79
  go_wp2
  go_loopw [8] (fun iv wx => ∃ i : Nat, i ≤ 2 ∧ iv = .int .i64 i ∧ Hid (wx = w ∧ (0 < i → x = 0) ∧ (1 < i → y = 0))) (fun iv _ => 2 - (intOf iv).toNat)
  case atStart => exact ⟨0, by omega, rfl, rfl, fun h => by omega, fun h => by omega⟩
  case round =>
    obtain ⟨i, hi, rfl, HR⟩ := hrel
    obtain ⟨rfl, hx0, hy0⟩ := HR.out
    clear HR
    have hi3 : i = 0 ∨ i = 1 ∨ i = 2 := by omega
    rcases hi3 with rfl | rfl | rfl
    · cases hx : (x != 0)
      · have hx1 : x = 0 := by simpa using hx
        clear hx0 hy0
        go_wp2
        go_roundw
        case rel => exact ⟨1, by omega, rfl, by first | rfl | trivial, fun _ => hx1, fun h => by omega⟩
        case measure => simp [intOf]
      · have hx1 : z = x := by rw [HZ.out, if_pos (by simpa using hx)]
        subst hx1
        clear hx0 hy0
        go_wp2
        go_ret
        exact ⟨rfl, rfl⟩
    · have hx1 : x = 0 := hx0 (by omega)
      have hzy : z = y := by rw [HZ.out, if_neg (by simp [hx1])]
      clear hx0 hy0
      cases hy : (y != 0)
      · have hy1 : y = 0 := by simpa using hy
        go_wp2
        go_roundw
        case rel => exact ⟨2, by omega, rfl, by first | rfl | trivial, fun _ => hx1, fun _ => hy1⟩
        case measure => simp [intOf]
      · subst hzy
        go_wp2
        go_ret
        exact ⟨rfl, rfl⟩
    · have hx1 : x = 0 := hx0 (by omega)
      have hy1 : y = 0 := hy0 (by omega)
      have hz0 : z = 0 := by rw [HZ.out, if_neg (by simp [hx1]), hy1]
      subst hz0
      clear hx0 hy0 hx1 hy1
      go_wp2
      go_ret
      exact ⟨rfl, rfl⟩

abbrev S4x (x y : Int × Int) (b : Nat) (W : World) : Prop :=
  W.cell? ⟨b, 0, none⟩ = some (.int .i64 x.1) ∧ W.cell? ⟨b, 1, none⟩ = some (.int .i64 x.2) ∧ W.cell? ⟨b + 1, 0, none⟩ = some (.int .i64 y.1) ∧ W.cell? ⟨b + 1, 1, none⟩ = some (.int .i64 y.2)

set_option maxHeartbeats 4000000 in
theorem compare_any (x y : Int × Int) (w : World) : Calls Try.prog 59 #[.agg #[.int .i64 x.1, .int .i64 x.2], .agg #[.int .i64 y.1, .int .i64 y.2]] w fun e w' => e = .returned (.int .i64 (cmp2 x y)) ∧ ∃ q os', w' = Sort.grow (w.drewN q) os' := by
  obtain ⟨C1, hC1⟩ : ∃ C, cmp1 x.1 y.1 = C := ⟨_, rfl⟩
  obtain ⟨C2, hC2⟩ : ∃ C, cmp1 x.2 y.2 = C := ⟨_, rfl⟩
  obtain ⟨C3, hC3⟩ : ∃ C, cmp2 x y = C := ⟨_, rfl⟩
  have HA : Hid (∀ w, Calls Try.prog 80 #[.int .i64 x.1, .int .i64 y.1] w fun e w' => e = .returned (.int .i64 C1) ∧ w' = w) := fun w => by rw [← hC1]; exact Compare_any _ _ w
  have HB : Hid (∀ w, Calls Try.prog 80 #[.int .i64 x.2, .int .i64 y.2] w fun e w' => e = .returned (.int .i64 C2) ∧ w' = w) := fun w => by rw [← hC2]; exact Compare_any _ _ w
  have HO : Hid (∀ b w, w.cell? ⟨b, 0, none⟩ = some (.int .i64 C1) → w.cell? ⟨b, 1, none⟩ = some (.int .i64 C2) → Calls Try.prog 79 #[.slice (some ⟨b, 0, none⟩) 2 2] w fun e w' => e = .returned (.int .i64 C3) ∧ w' = w) := fun b w h0 h1 => by
    have h := Or_two C1 C2 b w h0 h1
    rw [← hC3, cmp2, hC1, hC2]; exact h
  rw [hC3]
  clear hC1 hC2 hC3
  go_enter Try.func59, Try.ntmps59
  go_wp2_with fail
  obtain ⟨W1, hW1⟩ : ∃ W1, W1 = (w.alloc (.cells #[.int .i64 x.1, .int .i64 x.2] 57)).alloc (.cells #[.int .i64 y.1, .int .i64 y.2] 57) := ⟨_, rfl⟩
  have S1 : S4x x y w.heap.size W1 := by
    have c1 : Cl w.heap.size [.int .i64 x.1, .int .i64 x.2] 57 W1 := by rw [hW1]; exact (Cl.new [.int .i64 x.1, .int .i64 x.2] _ w).alloc _
    have c2 : Cl (w.heap.size + 1) [.int .i64 y.1, .int .i64 y.2] 57 W1 := by rw [hW1]; exact cl_new0 _ [.int .i64 y.1, .int .i64 y.2] _ _ (by simp)
    exact ⟨c1.cell 0, c1.cell 1, c2.cell 0, c2.cell 1⟩
  have HG1 : Hid (W1 = Sort.grow w #[.cells #[.int .i64 x.1, .int .i64 x.2] 57, .cells #[.int .i64 y.1, .int .i64 y.2] 57]) := by
    show _ = _
    rw [hW1, Sort.alloc_eq_grow, Sort.alloc_eq_grow, Sort.grow_grow]; rfl
  rw [← hW1]
  clear hW1
  refine wp_region_G (S4x x y w.heap.size) 12 (by kernel_rfl) S1 (fun hHeld => ?_)
  refine wpAnyG_take (i := 0) (v := ?v0x1) rfl (by kernel_rfl) (fun _ _ _ h => h) (Or.inl ⟨by rfl, ?y0x1⟩) hHeld ?r0x1
  case y0x1 => (intro wS hSw; obtain ⟨s1, s2, s3, s4⟩ := hSw; go_simp; try with_reducible rfl)
  try simp only [Act.put, List.setIfInBounds_toArray, List.set_cons_zero, List.set_cons_succ]
  refine wpAnyG_take (i := 1) (v := ?v1x2) rfl (by kernel_rfl) (fun _ _ _ h => h) (Or.inl ⟨by rfl, ?y1x2⟩) hHeld ?r1x2
  case y1x2 => (intro wS hSw; obtain ⟨s1, s2, s3, s4⟩ := hSw; go_simp; try with_reducible rfl)
  try simp only [Act.put, List.setIfInBounds_toArray, List.set_cons_zero, List.set_cons_succ]
  refine wpAnyG_take (i := 2) (v := ?v2x3) rfl (by kernel_rfl) (fun _ _ _ h => h) (Or.inl ⟨by rfl, ?y2x3⟩) hHeld ?r2x3
  case y2x3 => (intro wS hSw; obtain ⟨s1, s2, s3, s4⟩ := hSw; go_simp; try with_reducible rfl)
  try simp only [Act.put, List.setIfInBounds_toArray, List.set_cons_zero, List.set_cons_succ]
  refine wpAnyG_take (i := 3) (v := ?v3x4) rfl (by kernel_rfl) (fun _ _ _ h => h) (Or.inl ⟨by rfl, ?y3x4⟩) hHeld ?r3x4
  case y3x4 => (intro wS hSw; obtain ⟨s1, s2, s3, s4⟩ := hSw; go_simp; try with_reducible rfl)
  try simp only [Act.put, List.setIfInBounds_toArray, List.set_cons_zero, List.set_cons_succ]
  refine wpAnyG_take (i := 5) (v := ?v5x5) rfl (by kernel_rfl) (fun _ _ _ h => h) (Or.inl ⟨by rfl, ?y5x5⟩) hHeld ?r5x5
  case y5x5 => (intro wS hSw; obtain ⟨s1, s2, s3, s4⟩ := hSw; go_simp; try with_reducible rfl)
  try simp only [Act.put, List.setIfInBounds_toArray, List.set_cons_zero, List.set_cons_succ]
  refine wpAnyG_take (i := 6) (v := ?v6x6) rfl (by kernel_rfl) (fun _ _ _ h => h) (Or.inl ⟨by rfl, ?y6x6⟩) hHeld ?r6x6
  case y6x6 => (intro wS hSw; obtain ⟨s1, s2, s3, s4⟩ := hSw; go_simp; try with_reducible rfl)
  try simp only [Act.put, List.setIfInBounds_toArray, List.set_cons_zero, List.set_cons_succ]
  refine wpAnyG_take (i := 7) (v := ?v7x7) rfl (by kernel_rfl) (fun _ _ _ h => h) (Or.inl ⟨by rfl, ?y7x7⟩) hHeld ?r7x7
  case y7x7 => (intro wS hSw; obtain ⟨s1, s2, s3, s4⟩ := hSw; go_simp; try with_reducible rfl)
  try simp only [Act.put, List.setIfInBounds_toArray, List.set_cons_zero, List.set_cons_succ]
  refine wpAnyG_take (i := 8) (v := ?v8x8) rfl (by kernel_rfl) (fun _ _ _ h => h) (Or.inl ⟨by rfl, ?y8x8⟩) hHeld ?r8x8
  case y8x8 => (intro wS hSw; obtain ⟨s1, s2, s3, s4⟩ := hSw; go_simp; try with_reducible rfl)
  try simp only [Act.put, List.setIfInBounds_toArray, List.set_cons_zero, List.set_cons_succ]
  refine wpAnyG_one (i := 4) rfl (by kernel_rfl) (fun K hK => ?_)
  go_simp
  refine (HA.out _).mono ?_
  rintro e ua ⟨rfl, hua⟩
  rw [hua]
  clear hua ua
  refine hK.out _ _ S1 ?_
  clear hK K
  try simp only [Act.put, List.setIfInBounds_toArray, List.set_cons_zero, List.set_cons_succ]
  refine wpAnyG_one (i := 9) rfl (by kernel_rfl) (fun K hK => ?_)
  go_simp
  refine (HB.out _).mono ?_
  rintro e ua ⟨rfl, hua⟩
  rw [hua]
  clear hua ua
  refine hK.out _ _ S1 ?_
  clear hK K
  try simp only [Act.put, List.setIfInBounds_toArray, List.set_cons_zero, List.set_cons_succ]
  refine wpAnyG_one (i := 10) rfl (by kernel_rfl) (fun K hK => ?_)
  go_simp
  obtain ⟨W2, hW2⟩ : ∃ W2, W2 = (W1.alloc (.cells #[.int .i64 C1, .int .i64 C2] 3)).drew := ⟨_, rfl⟩
  have C2' : Cl W1.heap.size [.int .i64 C1, .int .i64 C2] 3 W2 := by rw [hW2]; exact (Cl.new [.int .i64 C1, .int .i64 C2] _ W1).drew
  have k2 : Below W1.heap.size W1 W2 := by rw [hW2]; exact (al1 _ _).drew
  have lt0 : w.heap.size + 1 < W1.heap.size := by rw [HG1.out]; simp [Sort.grow]
  have S2 : S4x x y w.heap.size W2 := by
    have e : ∀ (b o : Nat), b < W1.heap.size → W2.cell? ⟨b, o, none⟩ = W1.cell? ⟨b, o, none⟩ := fun b o hb => k2.cell (p := ⟨b, o, none⟩) hb
    obtain ⟨h1, h2, h3, h4⟩ := S1
    exact ⟨(e _ _ (by omega)).trans h1, (e _ _ (by omega)).trans h2, (e _ _ (by omega)).trans h3, (e _ _ (by omega)).trans h4⟩
  have HG2 : Hid (W2 = Sort.grow (w.drewN 1) #[.cells #[.int .i64 x.1, .int .i64 x.2] 57, .cells #[.int .i64 y.1, .int .i64 y.2] 57, .cells #[.int .i64 C1, .int .i64 C2] 3]) := by
    show _ = _
    rw [hW2, Sort.alloc_eq_grow, HG1.out, Sort.grow_grow]; rfl
  rw [← hW2]
  refine hK.out _ _ S2 ?_
  clear hK K
  try simp only [Act.put, List.setIfInBounds_toArray, List.set_cons_zero, List.set_cons_succ]
  clear hHeld hW2 k2 lt0
  have hHeld : S4x x y w.heap.size W2 := S2
  refine wpAnyG_one (i := 11) rfl (by kernel_rfl) (fun K hK => ?_)
  go_simp
  refine (HO.out _ _ (C2'.cell 0) (C2'.cell 1)).mono ?_
  rintro e ua ⟨rfl, hua⟩
  rw [hua]
  clear hua ua
  refine hK.out _ _ S2 ?_
  clear hK K
  try simp only [Act.put, List.setIfInBounds_toArray, List.set_cons_zero, List.set_cons_succ]
  refine wpAnyG_last (i := 12) rfl (by kernel_rfl) (by kernel_rfl) (fun K hK => ?_)
  go_simp
  refine hK.out _ _ ?_
  clear hK K
  try simp only [Act.put, List.setIfInBounds_toArray, List.set_cons_zero, List.set_cons_succ]
  refine wpAnyG_done (by kernel_rfl) ?_ _
  clear hHeld S1 S2 C2'
  go_wp2_with fail
  go_ret
  exact ⟨rfl, 1, _, HG2.out⟩

end Go.Proofs.Ytijkanilpblogae
end

section
/- The shelf's contracts of slices.Sort and slices.SortFunc at this program, laid by the kit's tools in plain words. -/
namespace Go.Proofs.Ytijkanilpblogae
open Go.Shelf
def Try.lays189_ren : Go.Shelf.Ren := ⟨fun | 189 => 54 | 125 => 75 | 257 => 74 | 128 => 100 | 129 => 101 | 294 => 91 | 295 => 92 | 296 => 93 | 297 => 94 | 298 => 95 | 299 => 96 | 216 => 97 | 300 => 98 | 301 => 99 | 328 => 113 | 329 => 114 | 330 => 115 | 331 => 116 | 332 => 117 | 215 => 111 | 343 => 122 | n => n, fun | 28 => 47 | 3 => 3 | 46 => 107 | 0 => 0 | 51 => 93 | 53 => 101 | 4 => 4 | 183 => 116 | 182 => 115 | 131 => 120 | 5 => 5 | 9 => 9 | 218 => 131 | 222 => 135 | 228 => 140 | 229 => 141 | n => n, fun | n => n⟩
theorem Try.lays189 : Go.Proofs.Lays.n189 Try.prog Try.lays189_ren := {
  mixed := by kernel_rfl
  f125 := Try.func75.trans (congrArg some (by kernel_rfl))
  f128 := Try.func100.trans (congrArg some (by kernel_rfl))
  f129 := Try.func101.trans (congrArg some (by kernel_rfl))
  f189 := Try.func54.trans (congrArg some (by kernel_rfl))
  f215 := Try.func111.trans (congrArg some (by kernel_rfl))
  f216 := Try.func97.trans (congrArg some (by kernel_rfl))
  f257 := Try.func74.trans (congrArg some (by kernel_rfl))
  f294 := Try.func91.trans (congrArg some (by kernel_rfl))
  f295 := Try.func92.trans (congrArg some (by kernel_rfl))
  f296 := Try.func93.trans (congrArg some (by kernel_rfl))
  f297 := Try.func94.trans (congrArg some (by kernel_rfl))
  f298 := Try.func95.trans (congrArg some (by kernel_rfl))
  f299 := Try.func96.trans (congrArg some (by kernel_rfl))
  f300 := Try.func98.trans (congrArg some (by kernel_rfl))
  f301 := Try.func99.trans (congrArg some (by kernel_rfl))
  f328 := Try.func113.trans (congrArg some (by kernel_rfl))
  f329 := Try.func114.trans (congrArg some (by kernel_rfl))
  f330 := Try.func115.trans (congrArg some (by kernel_rfl))
  f331 := Try.func116.trans (congrArg some (by kernel_rfl))
  f332 := Try.func117.trans (congrArg some (by kernel_rfl))
  f343 := Try.func122.trans (congrArg some (by kernel_rfl))
  t0 := Try.underlying0
  a0 := Try.isAgg0
  z0 := Try.sizeOf0
  v0 := Try.zeroValue0
  t3 := Try.underlying3
  a3 := Try.isAgg3
  z3 := Try.sizeOf3
  v3 := Try.zeroValue3
  t4 := Try.underlying4
  a4 := Try.isAgg4
  z4 := Try.sizeOf4
  v4 := Try.zeroValue4
  t5 := Try.underlying5
  a5 := Try.isAgg5
  z5 := Try.sizeOf5
  v5 := Try.zeroValue5
  t9 := Try.underlying9
  a9 := Try.isAgg9
  z9 := Try.sizeOf9
  v9 := Try.zeroValue9
  t28 := Try.underlying47
  a28 := Try.isAgg47
  z28 := Try.sizeOf47
  v28 := Try.zeroValue47
  t46 := Try.underlying107
  a46 := Try.isAgg107
  z46 := Try.sizeOf107
  v46 := Try.zeroValue107
  t51 := Try.underlying93
  a51 := Try.isAgg93
  z51 := Try.sizeOf93
  v51 := Try.zeroValue93
  t53 := Try.underlying101
  a53 := Try.isAgg101
  z53 := Try.sizeOf101
  v53 := Try.zeroValue101
  t131 := Try.underlying120
  a131 := Try.isAgg120
  z131 := Try.sizeOf120
  v131 := Try.zeroValue120
  t182 := Try.underlying115
  a182 := Try.isAgg115
  z182 := Try.sizeOf115
  v182 := Try.zeroValue115
  t183 := Try.underlying116
  a183 := Try.isAgg116
  z183 := Try.sizeOf116
  v183 := Try.zeroValue116
  t218 := Try.underlying131
  a218 := Try.isAgg131
  z218 := Try.sizeOf131
  v218 := Try.zeroValue131
  t222 := Try.underlying135
  a222 := Try.isAgg135
  z222 := Try.sizeOf135
  v222 := Try.zeroValue135
  t228 := Try.underlying140
  a228 := Try.isAgg140
  z228 := Try.sizeOf140
  v228 := Try.zeroValue140
  t229 := Try.underlying141
  a229 := Try.isAgg141
  z229 := Try.sizeOf141
  v229 := Try.zeroValue141 }
open Go.Sort Go.RowKit in
theorem Try.slices_Sort_int (blk off cap : Nat) (zs : List Int) (w : World) (hH : Holds (Value.int .i64) w blk off zs.toArray) (hblk : blk < w.heap.size) (hsz : zs.length < 4611686018427387904) :
    Calls Try.prog 54 #[.slice (some ⟨blk, off, none⟩) zs.length cap] w fun e w' =>
      e = .returned (.tuple #[]) ∧ ∃ n os, w' = grow (putRow (Value.int .i64) (Sort.ahead w n) blk off (zs.mergeSort fun x y => decide (x ≤ y)).toArray) os := Any.slices_Sort_int Try.lays189 blk off cap zs w hH hblk hsz
def Try.laysSlF06_f58_ren : Go.Shelf.Ren := ⟨fun | 6 => 58 | 15 => 75 | 14 => 78 | 28 => 100 | 29 => 101 | 20 => 103 | 21 => 104 | 22 => 105 | 23 => 106 | 24 => 107 | 25 => 108 | 26 => 109 | 27 => 110 | 46 => 119 | 47 => 114 | 48 => 115 | 49 => 120 | 50 => 121 | 57 => 123 | n => n, fun | 22 => 52 | 24 => 57 | 25 => 88 | 3 => 3 | 39 => 107 | 0 => 0 | 53 => 93 | 55 => 101 | 4 => 4 | 46 => 116 | 45 => 115 | 50 => 120 | 5 => 5 | 9 => 9 | 66 => 131 | 70 => 135 | 76 => 140 | 77 => 141 | n => n, fun | n => n⟩
theorem Try.laysSlF06_f58 : Go.Proofs.SlLaysF0.n6 Try.prog Try.laysSlF06_f58_ren := {
  mixed := by kernel_rfl
  f6 := ⟨Try.f58.name, by decide, Try.func58.trans (congrArg some (by kernel_rfl))⟩
  f14 := ⟨Try.f78.name, by decide, Try.func78.trans (congrArg some (by kernel_rfl))⟩
  f15 := Try.func75.trans (congrArg some (by kernel_rfl))
  f20 := ⟨Try.f103.name, by decide, Try.func103.trans (congrArg some (by kernel_rfl))⟩
  f21 := ⟨Try.f104.name, by decide, Try.func104.trans (congrArg some (by kernel_rfl))⟩
  f22 := ⟨Try.f105.name, by decide, Try.func105.trans (congrArg some (by kernel_rfl))⟩
  f23 := ⟨Try.f106.name, by decide, Try.func106.trans (congrArg some (by kernel_rfl))⟩
  f24 := ⟨Try.f107.name, by decide, Try.func107.trans (congrArg some (by kernel_rfl))⟩
  f25 := ⟨Try.f108.name, by decide, Try.func108.trans (congrArg some (by kernel_rfl))⟩
  f26 := ⟨Try.f109.name, by decide, Try.func109.trans (congrArg some (by kernel_rfl))⟩
  f27 := ⟨Try.f110.name, by decide, Try.func110.trans (congrArg some (by kernel_rfl))⟩
  f28 := Try.func100.trans (congrArg some (by kernel_rfl))
  f29 := Try.func101.trans (congrArg some (by kernel_rfl))
  f46 := ⟨Try.f119.name, by decide, Try.func119.trans (congrArg some (by kernel_rfl))⟩
  f47 := Try.func114.trans (congrArg some (by kernel_rfl))
  f48 := Try.func115.trans (congrArg some (by kernel_rfl))
  f49 := ⟨Try.f120.name, by decide, Try.func120.trans (congrArg some (by kernel_rfl))⟩
  f50 := ⟨Try.f121.name, by decide, Try.func121.trans (congrArg some (by kernel_rfl))⟩
  f57 := ⟨Try.f123.name, by decide, Try.func123.trans (congrArg some (by kernel_rfl))⟩
  t0 := Try.underlying0
  a0 := Try.isAgg0
  z0 := Try.sizeOf0
  v0 := Try.zeroValue0
  t3 := Try.underlying3
  a3 := Try.isAgg3
  z3 := Try.sizeOf3
  v3 := Try.zeroValue3
  t4 := Try.underlying4
  a4 := Try.isAgg4
  z4 := Try.sizeOf4
  v4 := Try.zeroValue4
  t5 := Try.underlying5
  a5 := Try.isAgg5
  z5 := Try.sizeOf5
  v5 := Try.zeroValue5
  t9 := Try.underlying9
  a9 := Try.isAgg9
  z9 := Try.sizeOf9
  v9 := Try.zeroValue9
  t22 := Try.underlying52
  a22 := Try.isAgg52
  z22 := Try.sizeOf52
  v22 := Try.zeroValue52
  t25 := Try.underlying88
  a25 := Try.isAgg88
  z25 := Try.sizeOf88
  v25 := Try.zeroValue88
  t39 := Try.underlying107
  a39 := Try.isAgg107
  z39 := Try.sizeOf107
  v39 := Try.zeroValue107
  t45 := Try.underlying115
  a45 := Try.isAgg115
  z45 := Try.sizeOf115
  v45 := Try.zeroValue115
  t46 := Try.underlying116
  a46 := Try.isAgg116
  z46 := Try.sizeOf116
  v46 := Try.zeroValue116
  t50 := Try.underlying120
  a50 := Try.isAgg120
  z50 := Try.sizeOf120
  v50 := Try.zeroValue120
  t53 := Try.underlying93
  a53 := Try.isAgg93
  z53 := Try.sizeOf93
  v53 := Try.zeroValue93
  t55 := Try.underlying101
  a55 := Try.isAgg101
  z55 := Try.sizeOf101
  v55 := Try.zeroValue101
  t66 := Try.underlying131
  a66 := Try.isAgg131
  z66 := Try.sizeOf131
  v66 := Try.zeroValue131
  t70 := Try.underlying135
  a70 := Try.isAgg135
  z70 := Try.sizeOf135
  v70 := Try.zeroValue135
  t76 := Try.underlying140
  a76 := Try.isAgg140
  z76 := Try.sizeOf140
  v76 := Try.zeroValue140
  t77 := Try.underlying141
  a77 := Try.isAgg141
  z77 := Try.sizeOf141
  v77 := Try.zeroValue141 }
open Go.RowKit Go.Lib Go.Sort in
theorem Try.slices_SortFunc_none {α : Type} [Inhabited α] (p : Option Addr) (cap : Nat) (fv : Value) (w : World) :
    Calls Try.prog 58 #[.slice p 0 cap, fv] w fun e w' => e = .returned (.tuple #[]) ∧ w' = w := AnyF.slices_SortFunc_none Try.laysSlF06_f58 p cap fv w
open Go.RowKit Go.Lib Go.Sort in
theorem Try.slices_SortFunc_total {α : Type} [Inhabited α] (k : Nat) (aE : ∀ w, (isAgg 57).run Try.prog w = .ok true w) (zE : ∀ w, (Go.sizeOf 57).run Try.prog w = .ok k w) (enc : α → List Value) (hk : ∀ x, (enc x).length = k) (h1 : ∀ x, ∀ v ∈ enc x, v.oneCell' = true) (cf : α → α → Int) (hO : SWO (ltOf cf)) (g : Nat) (cb : Array Value) (blk off cap : Nat) (d : Array α) (w : World) (eg : ∀ args w, (callFunc g args).run Try.prog w = .ok (.enter g args) w) (hcmp : CmpLays Try.prog g cb enc k cf blk off d.size w) (hH : HoldsK enc k w blk off d) (hblk : blk < w.heap.size) (hsz : d.size < 4611686018427387904) (hT : ∀ x y, (ltOf cf) x y = false → (ltOf cf) y x = false → x = y) :
    Calls Try.prog 58 #[.slice (some ⟨blk, off, none⟩) d.size cap, .func (.func g) #[] cb] w fun e w' =>
      e = .returned (.tuple #[]) ∧ ∃ n os, w' = sortWorldK enc k w blk off n (d.toList.mergeSort fun x y => !(ltOf cf) y x).toArray os := AnyQ.slices_SortFunc_total Try.laysSlF06_f58 k aE zE enc hk h1 cf hO g cb blk off cap d w eg hcmp hH hblk hsz hT
end Go.Proofs.Ytijkanilpblogae
end

section
/- slices.SortFunc at the points. -/
set_option linter.unusedSimpArgs false
set_option linter.unusedVariables false
set_option maxRecDepth 100000
namespace Go.Proofs.Ytijkanilpblogae
open Go.RowKit Go.Shelf Go.Sort

def encP (x : Int × Int) : List Value := [.int .i64 x.1, .int .i64 x.2]
def pltB (x y : Int × Int) : Bool := decide (x.1 < y.1) || (decide (x.1 = y.1) && decide (x.2 < y.2))
theorem pltB_iff {x y : Int × Int} : pltB x y = true ↔ plt x y := by
  unfold pltB plt; simp
theorem lt_cmp2 (x y : Int × Int) : ltOf cmp2 x y = pltB x y := by
  rw [Bool.eq_iff_iff, pltB_iff]
  unfold ltOf cmp2 plt cmp1
  simp only [decide_eq_true_eq]
  split <;> split <;> (try split) <;> (try split) <;> (try split) <;> omega
theorem swo_cmp2 : SWO (ltOf cmp2) where
  irrefl x := by
    rw [lt_cmp2, Bool.eq_false_iff]
    intro h; rw [pltB_iff] at h; unfold plt at h; omega
  trans x y z h1 h2 := by
    rw [lt_cmp2, pltB_iff] at *
    unfold plt at *; omega
  ntrans x y z h1 h2 := by
    rw [lt_cmp2, Bool.eq_false_iff] at *
    intro h
    rw [ne_eq, pltB_iff] at h1 h2
    rw [pltB_iff] at h
    unfold plt at *; omega
theorem tot_cmp2 (x y : Int × Int) (h1 : ltOf cmp2 x y = false) (h2 : ltOf cmp2 y x = false) : x = y := by
  rw [lt_cmp2, Bool.eq_false_iff, ne_eq, pltB_iff] at h1 h2
  unfold plt at h1 h2
  obtain ⟨a, b⟩ := x
  obtain ⟨c, d⟩ := y
  simp only [Prod.mk.injEq] at *
  omega

theorem pcells_len (l : List (Int × Int)) : (pcells l).length = l.length * 2 := by
  induction l with
  | nil => rfl
  | cons a l ih => rw [pcells_cons, List.length_append, ih]; simp; omega
theorem pcells_get (l : List (Int × Int)) {j : Nat} (h : j < l.length * 2) : (pcells l)[j]? = some ((encP l[j / 2]!)[j % 2]!) := by
  have hi : j / 2 < l.length := by omega
  have h1 := pcells_at l (j / 2) l[j / 2]! (by rw [List.getElem?_eq_getElem hi, getElem!_pos l (j / 2) hi])
  have h2 : j % 2 = 0 ∨ j % 2 = 1 := by omega
  rcases h2 with h2 | h2
  · rw [h2]
    have : j = j / 2 * 2 := by omega
    rw [show (pcells l)[j]? = (pcells l)[j / 2 * 2]? by rw [← this]]
    exact h1.1
  · rw [h2]
    have : j = j / 2 * 2 + 1 := by omega
    rw [show (pcells l)[j]? = (pcells l)[j / 2 * 2 + 1]? by rw [← this]]
    exact h1.2
theorem holds_pts {l : List (Int × Int)} {blk : Nat} {w : World} : HoldsK encP 2 w blk 0 l.toArray ↔ ∀ j, j < l.length * 2 → w.cell? ⟨blk, j, none⟩ = (pcells l)[j]? ∧ w.frozen? ⟨blk, j, none⟩ = false := by
  unfold HoldsK Holds
  constructor
  · intro h j hj
    have h1 := h j (by simpa using hj)
    rw [Nat.zero_add, get_flatK _ _ _ _ (by simpa using hj)] at h1
    rw [pcells_get l hj]
    refine ⟨?_, h1.2⟩
    rw [h1.1]; simp
  · intro h j hj
    have hj' : j < l.length * 2 := by simpa using hj
    have h1 := h j hj'
    rw [pcells_get l hj'] at h1
    rw [Nat.zero_add, get_flatK _ _ _ _ (by simpa using hj')]
    refine ⟨?_, h1.2⟩
    rw [h1.1]; simp

theorem below_sort {B blk n : Nat} {w : World} {d : Array (Int × Int)} {os : Array Obj} (hB : B ≤ blk) (hb : blk < w.heap.size) : Below B w (sortWorldK encP 2 w blk 0 n d os) := by
  unfold sortWorldK
  refine ⟨rfl, rfl, rfl, ?_, fun k hk => ?_⟩
  · simp [grow, putRowK, putRow, mapBlock, Sort.ahead]
  · show ((w.heap.modify blk _) ++ os)[k]? = w.heap[k]?
    rw [Array.getElem?_append_left (by simp; omega), Array.getElem?_modify, if_neg (by omega)]

theorem enters_compare : ∀ args w, (callFunc 59 args).run Try.prog w = .ok (.enter 59 args) w := enters_of Try.func59 (by kernel_rfl) rfl

/-- What is sorted: the same points, rising. -/
theorem SortFunc_pts (l : List (Int × Int)) (blk cap : Nat) (w : World) (hH : ∀ j, j < l.length * 2 → w.cell? ⟨blk, j, none⟩ = (pcells l)[j]? ∧ w.frozen? ⟨blk, j, none⟩ = false) (hblk : blk < w.heap.size) (hl : l.length ≤ 1000000000) (hnd : l.Nodup) :
    Calls Try.prog 58 #[.slice (some ⟨blk, 0, none⟩) l.length cap, .func (.func 59) #[] #[]] w fun e w' =>
      e = .returned (.tuple #[]) ∧ ∃ l' : List (Int × Int), l'.Perm l ∧ l'.Pairwise plt ∧ blk < w'.heap.size ∧ (∀ j, j < l'.length * 2 → w'.cell? ⟨blk, j, none⟩ = (pcells l')[j]?) ∧ ∀ B, B ≤ blk → Below B w w' := by
  have hcmp : CmpLays Try.prog 59 #[] encP 2 cmp2 blk 0 l.toArray.size w := fun _ _ _ _ x y => compare_any x y _
  have h := Try.slices_SortFunc_total (α := Int × Int) 2 Try.isAgg57 Try.sizeOf57 encP (fun _ => rfl) (fun x v hv => by simp [encP] at hv; rcases hv with rfl | rfl <;> rfl) cmp2 swo_cmp2 59 #[] blk 0 cap l.toArray w enters_compare hcmp (holds_pts.2 hH) hblk (by simp; omega) tot_cmp2
  rw [show l.toArray.size = l.length by simp] at h
  refine h.mono ?_
  rintro e w' ⟨rfl, n, os, hw⟩
  obtain ⟨l', hl'⟩ : ∃ l', l.mergeSort (fun x y => !ltOf cmp2 y x) = l' := ⟨_, rfl⟩
  have e0 : (l.toArray.toList.mergeSort fun x y => !ltOf cmp2 y x) = l' := by simpa using hl'
  rw [e0] at hw
  have hp : l'.Perm l := by rw [← hl']; exact List.mergeSort_perm ..
  have hs : l'.Pairwise (fun x y => (!ltOf cmp2 y x) = true) := by
    rw [← hl']
    refine List.pairwise_mergeSort (fun a b c h1 h2 => ?_) (fun a b => ?_) l
    · simp only [Bool.not_eq_true'] at *
      rw [lt_cmp2, Bool.eq_false_iff, ne_eq, pltB_iff] at *
      unfold plt at *; omega
    · simp only [Bool.or_eq_true, Bool.not_eq_true']
      rw [lt_cmp2, lt_cmp2]
      cases h1 : pltB b a
      · exact .inl rfl
      · right
        rw [Bool.eq_false_iff, ne_eq, pltB_iff]
        rw [pltB_iff] at h1
        unfold plt at *; omega
  have hn : l'.Nodup := hp.nodup_iff.2 hnd
  have hq : l'.Pairwise plt := by
    refine (hs.and hn).imp ?_
    rintro a b ⟨h1, h2⟩
    simp only [Bool.not_eq_true'] at h1
    rw [lt_cmp2, Bool.eq_false_iff, ne_eq, pltB_iff] at h1
    unfold plt at *
    obtain ⟨a1, a2⟩ := a
    obtain ⟨b1, b2⟩ := b
    simp only [ne_eq, Prod.mk.injEq] at h2 h1 ⊢
    omega
  have hh : HoldsK encP 2 w' blk 0 l'.toArray := by
    rw [hw]
    exact holdsK_sortWorldK_c encP 2 w blk 0 l.toArray l'.toArray n os (holds_pts.2 hH) hblk (by simpa using hp.length_eq)
  refine ⟨rfl, l', hp, hq, ?_, fun j hj => (holds_pts.1 hh j hj).1, fun B hB => by rw [hw]; exact below_sort hB hblk⟩
  have k : Below blk w w' := by rw [hw]; exact below_sort (Nat.le_refl _) hblk
  exact Nat.lt_of_lt_of_le hblk k.size

end Go.Proofs.Ytijkanilpblogae
end

section
/- The program: points. -/
set_option linter.unusedSimpArgs false
set_option linter.unusedVariables false
set_option maxRecDepth 100000
namespace Go.Proofs.Ytijkanilpblogae
open Go.RowKit

structure Po (h : Nat) (f : Qf) (w W : World) : Prop where
  cf : Cl h f.l 32 W
  k : Below h w W
theorem Po.below {h : Nat} {f : Qf} {w W W' : World} (x : Po h f w W) (c : Below W.heap.size W W') : Po h f w W' := ⟨x.cf.below c, x.k.trans (c.mono (Nat.le_of_lt x.cf.lt))⟩
abbrev S3y (f : Qf) (b : Nat) (W : World) : Prop := W.cell? ⟨b, 0, none⟩ = some (.int .i64 f.a) ∧ W.cell? ⟨b, 1, none⟩ = some (.int .i64 f.b) ∧ W.cell? ⟨b, 2, none⟩ = some (.int .i64 f.c)
theorem s3y_of {h : Nat} {f : Qf} {w W : World} (x : Po h f w W) : S3y f h W := ⟨x.cf.cell 0, x.cf.cell 1, x.cf.cell 2⟩
abbrev z7 : List Value := [.int .i64 0, .int .i64 0, .int .i64 0, .int .i64 0, .int .i64 0, .int .i64 0, .int .i64 0]
/-- Seven cells are written. -/
theorem Cl.set7 {b : Nat} {W : World} (x : Cl b z7 63 W) (g : Qf) (m : Mt) :
    Cl b (l7 g m) 63 (((((((W.setCell ⟨b, 0, none⟩ (.int .i64 g.a)).setCell ⟨b, 1, none⟩ (.int .i64 g.b)).setCell ⟨b, 2, none⟩ (.int .i64 g.c)).setCell ⟨b, 3, none⟩ (.int .i64 m.p)).setCell ⟨b, 4, none⟩ (.int .i64 m.q)).setCell ⟨b, 5, none⟩ (.int .i64 m.r)).setCell ⟨b, 6, none⟩ (.int .i64 m.s)) :=
  ((((((x.set 0 _).set 1 _).set 2 _).set 3 _).set 4 _).set 5 _).set 6 _
theorem Po.set7 {h b : Nat} {f : Qf} {w W : World} (x : Po h f w W) (hb : h < b) (g : Qf) (m : Mt) :
    Po h f w (((((((W.setCell ⟨b, 0, none⟩ (.int .i64 g.a)).setCell ⟨b, 1, none⟩ (.int .i64 g.b)).setCell ⟨b, 2, none⟩ (.int .i64 g.c)).setCell ⟨b, 3, none⟩ (.int .i64 m.p)).setCell ⟨b, 4, none⟩ (.int .i64 m.q)).setCell ⟨b, 5, none⟩ (.int .i64 m.r)).setCell ⟨b, 6, none⟩ (.int .i64 m.s)) := by
  have n : ∀ i : Nat, h ≠ (⟨b, i, none⟩ : Addr).block := fun i => by show h ≠ b; omega
  refine ⟨(((((((x.cf.other (n 0) _).other (n 1) _).other (n 2) _).other (n 3) _).other (n 4) _).other (n 5) _).other (n 6) _), ?_⟩
  have := x.k
  iterate 7 refine Below.setCell ?_ (by show h ≤ b; omega) _
  exact this

/-- The list so far, and what else is read. -/
structure Pw (B0 B : Nat) (g : Qf) (m : Mt) (l : List (Int × Int)) (a : Option Addr) (c h : Nat) (w W : World) : Prop where
  row : W.ownsRow B0 57 2 (.slice a l.length c) l.length (pcells l)
  sz : B0 ≤ W.heap.size
  t : Cl B (l7 g m) 63 W
  k : Below h w W
theorem row_any2 {B n : Nat} {v : Value} {t : TypeId} {W W' : World} {xs : List Value} (h : W.ownsRow B t 2 v n xs) (k : Below W.heap.size W W') : W'.ownsRow B t 2 v n xs := by
  obtain ⟨h1, h2⟩ := h
  refine ⟨h1, ?_⟩
  rcases h2 with h3 | ⟨g, cap, cur, h3, h4, h5, h6⟩
  · exact .inl h3
  · exact .inr ⟨g, cap, cur, h3, h4, (k.block g (Array.getElem?_eq_some_iff.1 h5).1).trans h5, h6⟩
theorem Pw.below {B0 B : Nat} {g : Qf} {m : Mt} {l : List (Int × Int)} {a : Option Addr} {c h : Nat} {w W W' : World} (x : Pw B0 B g m l a c h w W) (hh : h ≤ B0) (k : Below W.heap.size W W') : Pw B0 B g m l a c h w W' :=
  ⟨row_any2 x.row k, Nat.le_trans x.sz k.size, x.t.below k, x.k.trans (k.mono (Nat.le_trans hh x.sz))⟩
/-- A row of numbers that is read. -/
def Xr (a : Option Addr) (xs : List Int) (W : World) : Prop := xs ≠ [] → ∃ (b : Nat) (cur : List Value), a = some ⟨b, 0, none⟩ ∧ Cl b cur 3 W ∧ ∀ (j : Nat) (x : Int), xs[j]? = some x → cur[j]? = some (.int .i64 x)
theorem Xr.below {a : Option Addr} {xs : List Int} {W W' : World} (x : Xr a xs W) (k : Below W.heap.size W W') : Xr a xs W' := fun h => by
  obtain ⟨b, cur, e, hc, hj⟩ := x h
  exact ⟨b, cur, e, hc.below k, hj⟩
theorem Xr.of_row {B : Nat} {a : Option Addr} {c : Nat} {xs : List Int} {W : World} (h : W.ownsRow B 3 1 (.slice a xs.length c) xs.length (icl xs)) : Xr a xs W := fun hne => by
  rcases h.2 with ⟨_, h1⟩ | ⟨g, cap, cur, h1, h2, h3, h4, h5, h6, h7⟩
  · exact absurd (List.length_eq_zero_iff.1 h1) hne
  · have e1 : a = some ⟨g, 0, none⟩ := by simp at h1; exact h1.1
    refine ⟨g, cur.toList, e1, by unfold Cl; simpa using h3, fun j x hx => ?_⟩
    obtain ⟨hj, _⟩ := List.getElem?_eq_some_iff.1 hx
    have e2 : (cur.toList.take (xs.length * 1))[j]? = cur.toList[j]? := List.getElem?_take_of_lt (by omega)
    rw [← e2, h7]
    simp [icl, hx]
theorem Xr.grown {a : Option Addr} {xs : List Int} {W W' : World} {B n : Nat} {v : Value} {ys : List Value} (x : Xr a xs W) (hr : W.ownsRow B 57 2 v n ys) (hg : W.grownBy W' v.ownBlock) : Xr a xs W' := fun hne => by
  obtain ⟨b, cur, e, hc, hj⟩ := x hne
  refine ⟨b, cur, e, hc.grown hg ?_, hj⟩
  intro hb
  rcases hr.2 with ⟨h1, _⟩ | ⟨g, cap, cu, h1, h2, h3, _⟩
  · rw [h1] at hb; simp [Value.ownBlock] at hb
  · rw [h1] at hb
    simp only [Value.ownBlock, Option.some.injEq] at hb
    subst hb
    unfold Cl at hc
    rw [h3] at hc
    simp at hc
theorem Try.infoPt : (Try.prog.info? 57).map (fun i => (i.zero, i.size, i.bytes)) = some (some (.agg #[.int .i64 0, .int .i64 0]), 2, 16) := by kernel_rfl
theorem pcells_one (l : List (Int × Int)) (a : Int × Int) : pcells (l ++ [a]) = pcells l ++ [.int .i64 a.1, .int .i64 a.2] := by simp [pcells]
/-- How great the x are. -/
theorem acr_bd {g : Qf} {y S x : Int} (ha : 1 ≤ g.a) (hb : -g.a ≤ g.b ∧ g.b ≤ g.a) (hy : -2000000 ≤ y ∧ y ≤ 2000000) (hS : S ≤ 4000000000000) (hx : x ∈ acr g.a g.b y S) : -4000000 ≤ x ∧ x ≤ 4000000 := by
  rw [mem_acr ha] at hx
  obtain ⟨t, ht⟩ : ∃ t, t = 2 * g.a * x + g.b * y := ⟨_, rfl⟩
  rw [← ht] at hx
  have h1 := sq_le_bd (N := 2000000) (x := t) (by omega) (by omega)
  have h2 : (g.b * y).natAbs ≤ g.a.natAbs * 2000000 := by
    rw [Int.natAbs_mul]
    exact Nat.mul_le_mul (by omega) (by omega)
  have h3 : (2 * g.a * x).natAbs = 2 * (g.a.natAbs * x.natAbs) := by
    rw [Int.mul_assoc, Int.natAbs_mul, Int.natAbs_mul]; rfl
  have h4 : g.a.natAbs * x.natAbs ≤ g.a.natAbs * 2000000 := by
    have : 1 * 1000000 ≤ g.a.natAbs * 1000000 := Nat.mul_le_mul_right _ (by omega)
    omega
  have h5 := Nat.le_of_mul_le_mul_left h4 (by omega)
  omega

set_option maxRecDepth 100000 in
set_option maxHeartbeats 8000000 in
theorem points_any (f : Qf) (n : Int) (w : World) (hf : ffault f = (0, 0)) (hn : 0 ≤ n ∧ n ≤ 1000000) :
    Calls Try.prog 40 #[f.v, .int .i64 n] w fun e w' => ∃ (a : Option Addr) (c : Nat) (l : List (Int × Int)), e = .returned (.slice a l.length c) ∧ Pts f n l ∧ l.length ≤ c ∧ (l ≠ [] → ∃ b : Nat, a = some ⟨b, 0, none⟩ ∧ w.heap.size ≤ b ∧ b < w'.heap.size ∧ ∀ j u, (pcells l)[j]? = some u → w'.cell? ⟨b, j, none⟩ = some u) ∧ Below w.heap.size w w' := by
  obtain ⟨hfu, fa, fd, _⟩ := ffault_ok hf
  have HF : Hid (ffault f = (0, 0)) := hf
  have HR : Hid (∀ w, Calls Try.prog 33 #[f.v] w fun e w' => ∃ g m, e = .returned (Tv g m) ∧ Rd f g m ∧ Below w.heap.size w w') := fun w => reduce_ok f w hf
  obtain ⟨D, hD⟩ : ∃ D, -f.disc = D := ⟨_, rfl⟩
  have hDb : 1 ≤ D ∧ D ≤ 4000000000000 := by
    obtain ⟨a1, a2, a3, a4, a5, a6⟩ := hfu
    have x1 := sq_nn f.b
    have x2 := sq_bd a1 a2 a5 a6
    have x3 : 4 * f.a * f.c = 4 * (f.a * f.c) := Int.mul_assoc ..
    rw [← hD]; unfold Qf.disc at fd ⊢
    omega
  have HDi : Hid (∀ w, Calls Try.prog 32 #[f.v] w fun e w' => e = .returned (.int .i64 (-D)) ∧ Below w.heap.size w w') := fun w => by rw [show -D = f.disc by omega]; exact discriminant_any f w hfu
  have HDD : Hid (-f.disc = D) := hD
  have vD : IntKind.i64.wrap D = D := by rw [IntKind.wrap_i64]; omega
  clear hf hfu fa fd hD
  unfold Qf.v at HR HDi ⊢
  unfold Tv at HR
  go_enter Try.func40, Try.ntmps40
  go_wp2_with fail
  have P0 : Po w.heap.size f w (w.alloc (.cells #[.int .i64 f.a, .int .i64 f.b, .int .i64 f.c] 32)) := ⟨Cl.new f.l _ w, al1 _ _⟩
  obtain ⟨W0, hW0⟩ : ∃ W0, W0 = w.alloc (.cells #[.int .i64 f.a, .int .i64 f.b, .int .i64 f.c] 32) := ⟨_, rfl⟩
  rw [← hW0] at P0 ⊢
  clear hW0
  go_cut [5, 6] from 13 to 17 (fun tv sv wx => ∃ (g : Qf) (m : Mt) (B : Nat), tv = .pointer (some ⟨B, 0, none⟩) ∧ sv = .int .i64 D ∧ Hid (Rd f g m ∧ Cl B (l7 g m) 63 wx ∧ w.heap.size < B ∧ Po w.heap.size f w wx))
  case first =>
    have P0 : Po w.heap.size f w W0.drew := P0.below ((Below.refl _ _).drew)
    refine wp_region_G (S3y f w.heap.size) 7 (by kernel_rfl) (s3y_of P0) (fun hHeld => ?_)
    refine wpAnyG_take (i := 0) (v := ?v0x1) rfl (by kernel_rfl) (fun _ _ _ h => h) (Or.inl ⟨by rfl, ?y0x1⟩) hHeld ?r0x1
    case y0x1 => (intro wS hSw; obtain ⟨s1, s2, s3⟩ := hSw; go_simp; try with_reducible rfl)
    try simp only [Act.put, List.setIfInBounds_toArray, List.set_cons_zero, List.set_cons_succ]
    refine wpAnyG_take (i := 2) (v := ?v2x2) rfl (by kernel_rfl) (fun _ _ _ h => h) (Or.inl ⟨by rfl, ?y2x2⟩) hHeld ?r2x2
    case y2x2 => (intro wS hSw; obtain ⟨s1, s2, s3⟩ := hSw; go_simp; try with_reducible rfl)
    try simp only [Act.put, List.setIfInBounds_toArray, List.set_cons_zero, List.set_cons_succ]
    refine wpAnyG_two (i := 1) (j := 5) rfl rfl (by kernel_rfl) (fun K hK => ?_) (fun K hK => ?_)
    · go_simp
      refine (HR.out _).mono ?_
      rintro e w1 ⟨g, m, rfl, hrd, k1⟩
      have P1 := P0.below k1
      refine hK.out _ _ (s3y_of P1) ?_
      clear hK K
      try simp only [Act.put, List.setIfInBounds_toArray, List.set_cons_zero, List.set_cons_succ]
      refine wpAnyG_two (i := 3) (j := 5) rfl rfl (by kernel_rfl) (fun K hK => ?_) (fun K hK => ?_)
      · go_simp
        refine (HDi.out _).mono ?_
        rintro e w2 ⟨rfl, k2⟩
        have P2 := P1.below k2
        refine hK.out _ _ (s3y_of P2) ?_
        clear hK K
        try simp only [Act.put, List.setIfInBounds_toArray, List.set_cons_zero, List.set_cons_succ]
        clear hHeld
        have hHeld := s3y_of P2
        refine wpAnyG_take (i := 4) (v := ?v4x3) rfl (by kernel_rfl) (fun _ _ _ h => h) (Or.inl ⟨by rfl, ?y4x3⟩) hHeld ?r4x3
        case y4x3 => (intro wS hSw; obtain ⟨s1, s2, s3⟩ := hSw; go_simp; try with_reducible rfl)
        try simp only [Act.put, List.setIfInBounds_toArray, List.set_cons_zero, List.set_cons_succ]
        refine wpAnyG_one (i := 5) rfl (by kernel_rfl) (fun K hK => ?_)
        go_simp
        have P3 := P2.below (al1 w2 (.cells z7.toArray 63))
        refine hK.out _ _ (s3y_of P3) ?_
        clear hK K
        try simp only [Act.put, List.setIfInBounds_toArray, List.set_cons_zero, List.set_cons_succ]
        have P4 := P2.below (al1 w2 (.cells (l7 g m).toArray 63))
        refine wpAnyG_one (i := 6) rfl (by kernel_rfl) (fun K hK => ?_)
        go_simp
        refine hK.out _ _ (s3y_of P4) ?_
        clear hK K
        try simp only [Act.put, List.setIfInBounds_toArray, List.set_cons_zero, List.set_cons_succ]
        refine wpAnyG_last (i := 7) rfl (by kernel_rfl) (by kernel_rfl) (fun K hK => ?_)
        go_simp
        refine hK.out _ _ ?_
        clear hK K
        try simp only [Act.put, List.setIfInBounds_toArray, List.set_cons_zero, List.set_cons_succ]
        refine wpAnyG_done (by kernel_rfl) ?_ _
        go_wp2
        go_meet
        exact ⟨g, m, _, rfl, by first | rfl | rw [vD], hrd, Cl.new (l7 g m) _ w2, P2.cf.lt, P4⟩
      · go_simp
        have P3 := P1.below (al1 w1 (.cells z7.toArray 63))
        have Z3 := Cl.new z7 63 w1
        refine hK.out _ _ (s3y_of P3) ?_
        clear hK K
        try simp only [Act.put, List.setIfInBounds_toArray, List.set_cons_zero, List.set_cons_succ]
        refine wpAnyG_one (i := 3) rfl (by kernel_rfl) (fun K hK => ?_)
        go_simp
        refine (HDi.out _).mono ?_
        rintro e w2 ⟨rfl, k2⟩
        have P2 := P3.below k2
        have Z2 := Z3.below k2
        refine hK.out _ _ (s3y_of P2) ?_
        clear hK K
        try simp only [Act.put, List.setIfInBounds_toArray, List.set_cons_zero, List.set_cons_succ]
        clear hHeld
        have hHeld := s3y_of P2
        refine wpAnyG_take (i := 4) (v := ?v4x4) rfl (by kernel_rfl) (fun _ _ _ h => h) (Or.inl ⟨by rfl, ?y4x4⟩) hHeld ?r4x4
        case y4x4 => (intro wS hSw; obtain ⟨s1, s2, s3⟩ := hSw; go_simp; try with_reducible rfl)
        try simp only [Act.put, List.setIfInBounds_toArray, List.set_cons_zero, List.set_cons_succ]
        have zc0 := Z2.cell 0
        have zf0 := Z2.frozen 0
        have zc1 := Z2.cell 1
        have zf1 := Z2.frozen 1
        have zc2 := Z2.cell 2
        have zf2 := Z2.frozen 2
        have zc3 := Z2.cell 3
        have zf3 := Z2.frozen 3
        have zc4 := Z2.cell 4
        have zf4 := Z2.frozen 4
        have zc5 := Z2.cell 5
        have zf5 := Z2.frozen 5
        have zc6 := Z2.cell 6
        have zf6 := Z2.frozen 6
        simp at zc0 zc1 zc2 zc3 zc4 zc5 zc6
        have P4 := P2.set7 P1.cf.lt g m
        refine wpAnyG_one (i := 6) rfl (by kernel_rfl) (fun K hK => ?_)
        go_simp
        refine hK.out _ _ (s3y_of P4) ?_
        clear hK K
        try simp only [Act.put, List.setIfInBounds_toArray, List.set_cons_zero, List.set_cons_succ]
        refine wpAnyG_last (i := 7) rfl (by kernel_rfl) (by kernel_rfl) (fun K hK => ?_)
        go_simp
        refine hK.out _ _ ?_
        clear hK K
        try simp only [Act.put, List.setIfInBounds_toArray, List.set_cons_zero, List.set_cons_succ]
        refine wpAnyG_done (by kernel_rfl) ?_ _
        go_wp2
        go_meet
        exact ⟨g, m, _, rfl, by first | rfl | rw [vD], hrd, Z2.set7 g m, P1.cf.lt, P4⟩
    · go_simp
      have P3 := P0.below (al1 W0.drew (.cells z7.toArray 63))
      have Z3 : Cl W0.heap.size z7 63 (W0.drew.alloc (.cells z7.toArray 63)) := Cl.new z7 63 W0.drew
      refine hK.out _ _ (s3y_of P3) ?_
      clear hK K
      try simp only [Act.put, List.setIfInBounds_toArray, List.set_cons_zero, List.set_cons_succ]
      refine wpAnyG_one (i := 1) rfl (by kernel_rfl) (fun K hK => ?_)
      go_simp
      refine (HR.out _).mono ?_
      rintro e w1 ⟨g, m, rfl, hrd, k1⟩
      have P1 := P3.below k1
      have Z1 := Z3.below k1
      refine hK.out _ _ (s3y_of P1) ?_
      clear hK K
      try simp only [Act.put, List.setIfInBounds_toArray, List.set_cons_zero, List.set_cons_succ]
      refine wpAnyG_one (i := 3) rfl (by kernel_rfl) (fun K hK => ?_)
      go_simp
      refine (HDi.out _).mono ?_
      rintro e w2 ⟨rfl, k2⟩
      have P2 := P1.below k2
      have Z2 := Z1.below k2
      refine hK.out _ _ (s3y_of P2) ?_
      clear hK K
      try simp only [Act.put, List.setIfInBounds_toArray, List.set_cons_zero, List.set_cons_succ]
      clear hHeld
      have hHeld := s3y_of P2
      refine wpAnyG_take (i := 4) (v := ?v4x5) rfl (by kernel_rfl) (fun _ _ _ h => h) (Or.inl ⟨by rfl, ?y4x5⟩) hHeld ?r4x5
      case y4x5 => (intro wS hSw; obtain ⟨s1, s2, s3⟩ := hSw; go_simp; try with_reducible rfl)
      try simp only [Act.put, List.setIfInBounds_toArray, List.set_cons_zero, List.set_cons_succ]
      have zc0 := Z2.cell 0
      have zf0 := Z2.frozen 0
      have zc1 := Z2.cell 1
      have zf1 := Z2.frozen 1
      have zc2 := Z2.cell 2
      have zf2 := Z2.frozen 2
      have zc3 := Z2.cell 3
      have zf3 := Z2.frozen 3
      have zc4 := Z2.cell 4
      have zf4 := Z2.frozen 4
      have zc5 := Z2.cell 5
      have zf5 := Z2.frozen 5
      have zc6 := Z2.cell 6
      have zf6 := Z2.frozen 6
      simp at zc0 zc1 zc2 zc3 zc4 zc5 zc6
      have P4 := P2.set7 P0.cf.lt g m
      refine wpAnyG_one (i := 6) rfl (by kernel_rfl) (fun K hK => ?_)
      go_simp
      refine hK.out _ _ (s3y_of P4) ?_
      clear hK K
      try simp only [Act.put, List.setIfInBounds_toArray, List.set_cons_zero, List.set_cons_succ]
      refine wpAnyG_last (i := 7) rfl (by kernel_rfl) (by kernel_rfl) (fun K hK => ?_)
      go_simp
      refine hK.out _ _ ?_
      clear hK K
      try simp only [Act.put, List.setIfInBounds_toArray, List.set_cons_zero, List.set_cons_succ]
      refine wpAnyG_done (by kernel_rfl) ?_ _
      go_wp2
      go_meet
      exact ⟨g, m, _, rfl, by first | rfl | rw [vD], hrd, Z2.set7 g m, P0.cf.lt, P4⟩
  case rest =>
    clear P0 HR HDi
    obtain ⟨g, m, B, rfl, rfl, HC⟩ := hcut
    have HRd : Hid (Rd f g m) := HC.out.1
    obtain ⟨hgu, ga, _⟩ := HRd.out.upto HF.out
    obtain ⟨gb1, gb2, _⟩ := redB_parts HRd.out.red
    have HMu : Hid (m.upto 100000000) := HRd.out.small HF.out
    have HGD : Hid (-g.disc = D) := by show _ = _; rw [HRd.out.disc]; exact HDD.out
    have ga2 : g.a ≤ 1000000 := hgu.2.1
    clear hgu
    obtain ⟨N4, hN⟩ : ∃ N4, 4 * g.a * n = N4 := ⟨_, rfl⟩
    have hNb : 0 ≤ N4 ∧ N4 ≤ 4000000000000 := by
      rw [← hN, Int.mul_assoc]
      have x1 : 0 ≤ g.a * n := Int.mul_nonneg (by omega) hn.1
      have x2 := (sq_bd (N := 1000000) (x := g.a) (y := n) (by omega) (by omega) (by omega) (by omega)).2
      omega
    obtain ⟨T, hT⟩ : ∃ T, N4.tdiv D = T := ⟨_, rfl⟩
    have hT2 : T = N4 / D := by rw [← hT]; exact Int.tdiv_eq_ediv_of_nonneg hNb.1
    have hT3 : T * D ≤ N4 := by rw [hT2]; exact Int.ediv_mul_le _ (by omega)
    have hTb : 0 ≤ T ∧ T ≤ 4000000000000 := by
      have x1 : 0 ≤ T := by rw [hT2]; exact Int.ediv_nonneg hNb.1 (by omega)
      have x2 : T * 1 ≤ T * D := Int.mul_le_mul_of_nonneg_left hDb.1 x1
      omega
    obtain ⟨M, hM⟩ : ∃ M, sqr T = M := ⟨_, rfl⟩
    have HSq : Hid (∀ w, Calls Try.prog 55 #[.int .i64 T] w fun e w' => e = .returned (.int .i64 M) ∧ Below w.heap.size w w') := fun w => by rw [← hM]; exact squareRoot_any T w hTb.1 (by omega)
    have hM0 : 0 ≤ M := by rw [← hM]; exact sqr_nn _
    have hM1 : M * M ≤ T := by rw [← hM]; exact sqr_le hTb.1
    have hM2 : M ≤ 2000000 := (sq_le_bd (N := 2000000) (x := M) (by omega) (by omega)).2
    have HMM : Hid (M = sqr ((4 * g.a * n).tdiv D) ∧ M * M ≤ T ∧ T * D ≤ N4) := ⟨by rw [hN, hT, hM], hM1, hT3⟩
    have HNN : Hid (4 * g.a * n = N4) := hN
    have t0 : (D == 0) = false := beq_eq_false_iff_ne.2 (by omega)
    have c0 := HC.out.2.1.cell 0
    simp at c0
    clear hT2 hT3 hM hM1
    go_wp2_with fail
    refine (HSq.out _).mono ?_
    rintro e w1 ⟨rfl, k1⟩
    have HLT : Hid (w.heap.size < B ∧ B < w1.heap.size) := ⟨HC.out.2.2.1, (HC.out.2.1.below k1).lt⟩
    have HP1 : Hid (Pw w1.heap.size B g m [] none 0 w.heap.size w w1) := ⟨World.ownsRow_nil _ _ _ _, Nat.le_refl _, HC.out.2.1.below k1, (HC.out.2.2.2.below k1).k⟩
    clear k1 HC c0 HSq hT hTb
    obtain ⟨p0, hp, hk0, hk1, hk2⟩ := info_parts Try.infoPt
    have HI : Hid (Try.prog.info? 57 = some p0 ∧ p0.zero = some (.agg #[.int .i64 0, .int .i64 0]) ∧ p0.size = 2 ∧ p0.bytes = 16) := ⟨hp, hk0, hk1, hk2⟩
    clear hp hk0 hk1 hk2
    go_wp2
    go_loopg [8, 9] (2 * M + 1).toNat (fun gk ov yv wx => ∃ (k : Nat) (y : Int) (l : List (Int × Int)) (a : Option Addr) (c : Nat), ov = .slice a l.length c ∧ yv = .int .i64 y ∧ Hid (y = (k : Int) - M ∧ (k : Int) ≤ 2 * M + 1 ∧ gk = (2 * M + 1).toNat - k ∧ l = prows g m n M k ∧ Pw w1.heap.size B g m l a c w.heap.size w wx))
    case atStart => exact ⟨0, -M, [], none, 0, rfl, rfl, by omega, by omega, rfl, rfl, HP1.out⟩
    case round =>
      clear HP1
      obtain ⟨k, y, l, a, c, rfl, rfl, HR⟩ := hrel
      obtain ⟨hy, hk, hgk, hl, hPw⟩ := HR.out
      have HK : Hid (y = (k : Int) - M ∧ gk = (2 * M + 1).toNat - k ∧ l = prows g m n M k) := ⟨hy, hgk, hl⟩
      have HP : Hid (Pw w1.heap.size B g m l a c w.heap.size w wr) := hPw
      have hyb : -M ≤ y ∧ y ≤ M + 1 := by omega
      have hll : l.length ≤ 9000000 := by rw [hl]; have := prows_len g m n M k; omega
      clear HR hy hk hgk hl hPw
      by_cases hle : y ≤ M
      · have hlb : decide (y ≤ M) = true := decide_eq_true hle
        obtain ⟨E1, hE1⟩ : ∃ E, D * y = E := ⟨_, rfl⟩
        obtain ⟨E2, hE2⟩ : ∃ E, E1 * y = E := ⟨_, rfl⟩
        have hyy : y * y ≤ M * M := (sq_bd (N := M) (x := y) (y := y) (by omega) (by omega) (by omega) (by omega)).2
        have hE2b : 0 ≤ E2 ∧ E2 ≤ N4 := by
          have x1 : E2 = y * y * D := by rw [← hE2, ← hE1]; grind
          have x2 : y * y * D ≤ T * D := Int.mul_le_mul_of_nonneg_right (by have := HMM.out.2.1; omega) (by omega)
          have x3 : 0 ≤ y * y * D := Int.mul_nonneg (sq_nn y) (by omega)
          have := HMM.out.2.2
          omega
        have hE1b : -4000000000000 ≤ E1 ∧ E1 ≤ 4000000000000 := by
          have x1 : E2.natAbs = E1.natAbs * y.natAbs := by rw [← hE2]; exact Int.natAbs_mul ..
          rcases Nat.eq_zero_or_pos y.natAbs with h0 | h0
          · have : y = 0 := by omega
            rw [← hE1, this]; simp
          · have x2 : E1.natAbs * 1 ≤ E1.natAbs * y.natAbs := Nat.mul_le_mul_left _ h0
            omega
        obtain ⟨S, hS⟩ : ∃ S, S = N4 - E2 := ⟨_, rfl⟩
        have hS2 : N4 - E2 = S := hS.symm
        have HSS : Hid (4 * g.a * n - -g.disc * y * y = S) := by show _ = _; rw [HNN.out, HGD.out, hE1, hE2, hS]
        have HAc : Hid (∀ w, Calls Try.prog 56 #[g.v, .int .i64 y, .int .i64 S] w fun e w' => ∃ l : List Int, l = acr g.a g.b y S ∧ ∃ (a : Option Addr) (c : Nat), e = .returned (.slice a l.length c) ∧ w'.ownsRow w.heap.size 3 1 (.slice a l.length c) l.length (icl l) ∧ Below w.heap.size w w') := fun w => across_any g y S w ⟨ga, ga2⟩ (by omega) (by omega) (by omega)
        unfold Qf.v at HAc
        have c0 := HP.out.t.cell 0
        have c1 := HP.out.t.cell 1
        have c2 := HP.out.t.cell 2
        simp at c0 c1 c2
        clear hyy hS
        go_wp2_with fail
        refine (HAc.out _).mono ?_
        rintro e w2 ⟨xs, hxs, a2, c2', rfl, hrow2, k2⟩
        have HX : Hid (Xr a2 xs w2) := Xr.of_row hrow2
        have HP2 : Hid (Pw w1.heap.size B g m l a c w.heap.size w w2) := HP.out.below (by have := HLT.out; omega) k2
        have HXs : Hid (xs = acr g.a g.b y S) := hxs
        have hxl : xs.length ≤ 2 := by rw [hxs]; exact acr_len ..
        have HXb : Hid (∀ x ∈ xs, -4000000 ≤ x ∧ x ≤ 4000000) := fun x hx => acr_bd (g := g) (y := y) (S := S) ga ⟨gb1, gb2⟩ (by omega) (by omega) (by rw [← HXs.out]; exact hx)
        clear hxs hrow2 k2 HAc HP c0 c1 c2
        go_wp2
        go_loopg [8, 52] xs.length (fun gk ov iv wx => ∃ (i : Nat) (l2 : List (Int × Int)) (a' : Option Addr) (c' : Nat), ov = .slice a' l2.length c' ∧ iv = .int .i64 i ∧ i ≤ xs.length ∧ Hid (gk = xs.length - i ∧ l2 = l ++ (xs.take i).map (fun x => (m.p * x + m.q * y, m.r * x + m.s * y)) ∧ Pw w1.heap.size B g m l2 a' c' w.heap.size w wx ∧ Xr a2 xs wx))
        case atStart => exact ⟨0, l, a, c, rfl, rfl, Nat.zero_le _, rfl, by simp, HP2.out, HX.out⟩
        case round =>
          clear HP2 HX
          obtain ⟨i, l2, a', c', rfl, rfl, hi, HR⟩ := hrel
          rename_i gk0 _ _ _ _
          have HGi : Hid (_ = xs.length - i) := HR.out.1
          have HL2 : Hid (l2 = l ++ (xs.take i).map (fun x => (m.p * x + m.q * y, m.r * x + m.s * y))) := HR.out.2.1
          have HP3 : Hid (Pw w1.heap.size B g m l2 a' c' w.heap.size w wr) := HR.out.2.2.1
          have HX3 : Hid (Xr a2 xs wr) := HR.out.2.2.2
          have hl2 : l2.length ≤ 9000002 := by
            rw [HL2.out, List.length_append, List.length_map, List.length_take]; omega
          clear HR
          by_cases hix : i < xs.length
          · have bi : decide ((i : Int) < (xs.length : Int)) = true := decide_eq_true (by omega)
            obtain ⟨x, hx⟩ : ∃ x, xs[i]? = some x := ⟨_, List.getElem?_eq_getElem hix⟩
            obtain ⟨b2, cur, rfl, hcl, hcur⟩ := HX3.out (by intro h; rw [h] at hix; simp at hix)
            have z0 : wr.cell? ⟨b2, i, none⟩ = some (.int .i64 x) := by rw [hcl.cell i]; exact hcur i x hx
            have hxb := HXb.out x (List.mem_of_getElem? hx)
            have HTk : Hid (l ++ (xs.take (i + 1)).map (fun x => (m.p * x + m.q * y, m.r * x + m.s * y)) = l2 ++ [(m.p * x + m.q * y, m.r * x + m.s * y)]) := by
              show _ = _
              rw [HL2.out, List.take_add_one, hx]; simp
            have HAt : Hid (∀ w, Calls Try.prog 57 #[Tv g m, .int .i64 x, .int .i64 y] w fun e w' => e = .returned (.agg #[.int .i64 (m.p * x + m.q * y), .int .i64 (m.r * x + m.s * y)]) ∧ Below w.heap.size w w') := fun w => at_any g m x y w HMu.out hxb (by omega)
            unfold Tv at HAt
            obtain ⟨X1, hX1⟩ : ∃ X1, m.p * x + m.q * y = X1 := ⟨_, rfl⟩
            obtain ⟨Y1, hY1⟩ : ∃ X1, m.r * x + m.s * y = X1 := ⟨_, rfl⟩
            rw [hX1, hY1] at HAt HTk
            have c0 := HP3.out.t.cell 0
            have c1 := HP3.out.t.cell 1
            have c2 := HP3.out.t.cell 2
            have c3 := HP3.out.t.cell 3
            have c4 := HP3.out.t.cell 4
            have c5 := HP3.out.t.cell 5
            have c6 := HP3.out.t.cell 6
            simp at c0 c1 c2 c3 c4 c5 c6
            clear hx hcl hcur hX1 hY1
            go_wp2_with fail
            refine (HAt.out _).mono ?_
            rintro e w3 ⟨rfl, k3⟩
            have HP4 : Hid (Pw w1.heap.size B g m l2 a' c' w.heap.size w w3) := HP3.out.below (by have := HLT.out; omega) k3
            have HX4 : Hid (Xr (some ⟨b2, 0, none⟩) xs w3) := HX3.out.below k3
            clear k3 HP3 HX3 c0 c1 c2 c3 c4 c5 c6 z0 HAt
            have hsz := HP4.out.sz
            go_wp2_with (at_builtin; refine wpList_append_own _ rfl _ _ 52 rfl w1.heap.size 57 p0 (.agg #[.int .i64 0, .int .i64 0]) 2 16 Try.underlying52 HI.out.1 HI.out.2.1 HI.out.2.2.1 HI.out.2.2.2 rfl (by decide) (.slice a' l2.length c') l2.length (pcells l2) rfl (HP4.out.row.alloc _) ⟨w3.heap.size, 0, none⟩ 1 1 [.int .i64 X1, .int .i64 Y1] rfl rfl (Cl.new [.int .i64 X1, .int .i64 Y1] 57 w3).news (by simp [Value.oneCell']) (by simp only [maxLen]; omega) (by omega) (by simp; omega) ?_; intro v' w6 hown' hgrow _; obtain ⟨g', cap', rfl⟩ := ownsRow_succ hown')
            have hrow : ∀ k, (Value.slice a' l2.length c').ownBlock = some k → w1.heap.size ≤ k := fun k e => (HP4.out.row.lt k e).1
            have HE : Hid (Pw w1.heap.size B g m (l2 ++ [(X1, Y1)]) (some ⟨g', 0, none⟩) cap' w.heap.size w w6 ∧ Xr (some ⟨b2, 0, none⟩) xs w6) := by
              refine ⟨⟨?_, ?_, ?_, ?_⟩, ?_⟩
              · rw [List.length_append, pcells_one]; exact hown'
              · have := hgrow.size
                simp at this
                omega
              · refine (HP4.out.t.alloc _).grown hgrow (fun e => ?_)
                have h1 := hrow _ e
                have h2 := HLT.out
                omega
              · refine ((HP4.out.k.alloc (by have := HLT.out; omega) _)).grown hgrow (by have := HLT.out; simp; omega) (fun j e => ?_)
                have h1 := hrow _ e
                have h2 := HLT.out
                omega
              · exact (HX4.out.below (al1 _ _)).grown (HP4.out.row.alloc _) hgrow
            clear hown' hgrow hrow
            go_wp2
            go_roundg (xs.length - (i + 1))
            case rel => exact ⟨i + 1, l2 ++ [(X1, Y1)], some ⟨g', 0, none⟩, cap', by simp, by go_num, by omega, rfl, HTk.out.symm, HE.out⟩
            case measure => have := HGi.out; omega
          · obtain rfl : i = xs.length := by omega
            have bi : decide ((xs.length : Int) < (xs.length : Int)) = false := decide_eq_false (by omega)
            go_wp2
            go_roundg ((2 * M + 1).toNat - (k + 1))
            case rel =>
              refine ⟨k + 1, y + 1, l2, a', c', rfl, by go_num, by have := HK.out.1; omega, by have := HK.out.1; omega, rfl, ?_, HP3.out⟩
              rw [prows_succ, HL2.out, List.take_length, ← HK.out.1, ← HK.out.2.2, prow, HSS.out, HXs.out]
            case measure => have := HK.out; omega
      · have hlb : decide (y ≤ M) = false := decide_eq_false hle
        have hk2 : (k : Int) = 2 * M + 1 := by have := HK.out.1; omega
        have HAll : Hid (∀ l' : List (Int × Int), l'.Perm l → l'.Pairwise plt → Pts f n l') := fun l' h1 h2 =>
          prows_all HRd.out ga HGD.out hDb.1 hn.1 HMM.out.1 hk2 (by rw [← HK.out.2.2]; exact h1) h2
        have HNd : Hid l.Nodup := by show List.Nodup _; rw [HK.out.2.2]; exact prows_nodup ga HRd.out.det k
        clear hk2
        by_cases hl0 : l = []
        · subst hl0
          have HSn : Hid (∀ w, Calls Try.prog 58 #[.slice a 0 c, .func (.func 59) #[] #[]] w fun e w' => e = .returned (.tuple #[]) ∧ w' = w) := fun w => Try.slices_SortFunc_none (α := Int) a c _ w
          simp only [List.length_nil]
          go_wp2_with fail
          refine (HSn.out _).mono ?_
          rintro e w5 ⟨rfl, hw5⟩
          rw [hw5]
          clear hw5 w5
          go_wp2
          go_ret
          exact ⟨a, c, [], rfl, HAll.out [] (List.Perm.refl _) List.Pairwise.nil, Nat.zero_le _, fun h => absurd rfl h, HP.out.k⟩
        · have hrow := HP.out.row
          obtain ⟨blk, rfl, hblk, hcap⟩ : ∃ blk, a = some ⟨blk, 0, none⟩ ∧ blk < wr.heap.size ∧ l.length ≤ c := by
            rcases hrow.2 with ⟨_, h1⟩ | ⟨g1, cap, cur, h1, h2, h3, h4, _⟩
            · exact absurd (List.length_eq_zero_iff.1 h1) hl0
            · simp only [Value.slice.injEq] at h1
              obtain ⟨rfl, _, rfl⟩ := h1
              exact ⟨g1, rfl, (Array.getElem?_eq_some_iff.1 h3).1, h4⟩
          have hlow : w1.heap.size ≤ blk := (hrow.lt blk rfl).1
          have HSf : Hid (Calls Try.prog 58 #[.slice (some ⟨blk, 0, none⟩) l.length c, .func (.func 59) #[] #[]] wr fun e w' =>
            e = .returned (.tuple #[]) ∧ ∃ l' : List (Int × Int), l'.Perm l ∧ l'.Pairwise plt ∧ blk < w'.heap.size ∧ (∀ j, j < l'.length * 2 → w'.cell? ⟨blk, j, none⟩ = (pcells l')[j]?) ∧ ∀ B, B ≤ blk → Below B wr w') :=
            SortFunc_pts l blk c wr (fun j hj => ⟨hrow.cellAt j hj, hrow.frozenAt j⟩) hblk (by omega) HNd.out
          have HLo : Hid (w.heap.size ≤ blk ∧ l.length ≤ c) := ⟨by have := HLT.out; omega, hcap⟩
          clear hrow hlow hcap hblk
          go_wp2_with fail
          refine HSf.out.mono ?_
          rintro e w5 ⟨rfl, l', hp, hq, hb5, hc5, k5⟩
          have HR5 : Hid (l'.Perm l ∧ l'.Pairwise plt ∧ blk < w5.heap.size ∧ (∀ j, j < l'.length * 2 → w5.cell? ⟨blk, j, none⟩ = (pcells l')[j]?) ∧ Below w.heap.size wr w5) := ⟨hp, hq, hb5, hc5, k5 _ HLo.out.1⟩
          clear hp hq hb5 hc5 k5 HSf
          go_wp2
          go_ret
          obtain ⟨hp, hq, hb5, hc5, k5⟩ := HR5.out
          refine ⟨some ⟨blk, 0, none⟩, c, l', by rw [hp.length_eq]; rfl, HAll.out l' hp hq, by rw [hp.length_eq]; exact HLo.out.2, fun _ => ⟨blk, rfl, HLo.out.1, hb5, fun j u hu => ?_⟩, HP.out.k.trans k5⟩
          obtain ⟨hj, _⟩ := List.getElem?_eq_some_iff.1 hu
          rw [hc5 j (by rw [pcells_len] at hj; exact hj)]; exact hu

end Go.Proofs.Ytijkanilpblogae
end

section
/- The program: Points. -/
set_option linter.unusedSimpArgs false
set_option linter.unusedVariables false
set_option maxRecDepth 100000
namespace Go.Proofs.Ytijkanilpblogae
open Go.RowKit

/-- The memory of the walk. -/
structure Pq (h : Nat) (f : Qf) (w W : World) : Prop where
  cf : Cl h f.l 32 W
  e : Sv (h + 1) 0 0 W
  k : Below h w W
theorem Pq.below {h : Nat} {f : Qf} {w W W' : World} (x : Pq h f w W) (c : Below W.heap.size W W') : Pq h f w W' :=
  ⟨x.cf.below c, x.e.below c, x.k.trans (c.mono (Nat.le_of_lt x.cf.lt))⟩

theorem pfault_code {f : Qf} {n : Int} {c d : Int} (h : pfault f n = (c, d)) : (c = 0 ∧ d = 0) ∨ c ≠ 0 := by
  unfold pfault at h
  split at h
  · exact ffault_code h
  · split at h
    · simp at h; omega
    · simp at h; omega

set_option maxHeartbeats 4000000 in
theorem Points_any (f : Qf) (n : Int) (w : World) : Calls Try.prog 24 #[f.v, .int .i64 n] w fun e w' => ∃ (a : Option Addr) (c : Nat) (l : List (Int × Int)), e = .returned (.tuple #[.slice a l.length c, ffv (pfault f n)]) ∧ PoOut f n l ∧ Pl a l w' ∧ l.length ≤ c ∧ Below w.heap.size w w' := by
  obtain ⟨c, d, hcd⟩ : ∃ c d, ffault f = (c, d) := ⟨_, _, rfl⟩
  obtain ⟨pc, pd, hpc⟩ : ∃ c d, pfault f n = (c, d) := ⟨_, _, rfl⟩
  have HFF : Hid (ffault f = (c, d)) := hcd
  have HPF : Hid (pfault f n = (pc, pd)) := hpc
  have HC : Hid (∀ w, Calls Try.prog 31 #[f.v] w fun e w' => e = .returned (.agg #[.int .i64 c, .int .i64 d]) ∧ Below w.heap.size w w') := fun w => by have k := Check_any f w; rw [hcd] at k; exact k
  rw [hpc]
  clear hcd hpc
  unfold Qf.v at HC ⊢
  unfold ffv
  go_enter Try.func24, Try.ntmps24
  go_wp2_with fail
  obtain ⟨W1, hW1⟩ : ∃ W1, W1 = (w.alloc (.cells #[.int .i64 f.a, .int .i64 f.b, .int .i64 f.c] 32)).alloc (.cells #[.int .i64 0, .int .i64 0] 24) := ⟨_, rfl⟩
  have HO1 : Hid (Pq w.heap.size f w W1) := by
    show Pq _ _ _ _
    rw [hW1]
    exact ⟨(Cl.new f.l _ w).alloc _, sv_new0 _ _ _ (by simp) _ _, Below.alloc (Below.alloc (Below.refl _ _) (Nat.le_refl _) _) (by simp) _⟩
  rw [← hW1]
  clear hW1
  refine (HC.out _).mono ?_
  rintro e w1 ⟨rfl, k1⟩
  have z9 : w.heap.size + 1 < w1.heap.size := ((HO1.out.below k1).e).lt
  have HO : Hid (Pq w.heap.size f w (w1.alloc (.cells #[.int .i64 c, .int .i64 d] 24))) := (HO1.out.below k1).below (al1 _ _)
  clear k1 HO1 HC
  rcases ffault_code HFF.out with ⟨rfl, rfl⟩ | hc
  · have HZ9 : Hid (w.heap.size + 1 < w1.heap.size) := z9
    clear z9
    by_cases h1 : n < 0
    · have t1 : decide (n < 0) = true := decide_eq_true h1
      obtain ⟨rfl, rfl⟩ : pc = 3 ∧ pd = 0 := by
        have h := HPF.out
        rw [pfault, if_neg (by rw [HFF.out]; simp), if_pos (.inl h1)] at h
        simp at h; omega
      clear h1
      have q0 := HO.out.e.c0
      have q1 := HO.out.e.c1
      have q2 := HO.out.e.f0
      have q3 := HO.out.e.f1
      have q4 := HO.out.e.lt
      go_wp2
      refine bodyPost_ret (v := .tuple #[.slice none 0 0, .agg #[.int .i64 3, .int .i64 0]]) (by simp [results, Try.results24, go_sem, q0, q1, q4]) rfl ⟨none, 0, [], rfl, ⟨fun _ => rfl, fun h => ?_⟩, fun h => absurd rfl h, Nat.zero_le _, ?_⟩
      · rw [HPF.out] at h; simp at h
      · iterate 2 refine Below.setCell ?_ (by show w.heap.size ≤ w.heap.size + 1; omega) _
        exact HO.out.k
    have t1 : decide (n < 0) = false := decide_eq_false h1
    by_cases h2 : 1000000 < n
    · have t2 : decide (1000000 < n) = true := decide_eq_true h2
      obtain ⟨rfl, rfl⟩ : pc = 3 ∧ pd = 0 := by
        have h := HPF.out
        rw [pfault, if_neg (by rw [HFF.out]; simp), if_pos (.inr h2)] at h
        simp at h; omega
      clear h1 h2
      have q0 := HO.out.e.c0
      have q1 := HO.out.e.c1
      have q2 := HO.out.e.f0
      have q3 := HO.out.e.f1
      have q4 := HO.out.e.lt
      go_wp2
      refine bodyPost_ret (v := .tuple #[.slice none 0 0, .agg #[.int .i64 3, .int .i64 0]]) (by simp [results, Try.results24, go_sem, q0, q1, q4]) rfl ⟨none, 0, [], rfl, ⟨fun _ => rfl, fun h => ?_⟩, fun h => absurd rfl h, Nat.zero_le _, ?_⟩
      · rw [HPF.out] at h; simp at h
      · iterate 2 refine Below.setCell ?_ (by show w.heap.size ≤ w.heap.size + 1; omega) _
        exact HO.out.k
    have t2 : decide (1000000 < n) = false := decide_eq_false h2
    obtain ⟨rfl, rfl⟩ : pc = 0 ∧ pd = 0 := by
      have h := HPF.out
      rw [pfault, if_neg (by rw [HFF.out]; simp), if_neg (by omega)] at h
      simp at h; omega
    have HPt : Hid (∀ w, Calls Try.prog 40 #[f.v, .int .i64 n] w fun e w' => ∃ (a : Option Addr) (c : Nat) (l : List (Int × Int)), e = .returned (.slice a l.length c) ∧ Pts f n l ∧ l.length ≤ c ∧ (l ≠ [] → ∃ b : Nat, a = some ⟨b, 0, none⟩ ∧ w.heap.size ≤ b ∧ b < w'.heap.size ∧ ∀ j u, (pcells l)[j]? = some u → w'.cell? ⟨b, j, none⟩ = some u) ∧ Below w.heap.size w w') := fun w => points_any f n w HFF.out ⟨by omega, by omega⟩
    unfold Qf.v at HPt
    have c0 := HO.out.cf.cell 0
    have c1 := HO.out.cf.cell 1
    have c2 := HO.out.cf.cell 2
    simp at c0 c1 c2
    clear h1 h2
    go_wp2_with fail
    refine (HPt.out _).mono ?_
    rintro e w2 ⟨a, c, l, rfl, hpts, hlc, hpl, k2⟩
    have HR : Hid (Pts f n l ∧ l.length ≤ c ∧ Pl a l w2) := ⟨hpts, hlc, fun h => by obtain ⟨b, h1, _, h3⟩ := hpl h; exact ⟨b, h1, h3⟩⟩
    have HNe : Hid (∀ b : Nat, a = some ⟨b, 0, none⟩ → l ≠ [] → b ≠ w.heap.size + 1) := fun b hb hne => by
      obtain ⟨b', h1, h2, _⟩ := hpl hne
      rw [hb] at h1
      simp at h1
      have := HZ9.out
      simp at h2
      omega
    have HO2 : Hid (Pq w.heap.size f w w2) := HO.out.below k2
    clear hpts hlc hpl c0 c1 c2 HPt k2 HO
    have HO := HO2
    clear HO2
    have q0 := HO.out.e.c0
    have q1 := HO.out.e.c1
    have q2 := HO.out.e.f0
    have q3 := HO.out.e.f1
    have q4 := HO.out.e.lt
    go_wp2
    refine bodyPost_ret (v := .tuple #[.slice a l.length c, .agg #[.int .i64 0, .int .i64 0]]) (by simp [results, Try.results24, go_sem, q0, q1, q4]) rfl ⟨a, c, l, rfl, ⟨fun h => absurd HPF.out h, fun _ => HR.out.1⟩, fun hne => ?_, HR.out.2.1, ?_⟩
    · obtain ⟨b, hb, hb2, hc⟩ := HR.out.2.2 hne
      have hbn : b ≠ w.heap.size + 1 := HNe.out b hb hne
      refine ⟨b, hb, by simpa using hb2, fun j u hu => ?_⟩
      rw [← hc j u hu]
      have e : ∀ (W : World) (k : Nat) (v : Value), (W.setCell ⟨w.heap.size + 1, k, none⟩ v).cell? ⟨b, j, none⟩ = W.cell? ⟨b, j, none⟩ := fun W k v => World.cell?_of_block (Below.heap_setCell W ⟨w.heap.size + 1, k, none⟩ v b hbn)
      rw [e, e]
    · iterate 2 refine Below.setCell ?_ (by show w.heap.size ≤ w.heap.size + 1; omega) _
      exact HO.out.k
  · have hcb : (c != 0) = true := by simpa using hc
    obtain ⟨rfl, rfl⟩ : pc = c ∧ pd = d := by
      have h := HPF.out
      rw [pfault, if_pos (by rw [HFF.out]; intro h; exact hc (congrArg Prod.fst h)), HFF.out] at h
      simp at h; omega
    have HX : Hid (pc ≠ 0) := hc
    clear hc
    obtain ⟨W3, hW3⟩ : ∃ W3, W3 = w1.alloc (.cells #[.int .i64 pc, .int .i64 pd] 24) := ⟨_, rfl⟩
    rw [← hW3] at HO
    have CE : Sv w1.heap.size pc pd W3 := by rw [hW3]; exact sv_new0 _ _ _ rfl _ _
    have e0 := CE.c0
    have e1 := CE.c1
    have q0 := HO.out.e.c0
    have q1 := HO.out.e.c1
    have q2 := HO.out.e.f0
    have q3 := HO.out.e.f1
    have q4 := HO.out.e.lt
    clear CE
    rw [hW3] at e0 e1 q0 q1 q2 q3 q4
    go_wp2_with fail
    rw [← hW3] at *
    clear hW3
    go_region
    go_wp2
    refine bodyPost_ret (v := .tuple #[.slice none 0 0, .agg #[.int .i64 pc, .int .i64 pd]]) (by simp [results, Try.results24, go_sem, q0, q1, q4]) rfl ⟨none, 0, [], rfl, ⟨fun _ => rfl, fun h => ?_⟩, fun h => absurd rfl h, Nat.zero_le _, ?_⟩
    · rw [HPF.out] at h; simp at h; exact absurd h.1 HX.out
    · refine Below.drew ?_
      iterate 2 refine Below.setCell ?_ (by show w.heap.size ≤ w.heap.size + 1; omega) _
      exact HO.out.k

end Go.Proofs.Ytijkanilpblogae
end
