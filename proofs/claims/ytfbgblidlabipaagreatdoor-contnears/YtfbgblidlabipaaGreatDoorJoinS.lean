import Derived.Test.YtfbgblidlabipaaGreatDoorJoinP
import Derived.Test.YtfbgblidlabipaaGreatDoorJoinC
import Derived.Test.YtfbgblidlabipaaGreatDoorJoinE
section
/- Contracts: the calls Power and Inverse. -/
set_option linter.unusedSimpArgs false
set_option linter.unusedVariables false
set_option maxRecDepth 100000
namespace Go.Proofs.YtfbgblidlabipaaGreatDoor
open Go.RowKit

theorem triple_cells (a b c : Int) (W : World) (B : Nat) (h0 : W.cell? ⟨B, 0, none⟩ = some (.int .i64 a)) (h1 : W.cell? ⟨B, 1, none⟩ = some (.int .i64 b)) (h2 : W.cell? ⟨B, 2, none⟩ = some (.int .i64 c)) :
    ∀ j, j < [a, b, c].length → W.cell? ⟨B, 0 + j, none⟩ = some (.int .i64 ([a, b, c].getD j 0)) := by
  intro j hj
  match j, hj with
  | 0, _ => exact h0
  | 1, _ => exact h1
  | 2, _ => exact h2

def okB3 (a b c : Int) : Bool := numB a && numB b && numB c

theorem okB3_bounds {a b c : Int} (h : okB3 a b c = true) : a.natAbs ≤ 1000000000000000000 ∧ b.natAbs ≤ 1000000000000000000 ∧ c.natAbs ≤ 1000000000000000000 := by
  unfold okB3 at h; rw [Bool.and_eq_true, Bool.and_eq_true] at h
  have h1 := numB_true h.1.1; have h2 := numB_true h.1.2; have h3 := numB_true h.2; omega
theorem okB3_nf {a b c : Int} (h : okB3 a b c = true) : nf 0 [a, b, c] = (0, 0) := by
  unfold okB3 at h; rw [Bool.and_eq_true, Bool.and_eq_true] at h
  simp [nf, h.1.1, h.1.2, h.2]
theorem okB3_ne {a b c : Int} (h : okB3 a b c = false) : ((nf 0 [a, b, c]).1 != 0) = true := by
  unfold okB3 at h; unfold nf nf nf nf; cases h1 : numB a <;> cases h2 : numB b <;> cases h3 : numB c <;> simp_all

theorem okB_ne {a b : Int} (h : okB a b = false) : ((nf 0 [a, b]).1 != 0) = true := by
  unfold okB at h; unfold nf nf nf; cases h1 : numB a <;> cases h2 : numB b <;> simp_all

theorem inv_of_bez {a m u v : Int} (hm : 0 < m) (hg : Int.gcd a m = 1) (h : Bez a m u v) : 0 ≤ u ∧ u < m ∧ (u * a) % m = 1 % m := by
  have h1 := h.low (by omega)
  have h2 := h.high (by omega)
  have h3 := h.lin
  rw [hg] at h2 h3
  refine ⟨h1, by rw [Nat.div_one] at h2; omega, ?_⟩
  have e : u * a = 1 + m * (-v) := by rw [Int.mul_neg, Int.mul_comm m]; omega
  rw [e, Int.add_mul_emod_self_left]

end Go.Proofs.YtfbgblidlabipaaGreatDoor
end

section
/- Contracts: powerIsWithin, root, Root. -/
set_option linter.unusedSimpArgs false
set_option linter.unusedVariables false
set_option maxRecDepth 100000
namespace Go.Proofs.YtfbgblidlabipaaGreatDoor
open Go.RowKit

theorem pow_mono_exp {x i k : Nat} (hx : 1 ≤ x) (h : i ≤ k) : x ^ i ≤ x ^ k := Nat.pow_le_pow_right hx h

set_option maxHeartbeats 1000000 in
theorem within_any (x k n : Nat) (w : World) (hx : 1 ≤ x) (hxb : x ≤ 4000000000000000000) (hk : 1 ≤ k) (hkb : k ≤ 1000) (hn : n ≤ 1000000000000000000) :
    Calls Tryz.prog 231 #[.int .i64 x, .int .i64 k, .int .i64 n] w fun e w' => e = .returned (.bool (decide (x ^ k ≤ n))) ∧ ∃ q, w' = w.drewN q := by
  have tt : ((x : Int) == 0) = false := beq_eq_false_iff_ne.2 (by omega)
  have eq1 : (n : Int) / (x : Int) = ((n / x : Nat) : Int) := (Int.natCast_ediv ..).symm
  have hq : n / x ≤ n := Nat.div_le_self ..
  obtain ⟨Q, gQ⟩ : ∃ Q, Q = n / x := ⟨_, rfl⟩
  rw [← gQ] at eq1 hq
  have HQ : Hid (Q = n / x) := gQ
  clear gQ
  go_enter Tryz.func231, Tryz.ntmps231
  go_wp2
  go_loop [7, 9] (fun rv iv => ∃ i R : Nat, i ≤ k ∧ iv = .int .i64 i ∧ rv = .int .i64 R ∧ R ≤ 1000000000000000000 ∧ Hid (R = x ^ i ∧ (1 ≤ i → R ≤ n))) (fun _ iv => k - (intOf iv).toNat)
  case atStart => exact ⟨0, 1, Nat.zero_le _, rfl, rfl, by omega, rfl, fun h => absurd h (by omega)⟩
  case round =>
    obtain ⟨i, R, hi, rfl, rfl, hR, HR⟩ := hrel
    by_cases hlt : i < k
    · by_cases hgt : Q < R
      · have HF : Hid (¬ x ^ k ≤ n) := by
          show ¬ _
          have h1 : n < R * x := by
            have h2 : n / x < R := by rw [← HQ.out]; exact hgt
            exact (Nat.div_lt_iff_lt_mul (by omega)).1 h2
          have h3 : x ^ (i + 1) ≤ x ^ k := Nat.pow_le_pow_right hx hlt
          rw [Nat.pow_succ, ← HR.out.1] at h3
          omega
        go_wp2
        go_ret
        exact ⟨ret_bool (decide_eq_false HF.out).symm, 0, rfl⟩
      · have hle : R * x ≤ n := by
          have h1 : R ≤ n / x := by rw [← HQ.out]; omega
          have h2 := Nat.mul_le_mul_right x h1
          have h3 := Nat.div_mul_le_self n x
          omega
        have hI : 0 ≤ (R : Int) * (x : Int) ∧ (R : Int) * (x : Int) ≤ 1000000000000000000 := by rw [← Int.natCast_mul]; omega
        have HLE : Hid (R * x ≤ n) := hle
        clear hle
        go_wp2
        go_round
        case rel =>
          refine ⟨i + 1, R * x, by omega, by go_num, by simp, ?_, ?_, fun _ => HLE.out⟩
          · have := HLE.out; omega
          · rw [Nat.pow_succ, ← HR.out.1]
        case measure => simp [intOf]; omega
    · obtain rfl : i = k := by omega
      have HT : Hid (x ^ i ≤ n) := by show _ ≤ _; rw [← HR.out.1]; exact HR.out.2 hk
      go_wp2
      go_ret
      exact ⟨ret_bool (decide_eq_true HT.out).symm, 0, rfl⟩

theorem or_i64 (a b : Nat) (ha : a < 4611686018427387904) (hb : b < 4611686018427387904) : bits .or .i64 (a : Int) (b : Int) = ((a ||| b : Nat) : Int) := by
  have hx : a ||| b < 2 ^ 62 := Nat.or_lt_two_pow (by omega) (by omega)
  have h1 : (BitVec.ofInt 64 (a : Int)).toNat = a := by
    rw [BitVec.ofInt_natCast, BitVec.toNat_ofNat]; exact Nat.mod_eq_of_lt (by omega)
  have h2 : (BitVec.ofInt 64 (b : Int)).toNat = b := by
    rw [BitVec.ofInt_natCast, BitVec.toNat_ofNat]; exact Nat.mod_eq_of_lt (by omega)
  show IntKind.i64.wrap ((BitVec.ofInt 64 (a : Int) ||| BitVec.ofInt 64 (b : Int)).toNat : Int) = _
  rw [BitVec.toNat_or, h1, h2, IntKind.wrap_i64]
  omega

theorem or_top (A e p : Nat) (hp : 2 ^ e = p) (h0 : 0 < p) : A * (2 * p) ||| p = (2 * A + 1) * p := by
  have h2 : 2 ^ (e + 1) = 2 * p := by rw [Nat.pow_succ, hp, Nat.mul_comm]
  have h := Nat.two_pow_add_eq_or_of_lt (i := e + 1) (b := p) (by rw [h2]; omega) A
  rw [h2, Nat.mul_comm] at h
  rw [← h, Nat.add_mul, Nat.one_mul]
  congr 1
  simp only [Nat.mul_assoc, Nat.mul_comm, Nat.mul_left_comm]

theorem two60 : (2 : Nat) ^ 60 = 1152921504606846976 := by decide

theorem try_small (A i e p : Nat) (hie : i + (e + 1) = 60) (hA : A < 2 ^ i) (hp : 2 ^ e = p) : (A + 1) * (2 * p) ≤ 1152921504606846976 := by
  have h2 : 2 ^ (e + 1) = 2 * p := by rw [Nat.pow_succ, hp, Nat.mul_comm]
  have h := Nat.mul_le_mul_right (2 ^ (e + 1)) (show A + 1 ≤ 2 ^ i from hA)
  rw [← Nat.pow_add, hie, two60, h2] at h
  exact h

theorem try_word (A e p : Nat) (hp : 2 ^ e = p) (h0 : 0 < p) (hb : (A + 1) * (2 * p) ≤ 1152921504606846976) : bits .or .i64 ((A : Int) * (2 * p : Nat)) (wrap64 (p : Int)) = (((2 * A + 1) * p : Nat) : Int) := by
  rw [Nat.add_mul, Nat.one_mul] at hb
  have e2 : wrap64 (p : Int) = (p : Int) := by unfold wrap64; omega
  rw [e2, ← Int.natCast_mul, or_i64 _ _ (by omega) (by omega), or_top A e p hp h0]

theorem try_bit (A i : Nat) (hi : i < 60) (hA : A < 2 ^ i) : bits .or .i64 ((A : Int) * 2 ^ (60 - i)) (wrap64 (2 ^ (59 - i))) = (((2 * A + 1) * 2 ^ (59 - i) : Nat) : Int) ∧ (2 * A + 1) * 2 ^ (59 - i) < 1152921504606846976 := by
  obtain ⟨e, he⟩ : ∃ e, e = 59 - i := ⟨_, rfl⟩
  rw [show 60 - i = e + 1 by omega, ← he]
  obtain ⟨p, hp⟩ : ∃ p, 2 ^ e = p := ⟨_, rfl⟩
  have h0 : 0 < p := by rw [← hp]; exact Nat.two_pow_pos e
  have hb := try_small A i e p (by omega) hA hp
  have e1 : (2 : Int) ^ (e + 1) = ((2 * p : Nat) : Int) := by rw [← hp, Nat.mul_comm, ← Nat.pow_succ]; simp
  have e2 : (2 : Int) ^ e = (p : Int) := by rw [← hp]; simp
  rw [e1, e2, hp]
  refine ⟨try_word A e p hp h0 hb, ?_⟩
  have : (2 * A + 1) * p + p = (A + 1) * (2 * p) := by
    rw [Nat.add_mul, Nat.add_mul, Nat.one_mul, Nat.one_mul, Nat.mul_comm 2 A, Nat.mul_assoc]; omega
  omega

set_option maxHeartbeats 1000000 in
theorem root_any (n k : Nat) (w : World) (hk : 1 ≤ k) (hkb : k ≤ 60) (hn : n ≤ 1000000000000000000) :
    Calls Tryz.prog 180 #[.int .i64 n, .int .i64 k] w fun e w' => ∃ r : Nat, e = .returned (.int .i64 (r : Int)) ∧ r ^ k ≤ n ∧ n < (r + 1) ^ k ∧ r < 1152921504606846976 ∧ ∃ q, w' = w.drewN q := by
  go_enter Tryz.func180, Tryz.ntmps180
  go_wp2
  go_loopw [5, 8] (fun av iv wx => ∃ i A : Nat, i ≤ 60 ∧ iv = .int .i64 i ∧ av = .int .i64 (A * 2 ^ (60 - i) : Nat) ∧ A < 2 ^ i ∧ Hid ((A * 2 ^ (60 - i)) ^ k ≤ n ∧ n < ((A + 1) * 2 ^ (60 - i)) ^ k ∧ ∃ q, wx = w.drewN q)) (fun _ iv _ => 60 - (intOf iv).toNat)
  case atStart =>
    refine ⟨0, 0, by omega, rfl, rfl, by decide, ?_, ?_, 0, rfl⟩
    · rw [Nat.zero_mul, Nat.zero_pow hk]; omega
    · have h1 : (2 ^ 60) ^ 1 ≤ (2 ^ 60) ^ k := Nat.pow_le_pow_right (by decide) hk
      simp only [Nat.zero_add, Nat.one_mul, Nat.sub_zero]
      omega
  case round =>
    obtain ⟨i, A, hi, rfl, rfl, hA, HR⟩ := hrel
    by_cases hlt : i < 60
    · obtain ⟨htb, hTl⟩ := try_bit A i hlt hA
      obtain ⟨T, gT⟩ : ∃ T, T = (2 * A + 1) * 2 ^ (59 - i) := ⟨_, rfl⟩
      have hT1 : 1 ≤ T := by rw [gT]; exact Nat.mul_pos (by omega) (Nat.two_pow_pos _)
      rw [← gT] at htb hTl
      have HT : Hid (T = (2 * A + 1) * 2 ^ (59 - i)) := gT
      have HB : Hid (bits .or .i64 ((A : Int) * 2 ^ (60 - i)) (wrap64 (2 ^ (59 - i))) = (T : Int)) := htb
      have h60 : (2 : Nat) ^ (60 - i) = 2 * 2 ^ (59 - i) := by rw [show 60 - i = (59 - i) + 1 by omega, Nat.pow_succ, Nat.mul_comm]
      have HA2 : Hid (A * 2 ^ (60 - i) = 2 * A * 2 ^ (60 - (i + 1))) := by
        show _ = _
        rw [show 60 - (i + 1) = 59 - i by omega, h60]
        simp only [Nat.mul_assoc, Nat.mul_comm, Nat.mul_left_comm]
      have HA3 : Hid ((A + 1) * 2 ^ (60 - i) = (2 * A + 1 + 1) * 2 ^ (60 - (i + 1))) := by
        show _ = _
        rw [show 60 - (i + 1) = 59 - i by omega, h60, show 2 * A + 1 + 1 = 2 * (A + 1) by omega]
        simp only [Nat.mul_assoc, Nat.mul_comm, Nat.mul_left_comm]
      have HP2 : Hid (2 ^ (i + 1) = 2 * 2 ^ i) := by show _ = _; rw [Nat.pow_succ, Nat.mul_comm]
      clear htb gT h60
      go_wp2_with fail
      rw [HB.out]
      refine (within_any T k n _ hT1 (by omega) hk (by omega) hn).mono ?_
      by_cases hle : T ^ k ≤ n
      · have HLE : Hid (T ^ k ≤ n) := hle
        rw [decide_eq_true hle]
        clear hle
        rintro e w1 ⟨rfl, q1, rfl⟩
        go_wp2
        go_roundw
        case rel =>
          obtain ⟨q, hq⟩ := HR.out.2.2
          refine ⟨i + 1, 2 * A + 1, by omega, by go_num, ?_, ?_, ?_, ?_, ?_⟩
          · rw [show 60 - (i + 1) = 59 - i by omega, ← HT.out]
          · have := HP2.out; omega
          · rw [show 60 - (i + 1) = 59 - i by omega, ← HT.out]; exact HLE.out
          · rw [← HA3.out]; exact HR.out.2.1
          · exact drewN_more ⟨q, hq⟩ _
        case measure => simp [intOf]; omega
      · have HLE : Hid (n < T ^ k) := Nat.lt_of_not_le hle
        rw [decide_eq_false hle]
        clear hle
        rintro e w1 ⟨rfl, q1, rfl⟩
        go_wp2
        go_roundw
        case rel =>
          obtain ⟨q, hq⟩ := HR.out.2.2
          refine ⟨i + 1, 2 * A, by omega, by go_num, ?_, ?_, ?_, ?_, ?_⟩
          · rw [← HA2.out]; congr 1
          · have := HP2.out; omega
          · rw [← HA2.out]; exact HR.out.1
          · rw [show 60 - (i + 1) = 59 - i by omega, ← HT.out]; exact HLE.out
          · exact drewN_more ⟨q, hq⟩ _
        case measure => simp [intOf]; omega
    · obtain rfl : i = 60 := by omega
      obtain ⟨q, rfl⟩ := HR.out.2.2
      have H1 := HR.out.1
      have H2 := HR.out.2.1
      simp only [Nat.sub_self, Nat.pow_zero, Nat.mul_one] at H1 H2
      have HH1 : Hid (A ^ k ≤ n) := H1
      have HH2 : Hid (n < (A + 1) ^ k) := H2
      clear H1 H2
      go_wp2
      go_ret
      exact ⟨A, ret_int (by simp), HH1.out, HH2.out, by simpa using hA, q, rfl⟩

set_option maxHeartbeats 400000 in
theorem Root_far (n k : Int) (w : World) (h : numB n = false ∨ n < 0) :
    Calls Tryz.prog 130 #[.int .i64 n, .int .i64 k] w fun e w' => e = .returned (.tuple #[.int .i64 0, .agg #[.int .i64 3, .int .i64 0]]) ∧ Below w.heap.size w w' := by
  cases hn : numB n
  · clear h
    go_enter Tryz.func130, Tryz.ntmps130
    go_wp2_with (go_at_call 120; refine (isNumber_any _ _).mono ?_; rintro e w' ⟨rfl, rfl⟩)
    refine bodyPost_ret (v := .tuple #[.int .i64 0, .agg #[.int .i64 3, .int .i64 0]]) (by simp [results, Tryz.results130, go_sem]) rfl ⟨rfl, ?_⟩
    exact Below.alloc (Below.refl _ _) (Nat.le_refl _) _
  · have h2 : n < 0 := by rcases h with h | h; (rw [hn] at h; cases h); exact h
    clear h
    go_enter Tryz.func130, Tryz.ntmps130
    go_wp2_with (go_at_call 120; refine (isNumber_any _ _).mono ?_; rintro e w' ⟨rfl, rfl⟩)
    refine bodyPost_ret (v := .tuple #[.int .i64 0, .agg #[.int .i64 3, .int .i64 0]]) (by simp [results, Tryz.results130, go_sem]) rfl ⟨rfl, ?_⟩
    exact Below.alloc (Below.refl _ _) (Nat.le_refl _) _

set_option maxHeartbeats 400000 in
theorem Root_many (n k : Int) (w : World) (hn : numB n = true) (h0 : 0 ≤ n) (h : k < 1 ∨ 60 < k) :
    Calls Tryz.prog 130 #[.int .i64 n, .int .i64 k] w fun e w' => e = .returned (.tuple #[.int .i64 0, .agg #[.int .i64 3, .int .i64 1]]) ∧ Below w.heap.size w w' := by
  by_cases h1 : k < 1
  · clear h
    go_enter Tryz.func130, Tryz.ntmps130
    go_wp2_with (go_at_call 120; refine (isNumber_any _ _).mono ?_; rintro e w' ⟨rfl, rfl⟩)
    refine bodyPost_ret (v := .tuple #[.int .i64 0, .agg #[.int .i64 3, .int .i64 1]]) (by simp [results, Tryz.results130, go_sem]) rfl ⟨rfl, ?_⟩
    exact Below.alloc (Below.refl _ _) (Nat.le_refl _) _
  · have h2 : 60 < k := by omega
    clear h
    go_enter Tryz.func130, Tryz.ntmps130
    go_wp2_with (go_at_call 120; refine (isNumber_any _ _).mono ?_; rintro e w' ⟨rfl, rfl⟩)
    refine bodyPost_ret (v := .tuple #[.int .i64 0, .agg #[.int .i64 3, .int .i64 1]]) (by simp [results, Tryz.results130, go_sem]) rfl ⟨rfl, ?_⟩
    exact Below.alloc (Below.refl _ _) (Nat.le_refl _) _

set_option maxHeartbeats 400000 in
theorem Root_ok (n k : Nat) (w : World) (hn : numB (n : Int) = true) (h1 : 1 ≤ k) (h2 : k ≤ 60) :
    Calls Tryz.prog 130 #[.int .i64 n, .int .i64 k] w fun e w' => ∃ r : Nat, e = .returned (.tuple #[.int .i64 (r : Int), .agg #[.int .i64 0, .int .i64 0]]) ∧ r ^ k ≤ n ∧ n < (r + 1) ^ k ∧ r < 1152921504606846976 ∧ Below w.heap.size w w' := by
  have hb := numB_true hn
  go_enter Tryz.func130, Tryz.ntmps130
  go_wp2_with (first | (go_at_call 120; refine (isNumber_any _ _).mono ?_; rintro e w' ⟨rfl, rfl⟩) | (go_at_call 180; refine (root_any n k _ h1 h2 (by omega)).mono ?_; rintro e w' ⟨r, rfl, r1, r2, r3, q, rfl⟩))
  refine bodyPost_ret (v := .tuple #[.int .i64 (r : Int), .agg #[.int .i64 0, .int .i64 0]]) (by simp [results, Tryz.results130, go_sem]) rfl ⟨r, rfl, r1, r2, r3, ?_⟩
  exact ((below_drewN' (Below.alloc (Below.refl _ _) (Nat.le_refl _) _)).setCell (Nat.le_refl _) _).setCell (Nat.le_refl _) _

end Go.Proofs.YtfbgblidlabipaaGreatDoor
end

section
/- The program: cont.rootOf. -/
set_option linter.unusedSimpArgs false
set_option linter.unusedVariables false
set_option maxRecDepth 100000
namespace Go.Proofs.YtfbgblidlabipaaGreatDoor
open Go.RowKit

/-- What rootOf answers: the root's box, and the fault. -/
def RoOut (d : Int) (v f : Value) : Prop :=
  ((d < 2 ∨ 1000000 < d) ∧ v = sgv 0 0 0 0 ∧ f = .agg #[.int .i64 3, .int .i64 0]) ∨
  (∃ r : Nat, (2 ≤ d ∧ d ≤ 1000000) ∧ (r : Int) * r = d ∧ v = sgv 0 0 0 0 ∧ f = .agg #[.int .i64 7, .int .i64 0]) ∨
  (∃ n r : Nat, d = n ∧ n ≤ 1000000 ∧ CfM.Rn n r ∧ v = sgv n r 0 1 ∧ f = .agg #[.int .i64 0, .int .i64 0])

theorem ro_end {h : Nat} {w W2 : World} (S2 : Cl h (sgc 0 0 0 0) 110 W2) (F2 : Cl (h + 1) [.int .i64 0, .int .i64 0] 25 W2) (K : Below h w W2) (a b c d e f : Value) :
    ∃ WF, (((((W2.setCell ⟨h, 0, none⟩ a).setCell ⟨h, 1, none⟩ b).setCell ⟨h, 2, none⟩ c).setCell ⟨h, 3, none⟩ d).setCell ⟨h + 1, 0, none⟩ e).setCell ⟨h + 1, 1, none⟩ f = WF ∧
      WF.cell? ⟨h, 0, none⟩ = some a ∧ WF.cell? ⟨h, 1, none⟩ = some b ∧ WF.cell? ⟨h, 2, none⟩ = some c ∧ WF.cell? ⟨h, 3, none⟩ = some d ∧ WF.cell? ⟨h + 1, 0, none⟩ = some e ∧ WF.cell? ⟨h + 1, 1, none⟩ = some f ∧ Below h w WF := by
  have S : Cl h [a, b, c, d] 110 ((((((W2.setCell ⟨h, 0, none⟩ a).setCell ⟨h, 1, none⟩ b).setCell ⟨h, 2, none⟩ c).setCell ⟨h, 3, none⟩ d).setCell ⟨h + 1, 0, none⟩ e).setCell ⟨h + 1, 1, none⟩ f) :=
    (((((S2.set 0 a).set 1 b).set 2 c).set 3 d).other (p := ⟨h + 1, 0, none⟩) (by simp) e).other (p := ⟨h + 1, 1, none⟩) (by simp) f
  have F : Cl (h + 1) [e, f] 25 ((((((W2.setCell ⟨h, 0, none⟩ a).setCell ⟨h, 1, none⟩ b).setCell ⟨h, 2, none⟩ c).setCell ⟨h, 3, none⟩ d).setCell ⟨h + 1, 0, none⟩ e).setCell ⟨h + 1, 1, none⟩ f) :=
    (((((F2.other (p := ⟨h, 0, none⟩) (by simp) a).other (p := ⟨h, 1, none⟩) (by simp) b).other (p := ⟨h, 2, none⟩) (by simp) c).other (p := ⟨h, 3, none⟩) (by simp) d).set 0 e).set 1 f
  exact ⟨_, rfl, S.cell 0, S.cell 1, S.cell 2, S.cell 3, F.cell 0, F.cell 1, ((((((K.setCell (Nat.le_refl _) _).setCell (Nat.le_refl _) _).setCell (Nat.le_refl _) _).setCell (Nat.le_refl _) _).setCell (by simp) _).setCell (by simp) _)⟩

set_option maxHeartbeats 2000000 in
theorem rootOf_any (d : Int) (w : World) :
    Calls Tryz.prog 69 #[.int .i64 d] w fun e w' => ∃ v f, e = .returned (.tuple #[v, f]) ∧ RoOut d v f ∧ Below w.heap.size w w' := by
  by_cases h1 : d < 2
  · have t1 : decide (d < 2) = true := decide_eq_true h1
    have HO : Hid (RoOut d (sgv 0 0 0 0) (.agg #[.int .i64 3, .int .i64 0])) := .inl ⟨.inl h1, rfl, rfl⟩
    clear h1
    go_enter Tryz.func69, Tryz.ntmps69
    go_wp2
    refine bodyPost_ret (v := .tuple #[sgv 0 0 0 0, .agg #[.int .i64 3, .int .i64 0]]) (by simp [results, Tryz.results69, go_sem, sgv]) rfl ⟨_, _, rfl, HO.out, ?_⟩
    exact ((Below.refl _ _).alloc (Nat.le_refl _) _).alloc (by simp) _
  by_cases h2 : 1000000 < d
  · have t1 : decide (d < 2) = false := decide_eq_false h1
    have t2 : decide (1000000 < d) = true := decide_eq_true h2
    have HO : Hid (RoOut d (sgv 0 0 0 0) (.agg #[.int .i64 3, .int .i64 0])) := .inl ⟨.inr h2, rfl, rfl⟩
    clear h1 h2
    go_enter Tryz.func69, Tryz.ntmps69
    go_wp2
    refine bodyPost_ret (v := .tuple #[sgv 0 0 0 0, .agg #[.int .i64 3, .int .i64 0]]) (by simp [results, Tryz.results69, go_sem, sgv]) rfl ⟨_, _, rfl, HO.out, ?_⟩
    exact ((Below.refl _ _).alloc (Nat.le_refl _) _).alloc (by simp) _
  obtain ⟨n, rfl⟩ := Int.eq_ofNat_of_zero_le (show 0 ≤ d by omega)
  have t1 : decide ((n : Int) < 2) = false := decide_eq_false h1
  have t2 : decide (1000000 < (n : Int)) = false := decide_eq_false h2
  have hn2 : 2 ≤ n ∧ n ≤ 1000000 := by omega
  have HRt : Hid (∀ w, Calls Tryz.prog 130 #[.int .i64 (n : Int), .int .i64 2] w fun e w' => ∃ r : Nat, e = .returned (.tuple #[.int .i64 (r : Int), .agg #[.int .i64 0, .int .i64 0]]) ∧ r ^ 2 ≤ n ∧ n < (r + 1) ^ 2 ∧ r < 1152921504606846976 ∧ Below w.heap.size w w') := fun w => Root_ok n 2 w (numB_mk (by omega) (by omega)) (by decide) (by decide)
  have hS : Cl w.heap.size (sgc 0 0 0 0) 110 ((w.alloc (.cells #[.int .i64 0, .int .i64 0, .int .i64 0, .int .i64 0] 110)).alloc (.cells #[.int .i64 0, .int .i64 0] 25)) := (Cl.new (sgc 0 0 0 0) _ w).alloc _
  have hF : Cl (w.heap.size + 1) [.int .i64 0, .int .i64 0] 25 ((w.alloc (.cells #[.int .i64 0, .int .i64 0, .int .i64 0, .int .i64 0] 110)).alloc (.cells #[.int .i64 0, .int .i64 0] 25)) := by
    have := Cl.new [.int .i64 0, .int .i64 0] 25 (w.alloc (.cells #[.int .i64 0, .int .i64 0, .int .i64 0, .int .i64 0] 110))
    rw [World.size_alloc] at this
    exact this
  have HS : Hid (Cl w.heap.size (sgc 0 0 0 0) 110 ((w.alloc (.cells #[.int .i64 0, .int .i64 0, .int .i64 0, .int .i64 0] 110)).alloc (.cells #[.int .i64 0, .int .i64 0] 25))) := hS
  have HF : Hid (Cl (w.heap.size + 1) [.int .i64 0, .int .i64 0] 25 ((w.alloc (.cells #[.int .i64 0, .int .i64 0, .int .i64 0, .int .i64 0] 110)).alloc (.cells #[.int .i64 0, .int .i64 0] 25))) := hF
  clear h1 h2 hS hF
  go_enter Tryz.func69, Tryz.ntmps69
  go_wp2_with fail
  refine (HRt.out _).mono ?_
  rintro e w1 ⟨r, rfl, h3, h4, h5, k1⟩
  have hr3 : r * r ≤ n := by rw [Nat.pow_two] at h3; exact h3
  have hr4 : n < (r + 1) * (r + 1) := by rw [Nat.pow_two] at h4; exact h4
  have hr1 : 1 ≤ r := by
    rcases Nat.lt_or_ge r 1 with h | h
    · have : r = 0 := by omega
      subst this; omega
    · exact h
  have hr5 : r ≤ 1000000 := by
    have := Nat.mul_le_mul hr1 (Nat.le_refl r)
    omega
  obtain ⟨R, hR⟩ : ∃ R : Nat, R = r * r := ⟨_, rfl⟩
  have hRI : (r : Int) * (r : Int) = (R : Int) := by rw [hR, Int.natCast_mul]
  have HR : Hid (R = r * r) := hR
  have hRn : R ≤ n := by omega
  have HR4 : Hid (n < (r + 1) * (r + 1)) := hr4
  have S1 := HS.out.below (k1.mono (by simp))
  have F1 := HF.out.below (k1.mono (by simp))
  have K1 : Hid (Below w.heap.size w w1) := (((Below.refl _ _).alloc (Nat.le_refl _) _).alloc (by simp) _).trans (k1.mono (by simp; omega))
  have z1 : w.heap.size + 2 ≤ w1.heap.size := by have := k1.size; simp at this; omega
  have HS1 : Hid (Cl w.heap.size (sgc 0 0 0 0) 110 w1) := S1
  have HF1 : Hid (Cl (w.heap.size + 1) [.int .i64 0, .int .i64 0] 25 w1) := F1
  obtain ⟨W2, hW2⟩ : ∃ W2, W2 = w1.alloc (.cells #[.int .i64 0, .int .i64 0] 25) := ⟨_, rfl⟩
  have S2 : Cl w.heap.size (sgc 0 0 0 0) 110 W2 := by rw [hW2]; exact S1.alloc _
  have F2 : Cl (w.heap.size + 1) [.int .i64 0, .int .i64 0] 25 W2 := by rw [hW2]; exact F1.alloc _
  have K2 : Hid (Below w.heap.size w W2) := by show Below _ _ _; rw [hW2]; exact K1.out.alloc (by omega) _
  have e0 : ∀ x : Obj, (w1.alloc x).cell? ⟨w.heap.size, 0, none⟩ = some (.int .i64 0) := fun x => (S1.alloc x).cell 0
  have e1 : ∀ x : Obj, (w1.alloc x).cell? ⟨w.heap.size, 1, none⟩ = some (.int .i64 0) := fun x => (S1.alloc x).cell 1
  have e2 : ∀ x : Obj, (w1.alloc x).cell? ⟨w.heap.size, 2, none⟩ = some (.int .i64 0) := fun x => (S1.alloc x).cell 2
  have e3 : ∀ x : Obj, (w1.alloc x).cell? ⟨w.heap.size, 3, none⟩ = some (.int .i64 0) := fun x => (S1.alloc x).cell 3
  have f0 : ∀ x : Obj, (w1.alloc x).cell? ⟨w.heap.size + 1, 0, none⟩ = some (.int .i64 0) := fun x => (F1.alloc x).cell 0
  have f1 : ∀ x : Obj, (w1.alloc x).cell? ⟨w.heap.size + 1, 1, none⟩ = some (.int .i64 0) := fun x => (F1.alloc x).cell 1
  have g0 : ∀ x : Obj, (w1.alloc x).frozen? ⟨w.heap.size, 0, none⟩ = false := fun x => (S1.alloc x).frozen 0
  have g1 : ∀ x : Obj, (w1.alloc x).frozen? ⟨w.heap.size, 1, none⟩ = false := fun x => (S1.alloc x).frozen 1
  have g2 : ∀ x : Obj, (w1.alloc x).frozen? ⟨w.heap.size, 2, none⟩ = false := fun x => (S1.alloc x).frozen 2
  have g3 : ∀ x : Obj, (w1.alloc x).frozen? ⟨w.heap.size, 3, none⟩ = false := fun x => (S1.alloc x).frozen 3
  have g4 : ∀ x : Obj, (w1.alloc x).frozen? ⟨w.heap.size + 1, 0, none⟩ = false := fun x => (F1.alloc x).frozen 0
  have g5 : ∀ x : Obj, (w1.alloc x).frozen? ⟨w.heap.size + 1, 1, none⟩ = false := fun x => (F1.alloc x).frozen 1
  have HS2 : Hid (Cl w.heap.size (sgc 0 0 0 0) 110 W2) := S2
  have HF2 : Hid (Cl (w.heap.size + 1) [.int .i64 0, .int .i64 0] 25 W2) := F2
  have HW2 : Hid (W2 = w1.alloc (.cells #[.int .i64 0, .int .i64 0] 25)) := hW2
  clear h3 h4 h5 k1 S1 F1 S2 F2 hr3 hr4 hR HRt HS HF hW2
  by_cases hsq : R = n
  · have hqb : ((R : Int) == (n : Int)) = true := beq_iff_eq.2 (by omega)
    have HO : Hid (RoOut (n : Int) (sgv 0 0 0 0) (.agg #[.int .i64 7, .int .i64 0])) := .inr (.inl ⟨r, by omega, by rw [hRI, hsq], rfl, rfl⟩)
    clear hsq
    go_wp2
    rw [← HW2.out]
    obtain ⟨WF, hWF, c0, c1, c2, c3, c4, c5, KF⟩ := ro_end HS2.out HF2.out K2.out (.int .i64 0) (.int .i64 0) (.int .i64 0) (.int .i64 0) (.int .i64 7) (.int .i64 0)
    rw [hWF]
    exact bodyPost_ret (v := .tuple #[sgv 0 0 0 0, .agg #[.int .i64 7, .int .i64 0]]) (by simp [results, Tryz.results69, go_sem, sgv, c0, c1, c2, c3, c4, c5]) rfl ⟨_, _, rfl, HO.out, KF⟩
  · have hqb : ((R : Int) == (n : Int)) = false := beq_eq_false_iff_ne.2 (by omega)
    have HO : Hid (RoOut (n : Int) (sgv n r 0 1) (.agg #[.int .i64 0, .int .i64 0])) := .inr (.inr ⟨n, r, rfl, hn2.2, ⟨hr1, by have := HR.out; omega, HR4.out⟩, rfl, rfl⟩)
    clear hsq
    go_wp2
    rw [← HW2.out]
    obtain ⟨WF, hWF, c0, c1, c2, c3, c4, c5, KF⟩ := ro_end HS2.out HF2.out K2.out (.int .i64 (n : Int)) (.int .i64 (r : Int)) (.int .i64 0) (.int .i64 1) (.int .i64 0) (.int .i64 0)
    rw [hWF]
    exact bodyPost_ret (v := .tuple #[sgv n r 0 1, .agg #[.int .i64 0, .int .i64 0]]) (by simp [results, Tryz.results69, go_sem, sgv, c0, c1, c2, c3, c4, c5]) rfl ⟨_, _, rfl, HO.out, KF⟩

end Go.Proofs.YtfbgblidlabipaaGreatDoor
end
