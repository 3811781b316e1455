import Derived.Test.YtbeceimopamllaaDoorJnB
import Derived.Test.YtbeceimopamllaaDoorJnC
import Derived.Test.YtbeceimopamllaaDoorJnD
import Derived.RangeFuncNested
import Derived.RangeFuncBound
import Derived.RangeFuncCalls
import Derived.RangeFuncLeaves
import Derived.Shelf.Abstract
import Derived.Shelf.RegionOpen
import Derived.OwnWalkIn
import Derived.TacticsInMore
import Derived.LoopNIn
import Derived.LoopIn
import Derived.Maps.OwnIn
import Derived.Test.YtbeceimopamllaaDoorRows
import Derived.WalkKit
import Derived.OrdersHeld
import Derived.Deep.RegionWith
section
/- The contract of modulo.Power: a power by a number, bit by bit. -/
set_option linter.unusedSimpArgs false
set_option linter.unusedVariables false
set_option maxRecDepth 100000
namespace Go.Proofs.YtbeceimopamllaaDoor
open Go.RowKit

/-- One more bit of the exponent. -/
theorem mod_pow_succ (n i : Nat) : n % 2 ^ (i + 1) = n % 2 ^ i + 2 ^ i * (n / 2 ^ i % 2) := by
  rw [Nat.pow_succ, Nat.mod_mul]

theorem pow_sq (A i m : Nat) : (A ^ 2 ^ i % m) * (A ^ 2 ^ i % m) % m = A ^ 2 ^ (i + 1) % m := by
  rw [← Nat.mul_mod, ← Nat.pow_add, Nat.pow_succ]; congr 2; omega

theorem pow_one_bit (A n i m : Nat) (h : n / 2 ^ i % 2 = 1) : (A ^ (n % 2 ^ i) % m) * (A ^ 2 ^ i % m) % m = A ^ (n % 2 ^ (i + 1)) % m := by
  rw [← Nat.mul_mod, ← Nat.pow_add, mod_pow_succ, h, Nat.mul_one]
theorem pow_no_bit (A n i m : Nat) (h : n / 2 ^ i % 2 = 0) : A ^ (n % 2 ^ i) % m = A ^ (n % 2 ^ (i + 1)) % m := by
  rw [mod_pow_succ, h, Nat.mul_zero, Nat.add_zero]

theorem and_one_i64 (a : Nat) (ha : a < 9223372036854775808) : bits .and .i64 (a : Int) 1 = ((a % 2 : Nat) : Int) := by
  have h1 : (BitVec.ofInt 64 (a : Int)).toNat = a := by
    rw [BitVec.ofInt_natCast, BitVec.toNat_ofNat]; exact Nat.mod_eq_of_lt (by omega)
  have h2 : (BitVec.ofInt 64 (1 : Int)).toNat = 1 := by decide
  show IntKind.i64.wrap ((BitVec.ofInt 64 (a : Int) &&& BitVec.ofInt 64 (1 : Int)).toNat : Int) = _
  rw [BitVec.toNat_and, h1, h2, Nat.and_one_is_mod, IntKind.wrap_i64]
  omega

theorem bit_i64 (n i b : Nat) (hn : n < 9223372036854775808) (h : n / 2 ^ i % 2 = b) : bits .and .i64 ((n : Int) / 2 ^ i) 1 = (b : Int) := by
  have e : (n : Int) / 2 ^ i = ((n / 2 ^ i : Nat) : Int) := by simp
  rw [e, and_one_i64 _ (Nat.lt_of_le_of_lt (Nat.div_le_self ..) hn), h]

set_option maxHeartbeats 1000000 in
theorem modPower_any (a : Int) (n m : Nat) (w : World) (ha : a.natAbs ≤ 4000000000000000000) (h0 : 0 < m) (hm : m ≤ 1000000000000000000) (hn : n ≤ 1000000000000000000) :
    Calls Tryd.prog 68 #[.int .i64 a, .int .i64 n, .int .i64 m] w fun e w' => e = .returned (.int .i64 (((a % (m : Int)).toNat ^ n % m : Nat) : Int)) ∧ ∃ q, w' = w.drewN q := by
  obtain ⟨A, gA⟩ : ∃ A : Nat, A = (a % (m : Int)).toNat := ⟨_, rfl⟩
  have h1 : 0 ≤ a % (m : Int) := Int.emod_nonneg _ (by omega)
  have h2 : a % (m : Int) < (m : Int) := Int.emod_lt_of_pos _ (by omega)
  have HA : Hid (a % (m : Int) = (A : Int)) := by show _ = _; omega
  have hA : A < m := by omega
  rw [← gA]
  clear gA h1 h2
  have hbl := bl_spec n (by omega)
  have hL : Lib.bitLen n ≤ 64 := Lib.bitLen_le n 64 (by omega) (by omega)
  obtain ⟨L, gL⟩ : ∃ L, L = Lib.bitLen n := ⟨_, rfl⟩
  rw [← gL] at hbl hL
  have HL : Hid (n < 2 ^ L) := hbl.1
  have HLE : Hid (Lib.bitLen ((n : Int).toNat) = L) := by show _ = _; rw [gL]; rfl
  clear hbl gL
  go_enter Tryd.func68, Tryd.ntmps68
  go_wp2_with fail
  refine (left_any 1 m w (by omega) h0 (by omega)).mono ?_
  rintro e w1 ⟨rfl, rfl⟩
  obtain ⟨o, go⟩ : ∃ o, o = 1 % m := ⟨_, rfl⟩
  have e1 : (1 : Int) % (m : Int) = (o : Int) := by rw [go]; rfl
  rw [e1]
  have hom : o < m := by rw [go]; exact Nat.mod_lt _ h0
  have HO : Hid (o = 1 % m) := go
  clear e1 go
  go_wp2_with fail
  refine (left_any a m w1 ha h0 (by omega)).mono ?_
  rintro e w2 ⟨rfl, rfl⟩
  rw [HA.out]
  go_wp2_with fail
  refine (Len64_int _ _ (by omega) (by omega)).mono ?_
  rw [HLE.out]
  rintro e w3 ⟨rfl, rfl⟩
  go_wp2_with fail
  go_loopw [7, 8, 18] (fun av sv iv wx => ∃ i x y : Nat, i ≤ L ∧ iv = .int .i64 i ∧ av = .int .i64 x ∧ sv = .int .i64 y ∧ x < m ∧ y < m ∧ Hid (x = A ^ (n % 2 ^ i) % m ∧ y = A ^ 2 ^ i % m ∧ ∃ q, wx = w3.drewN q)) (fun _ _ iv _ => L - (intOf iv).toNat)
  case atStart => exact ⟨0, o, A, Nat.zero_le _, rfl, rfl, rfl, hom, hA, by rw [HO.out]; simp [Nat.mod_one], by simp [Nat.mod_eq_of_lt hA], 0, rfl⟩
  case round =>
    obtain ⟨i, x, y, hi, rfl, rfl, rfl, hx, hy, HR⟩ := hrel
    by_cases hlt : i < L
    · have hy2 : y * y % m < m := Nat.mod_lt _ h0
      obtain ⟨y2, gy⟩ : ∃ y2, y2 = y * y % m := ⟨_, rfl⟩
      have HY2 : Hid (y2 = A ^ 2 ^ (i + 1) % m) := by show _ = _; rw [gy, HR.out.2.1, pow_sq]
      have HYE : Hid (y * y % m = y2) := gy.symm
      rw [← gy] at hy2
      clear gy
      rcases Nat.mod_two_eq_zero_or_one (n / 2 ^ i) with hb | hb
      · have hbit := bit_i64 n i 0 (by omega) hb
        have HX2 : Hid (x = A ^ (n % 2 ^ (i + 1)) % m) := by show _ = _; rw [HR.out.1, pow_no_bit _ _ _ _ hb]
        clear hb
        go_wp2_with fail
        refine (productLeft_any y y m _ hy hy hm).mono ?_
        rw [HYE.out]
        rintro e w4 ⟨rfl, q4, rfl⟩
        go_wp2
        go_roundw
        case rel =>
          obtain ⟨q, hq⟩ := HR.out.2.2
          exact ⟨i + 1, x, y2, by omega, by go_num, rfl, rfl, hx, hy2, HX2.out, HY2.out, drewN_more ⟨q, hq⟩ _⟩
        case measure => simp [intOf]; omega
      · have hbit := bit_i64 n i 1 (by omega) hb
        have hx2 : x * y % m < m := Nat.mod_lt _ h0
        obtain ⟨x2, gx⟩ : ∃ x2, x2 = x * y % m := ⟨_, rfl⟩
        have HX2 : Hid (x2 = A ^ (n % 2 ^ (i + 1)) % m) := by show _ = _; rw [gx, HR.out.1, HR.out.2.1, pow_one_bit _ _ _ _ hb]
        have HXE : Hid (x * y % m = x2) := gx.symm
        rw [← gx] at hx2
        clear hb gx
        go_wp2_with fail
        refine (productLeft_any x y m _ hx hy hm).mono ?_
        rw [HXE.out]
        rintro e w4 ⟨rfl, q4, rfl⟩
        go_wp2_with fail
        refine (productLeft_any y y m _ hy hy hm).mono ?_
        rw [HYE.out]
        rintro e w5 ⟨rfl, q5, rfl⟩
        go_wp2
        go_roundw
        case rel =>
          obtain ⟨q, hq⟩ := HR.out.2.2
          exact ⟨i + 1, x2, y2, by omega, by go_num, rfl, rfl, hx2, hy2, HX2.out, HY2.out, drewN_more ⟨q, hq⟩ _⟩
        case measure => simp [intOf]; omega
    · obtain rfl : i = L := by omega
      have HE : Hid (x = A ^ n % m) := by
        have h := HR.out.1
        rw [Nat.mod_eq_of_lt HL.out] at h
        exact h
      obtain ⟨q, rfl⟩ := HR.out.2.2
      go_wp2
      go_ret
      rw [HE.out]
      exact ⟨rfl, q, rfl⟩

end Go.Proofs.YtbeceimopamllaaDoor
end

section
/- Contracts: the calls Power and Inverse. -/
set_option linter.unusedSimpArgs false
set_option linter.unusedVariables false
set_option maxRecDepth 100000
namespace Go.Proofs.YtbeceimopamllaaDoor
open Go.RowKit

theorem triple_cells (a b c : Int) (W : World) (B : Nat) (h0 : W.cell? ⟨B, 0, none⟩ = some (.int .i64 a)) (h1 : W.cell? ⟨B, 1, none⟩ = some (.int .i64 b)) (h2 : W.cell? ⟨B, 2, none⟩ = some (.int .i64 c)) :
    ∀ j, j < [a, b, c].length → W.cell? ⟨B, 0 + j, none⟩ = some (.int .i64 ([a, b, c].getD j 0)) := by
  intro j hj
  match j, hj with
  | 0, _ => exact h0
  | 1, _ => exact h1
  | 2, _ => exact h2

def okB3 (a b c : Int) : Bool := numB a && numB b && numB c

theorem okB3_bounds {a b c : Int} (h : okB3 a b c = true) : a.natAbs ≤ 1000000000000000000 ∧ b.natAbs ≤ 1000000000000000000 ∧ c.natAbs ≤ 1000000000000000000 := by
  unfold okB3 at h; rw [Bool.and_eq_true, Bool.and_eq_true] at h
  have h1 := numB_true h.1.1; have h2 := numB_true h.1.2; have h3 := numB_true h.2; omega
theorem okB3_nf {a b c : Int} (h : okB3 a b c = true) : nf 0 [a, b, c] = (0, 0) := by
  unfold okB3 at h; rw [Bool.and_eq_true, Bool.and_eq_true] at h
  simp [nf, h.1.1, h.1.2, h.2]
theorem okB3_ne {a b c : Int} (h : okB3 a b c = false) : ((nf 0 [a, b, c]).1 != 0) = true := by
  unfold okB3 at h; unfold nf nf nf nf; cases h1 : numB a <;> cases h2 : numB b <;> cases h3 : numB c <;> simp_all

theorem okB_ne {a b : Int} (h : okB a b = false) : ((nf 0 [a, b]).1 != 0) = true := by
  unfold okB at h; unfold nf nf nf; cases h1 : numB a <;> cases h2 : numB b <;> simp_all

theorem inv_of_bez {a m u v : Int} (hm : 0 < m) (hg : Int.gcd a m = 1) (h : Bez a m u v) : 0 ≤ u ∧ u < m ∧ (u * a) % m = 1 % m := by
  have h1 := h.low (by omega)
  have h2 := h.high (by omega)
  have h3 := h.lin
  rw [hg] at h2 h3
  refine ⟨h1, by rw [Nat.div_one] at h2; omega, ?_⟩
  have e : u * a = 1 + m * (-v) := by rw [Int.mul_neg, Int.mul_comm m]; omega
  rw [e, Int.add_mul_emod_self_left]

set_option maxHeartbeats 400000 in
theorem Inverse_bad (a m : Int) (w : World) (h : okB a m = false) :
    Calls Tryd.prog 66 #[.int .i64 a, .int .i64 m] w fun e w' => e = .returned (.tuple #[.int .i64 0, .agg #[.int .i64 (nf 0 [a, m]).1, .int .i64 (nf 0 [a, m]).2]]) ∧ Below w.heap.size w w' := by
  have hne : ((nf 0 [a, m]).1 != 0) = true := okB_ne h
  obtain ⟨c', d', hcd⟩ : ∃ c' d', nf 0 [a, m] = (c', d') := ⟨_, _, rfl⟩
  rw [hcd] at hne ⊢
  have HCD : Hid (nf 0 [a, m] = (c', d')) := hcd
  clear hcd h
  simp only at hne ⊢
  go_enter Tryd.func66, Tryd.ntmps66
  go_wp2_with fail
  refine (numbersFault_any [a, m] _ 0 _ _ (by simp) ?_ ?_).mono ?_
  · simp
  · exact two_cells a m _ _ (by simp) (by simp)
  rw [HCD.out]
  rintro e w1 ⟨rfl, hb⟩
  have hz : w.heap.size < w1.heap.size := by have := hb.size; simp at this; omega
  have q0 : w1.cell? ⟨w.heap.size, 0, none⟩ = some (.int .i64 0) := cell_later hb (by simp)
  have q1 : w1.cell? ⟨w.heap.size, 1, none⟩ = some (.int .i64 0) := cell_later hb (by simp)
  have q2 : w1.frozen? ⟨w.heap.size, 0, none⟩ = false := (hb.frozen (p := ⟨w.heap.size, 0, none⟩) (by simp; omega)).trans (by simp)
  have q3 : w1.frozen? ⟨w.heap.size, 1, none⟩ = false := (hb.frozen (p := ⟨w.heap.size, 1, none⟩) (by simp; omega)).trans (by simp)
  go_wp2
  go_region
  all_goals
    go_wp2
    refine bodyPost_ret (v := .tuple #[.int .i64 0, .agg #[.int .i64 c', .int .i64 d']]) (by simp [results, Tryd.results66, go_sem, q0, q1, hz]) rfl ⟨rfl, ?_⟩
    refine Below.drew (Below.alloc (Below.setCell (Below.setCell (Below.trans (Below.alloc (Below.alloc (Below.refl _ _) ?_ _) ?_ _) (hb.mono ?_)) ?_ _) ?_ _) ?_ _) <;> first | omega | (simp; done) | (simp; omega)

set_option maxHeartbeats 400000 in
theorem Inverse_low (a m : Int) (w : World) (h : okB a m = true) (hm : m < 1) :
    Calls Tryd.prog 66 #[.int .i64 a, .int .i64 m] w fun e w' => e = .returned (.tuple #[.int .i64 0, .agg #[.int .i64 3, .int .i64 1]]) ∧ Below w.heap.size w w' := by
  have HCD : Hid (nf 0 [a, m] = (0, 0)) := okB_nf h
  clear h
  go_enter Tryd.func66, Tryd.ntmps66
  go_wp2_with fail
  refine (numbersFault_any [a, m] _ 0 _ _ (by simp) ?_ ?_).mono ?_
  · simp
  · exact two_cells a m _ _ (by simp) (by simp)
  rw [HCD.out]
  rintro e w1 ⟨rfl, hb⟩
  have hz : w.heap.size < w1.heap.size := by have := hb.size; simp at this; omega
  have q0 : w1.cell? ⟨w.heap.size, 0, none⟩ = some (.int .i64 0) := cell_later hb (by simp)
  have q1 : w1.cell? ⟨w.heap.size, 1, none⟩ = some (.int .i64 0) := cell_later hb (by simp)
  have q2 : w1.frozen? ⟨w.heap.size, 0, none⟩ = false := (hb.frozen (p := ⟨w.heap.size, 0, none⟩) (by simp; omega)).trans (by simp)
  have q3 : w1.frozen? ⟨w.heap.size, 1, none⟩ = false := (hb.frozen (p := ⟨w.heap.size, 1, none⟩) (by simp; omega)).trans (by simp)
  go_wp2
  refine bodyPost_ret (v := .tuple #[.int .i64 0, .agg #[.int .i64 3, .int .i64 1]]) (by simp [results, Tryd.results66, go_sem, q0, q1, hz]) rfl ⟨rfl, ?_⟩
  refine Below.alloc (Below.setCell (Below.setCell (Below.trans (Below.alloc (Below.alloc (Below.refl _ _) ?_ _) ?_ _) (hb.mono ?_)) ?_ _) ?_ _) ?_ _ <;> first | omega | (simp; done) | (simp; omega)

set_option maxHeartbeats 400000 in
theorem Inverse_none (a m : Int) (w : World) (h : okB a m = true) (hm : ¬ m < 1) (hg : Int.gcd a m ≠ 1) :
    Calls Tryd.prog 66 #[.int .i64 a, .int .i64 m] w fun e w' => e = .returned (.tuple #[.int .i64 0, .agg #[.int .i64 5, .int .i64 0]]) ∧ Below w.heap.size w w' := by
  have HCD : Hid (nf 0 [a, m] = (0, 0)) := okB_nf h
  obtain ⟨b1, b2⟩ := okB_bounds h
  have t1 : ((Int.gcd a m : Int) != 1) = true := by simp; omega
  clear h
  go_enter Tryd.func66, Tryd.ntmps66
  go_wp2_with fail
  refine (numbersFault_any [a, m] _ 0 _ _ (by simp) ?_ ?_).mono ?_
  · simp
  · exact two_cells a m _ _ (by simp) (by simp)
  rw [HCD.out]
  rintro e w1 ⟨rfl, hb⟩
  have hz : w.heap.size < w1.heap.size := by have := hb.size; simp at this; omega
  have q0 : w1.cell? ⟨w.heap.size, 0, none⟩ = some (.int .i64 0) := cell_later hb (by simp)
  have q1 : w1.cell? ⟨w.heap.size, 1, none⟩ = some (.int .i64 0) := cell_later hb (by simp)
  have q2 : w1.frozen? ⟨w.heap.size, 0, none⟩ = false := (hb.frozen (p := ⟨w.heap.size, 0, none⟩) (by simp; omega)).trans (by simp)
  have q3 : w1.frozen? ⟨w.heap.size, 1, none⟩ = false := (hb.frozen (p := ⟨w.heap.size, 1, none⟩) (by simp; omega)).trans (by simp)
  go_wp2_with fail
  refine (bezout_any a m _ b1 b2).mono ?_
  rintro e w2 ⟨u, v, rfl, hbz, q, rfl⟩
  go_wp2
  refine bodyPost_ret (v := .tuple #[.int .i64 0, .agg #[.int .i64 5, .int .i64 0]]) (by simp [results, Tryd.results66, go_sem, q0, q1, hz]) rfl ⟨rfl, ?_⟩
  refine Below.setCell (Below.setCell (below_drewN' (Below.alloc (Below.trans (Below.alloc (Below.alloc (Below.refl _ _) ?_ _) ?_ _) (hb.mono ?_)) ?_ _)) ?_ _) ?_ _ <;> first | omega | (simp; done) | (simp; omega)

set_option maxHeartbeats 400000 in
theorem Inverse_ok (a m : Int) (w : World) (h : okB a m = true) (hm : ¬ m < 1) (hg : Int.gcd a m = 1) :
    Calls Tryd.prog 66 #[.int .i64 a, .int .i64 m] w fun e w' => ∃ u : Int, e = .returned (.tuple #[.int .i64 u, .agg #[.int .i64 0, .int .i64 0]]) ∧ 0 ≤ u ∧ u < m ∧ (u * a) % m = 1 % m ∧ Below w.heap.size w w' := by
  have HCD : Hid (nf 0 [a, m] = (0, 0)) := okB_nf h
  obtain ⟨b1, b2⟩ := okB_bounds h
  have HG : Hid (Int.gcd a m = 1) := hg
  clear hg
  clear h
  go_enter Tryd.func66, Tryd.ntmps66
  go_wp2_with fail
  refine (numbersFault_any [a, m] _ 0 _ _ (by simp) ?_ ?_).mono ?_
  · simp
  · exact two_cells a m _ _ (by simp) (by simp)
  rw [HCD.out]
  rintro e w1 ⟨rfl, hb⟩
  have hz : w.heap.size < w1.heap.size := by have := hb.size; simp at this; omega
  have q0 : w1.cell? ⟨w.heap.size, 0, none⟩ = some (.int .i64 0) := cell_later hb (by simp)
  have q1 : w1.cell? ⟨w.heap.size, 1, none⟩ = some (.int .i64 0) := cell_later hb (by simp)
  have q2 : w1.frozen? ⟨w.heap.size, 0, none⟩ = false := (hb.frozen (p := ⟨w.heap.size, 0, none⟩) (by simp; omega)).trans (by simp)
  have q3 : w1.frozen? ⟨w.heap.size, 1, none⟩ = false := (hb.frozen (p := ⟨w.heap.size, 1, none⟩) (by simp; omega)).trans (by simp)
  go_wp2_with fail
  refine (bezout_any a m _ b1 b2).mono ?_
  rw [HG.out]
  rintro e w2 ⟨u, v, rfl, hbz, q, rfl⟩
  have HU : Hid (0 ≤ u ∧ u < m ∧ (u * a) % m = 1 % m) := inv_of_bez (by omega) HG.out hbz
  clear hbz
  go_wp2
  refine bodyPost_ret (v := .tuple #[.int .i64 u, .agg #[.int .i64 0, .int .i64 0]]) (by simp [results, Tryd.results66, go_sem, q0, q1, hz]) rfl ⟨u, rfl, HU.out.1, HU.out.2.1, HU.out.2.2, ?_⟩
  refine Below.setCell (Below.setCell (below_drewN' (Below.alloc (Below.trans (Below.alloc (Below.alloc (Below.refl _ _) ?_ _) ?_ _) (hb.mono ?_)) ?_ _)) ?_ _) ?_ _ <;> first | omega | (simp; done) | (simp; omega)


end Go.Proofs.YtbeceimopamllaaDoor
end

section
/- A fault that a variable holds. -/
set_option linter.unusedSimpArgs false
set_option linter.unusedVariables false
set_option maxRecDepth 100000
namespace Go.Proofs.YtbeceimopamllaaDoor
open Go.RowKit

/-- A fault that a variable holds, in block b. -/
structure Sv (b : Nat) (c d : Int) (w : World) : Prop where
  c0 : w.cell? ⟨b, 0, none⟩ = some (.int .i64 c)
  c1 : w.cell? ⟨b, 1, none⟩ = some (.int .i64 d)
  f0 : w.frozen? ⟨b, 0, none⟩ = false
  f1 : w.frozen? ⟨b, 1, none⟩ = false
  lt : b < w.heap.size

theorem Sv.below {b : Nat} {c d : Int} {w w' : World} (h : Sv b c d w) (k : Below w.heap.size w w') : Sv b c d w' :=
  ⟨cell_later k h.c0, cell_later k h.c1, (k.frozen (p := ⟨b, 0, none⟩) h.lt).trans h.f0, (k.frozen (p := ⟨b, 1, none⟩) h.lt).trans h.f1, Nat.lt_of_lt_of_le h.lt k.size⟩
theorem Sv.drew {b : Nat} {c d : Int} {w : World} (h : Sv b c d w) : Sv b c d w.drew := ⟨h.c0, h.c1, h.f0, h.f1, h.lt⟩
theorem Sv.drewN {b n : Nat} {c d : Int} {w : World} (h : Sv b c d w) : Sv b c d (w.drewN n) := h.below (below_drewN' (Below.refl _ _))
theorem Sv.alloc {b : Nat} {c d : Int} {w : World} (h : Sv b c d w) (C : Array Value) (t : TypeId) : Sv b c d (w.alloc (.cells C t)) := h.below (Below.alloc (Below.refl _ _) (Nat.le_refl _) _)
theorem Sv.new (c d : Int) (w : World) : Sv w.heap.size c d (w.alloc (.cells #[.int .i64 c, .int .i64 d] 23)) :=
  ⟨by simp, by simp, by simp, by simp, by simp⟩
theorem Sv.set {b : Nat} {c d : Int} {w : World} (h : Sv b c d w) (x y : Int) : Sv b x y ((w.setCell ⟨b, 0, none⟩ (.int .i64 x)).setCell ⟨b, 1, none⟩ (.int .i64 y)) := by
  obtain ⟨c0, c1, f0, f1, lt⟩ := h
  exact ⟨by go_simp, by go_simp, by go_simp, by go_simp, by simpa using lt⟩
theorem Sv.other {b b' : Nat} {c d : Int} {w : World} (h : Sv b c d w) (x y : Value) (hne : b' ≠ b) : Sv b c d ((w.setCell ⟨b', 0, none⟩ x).setCell ⟨b', 1, none⟩ y) := by
  have k : ∀ v : World, ∀ o : Nat, ∀ z : Value, (v.setCell ⟨b', o, none⟩ z).heap[b]? = v.heap[b]? := fun v o z => Below.heap_setCell _ _ _ _ (Ne.symm hne)
  have e : ((w.setCell ⟨b', 0, none⟩ x).setCell ⟨b', 1, none⟩ y).heap[b]? = w.heap[b]? := (k _ _ _).trans (k _ _ _)
  refine ⟨?_, ?_, ?_, ?_, by simpa using h.lt⟩
  · exact (World.cell?_of_block e).trans h.c0
  · exact (World.cell?_of_block e).trans h.c1
  · exact (World.frozen?_of_block e).trans h.f0
  · exact (World.frozen?_of_block e).trans h.f1

end Go.Proofs.YtbeceimopamllaaDoor
end

section
/- A range over an iterator that keeps a list of its own in one block; the body may write into blocks of its own. -/
set_option linter.unusedSimpArgs false
set_option linter.unusedVariables false
set_option maxRecDepth 100000
namespace Go.Proofs.YtbeceimopamllaaDoor
open Go.RowKit

/-- The blocks of S that were there are as they were. -/
structure KP (S : Nat → Prop) (W W' : World) : Prop where
  size : W.heap.size ≤ W'.heap.size
  block : ∀ k, S k → k < W.heap.size → W'.heap[k]? = W.heap[k]?
theorem KP.refl (S : Nat → Prop) (W : World) : KP S W W := ⟨Nat.le_refl _, fun _ _ _ => rfl⟩
theorem KP.trans {S : Nat → Prop} {x y z : World} (h : KP S x y) (k : KP S y z) : KP S x z :=
  ⟨Nat.le_trans h.size k.size, fun i h1 h2 => (k.block i h1 (Nat.lt_of_lt_of_le h2 h.size)).trans (h.block i h1 h2)⟩
theorem KP.mono {S S' : Nat → Prop} {x y : World} (h : KP S x y) (hS : ∀ k, S' k → S k) : KP S' x y := ⟨h.size, fun k h1 h2 => h.block k (hS k h1) h2⟩
theorem KP.setCell {S : Nat → Prop} {x y : World} (h : KP S x y) {p : Addr} (hp : ¬ S p.block) (u : Value) : KP S x (y.setCell p u) :=
  h.trans ⟨by simp [World.setCell], fun k h1 h2 => Below.heap_setCell _ _ _ _ (fun e => hp (by rw [← e]; exact h1))⟩
theorem KP.alloc {S : Nat → Prop} {x y : World} (h : KP S x y) (o : Obj) : KP S x (y.alloc o) :=
  h.trans ⟨by simp, fun k h1 h2 => Below.heap_alloc _ _ _ h2⟩
theorem KP.below {S : Nat → Prop} {x y z : World} (h : KP S x y) (k : Below y.heap.size y z) : KP S x z := h.trans ⟨k.size, fun i _ h2 => k.block i h2⟩
theorem KP.grown {S : Nat → Prop} {x y z : World} {row : Option Nat} (h : KP S x y) (hg : y.grownBy z row) (hr : ∀ r, row = some r → ¬ S r) : KP S x z :=
  h.trans ⟨hg.size, fun k h1 h2 => hg.block k h2 (fun e => hr k e.symm h1)⟩
theorem KP.put {S : Nat → Prop} (W : World) (l : Nat) (o : Obj) (hl : ¬ S l) : KP S W (W.putObj l o) :=
  ⟨by simp, fun k h1 h2 => World.putObj_heap_other (fun e => hl (e ▸ h1))⟩

theorem grownBy_more {W W' : World} (h : W.grownBy W' none) (o : Option Nat) : W.grownBy W' o :=
  ⟨h.os, h.tape, h.output, h.size, fun k hk _ => h.block k hk (by simp)⟩

/-- What is said of the world hangs not on the iterator's block, and stays where the iterator takes a new one. -/
def AbO (J : Option Nat → List Int → World → Prop) : Prop :=
  ∀ o s W W' o', J o s W → W.grownBy W' o → (o' = o ∨ ∃ g, o' = some g ∧ W.heap.size ≤ g) → J o' s W'
theorem AbO.alloc {J : Option Nat → List Int → World → Prop} (h : AbO J) {o : Option Nat} {s : List Int} {W : World} (ob : Obj) (hs : J o s W) : J o s (W.alloc ob) :=
  h o s W _ o hs (grownBy_more (World.grownBy_alloc W ob none) o) (.inl rfl)

/-- The iterator yields the numbers xs in their order, for as long as it is asked for more; the body leaves it at the last one at the latest. -/
def YieldsO (F : Fence) (n : Nat) (P : Program) (g : Nat) (xs : List Int) : Prop :=
  ∀ (l : Nat) (J Jx : Option Nat → List Int → World → Prop) (W : World), AbO J →
    (∀ o pre x W1, J o pre W1 → (∀ g, o = some g → W.heap.size ≤ g ∧ g < W1.heap.size) → W.heap.size ≤ W1.heap.size → pre ++ [x] <+: xs → YieldAt F (n - 1) P l #[.int .i64 x] W1 fun e W' =>
      (e = .returned (.bool true) ∧ J o (pre ++ [x]) W' ∧ W1.heap.size ≤ W'.heap.size ∧ ∀ g, o = some g → W'.heap[g]? = W1.heap[g]?) ∨ (e = .returned (.bool false) ∧ Jx o (pre ++ [x]) W')) →
    (∀ o W1, J o xs W1 → False) → J none [] W →
    CallsIn F n P g #[.func (.yield l) #[] #[]] W fun e W' => (∃ v, e = .returned v) ∧ ∃ o pre, Jx o pre W'

def keptO (B : Nat) (o : Option Nat) (k : Nat) : Prop := k = B ∨ k = B + 1 ∨ o = some k

def bodyPostO (B : Nat) (I : Option Nat → List Int → World → Prop) (Ix : Code → Option Nat → List Int → World → Prop) (o : Option Nat) (xs : List Int) (W : World) : Exit → Act → World → Prop
  | .normal, _, W' => KP (keptO B o) W W' ∧ I o xs W'
  | .ret, _, W' => KP (keptO B o) W W' ∧ Ix .ret o xs W'
  | .exit id, _, W' => KP (keptO B o) W W' ∧ Ix (.exit id) o xs W'
  | .goto t, _, W' => KP (keptO B o) W W' ∧ Ix (.goto t) o xs W'
  | .panic _, _, _ => False
  | .outgrown, _, _ => False

variable {F : Fence} {n : Nat} {P : Program}

theorem wpIn_rangeO {g : Operand} {ps : Array Tmp} {assign body : Code} {Q : Exit → Act → World → Prop} {a : Act} {w : World}
    (hro : F.round = none) (h1 : 1 ≤ n) {gf : Nat} (hg : a.eval g = .func (.func gf) #[] #[]) (hFg : F.fn gf) (eg : ∀ args w, (callFunc gf args).run P w = .ok (.enter gf args) w)
    {xs : List Int} (hseq : YieldsO F (n - 1) P gf xs) (hps : 1 = ps.size)
    (I : Option Nat → List Int → World → Prop) (Ix : Code → Option Nat → List Int → World → Prop) (hI : AbO I) (hIp : ∀ o s W ob, I o s W → I o s (W.putObj (w.heap.size + 1) ob)) (hIxp : ∀ c o s W ob, Ix c o s W → Ix c o s (W.putObj (w.heap.size + 1) ob)) (h0 : I none [] w) (a₁ : Int → Act)
    (hassign : ∀ (l : Nat) (x : Int) (W : World) (K : Act → World → Prop), K (a₁ x) W →
      assign.wpIn (F.inRound l) (n - 1 - 1) P (Exit.then K (fun _ _ _ => False)) { tmps := (ps.zip #[.int .i64 x]).foldl (fun t (p, v) => t.setIfInBounds p v) a.tmps, defers := [] } W)
    (hbody : ∀ (l : Nat) (o : Option Nat) (pre : List Int) (x : Int) (W : World), I o pre W → (∀ g, o = some g → w.heap.size + 2 ≤ g ∧ g < W.heap.size) → pre ++ [x] <+: xs → w.heap.size + 2 ≤ W.heap.size → body.wpIn (F.inRound l) (n - 1 - 1) P (bodyPostO w.heap.size I Ix o (pre ++ [x]) W) (a₁ x) W)
    (hend : ∀ o W, I o xs W → False)
    (hstop : ∀ (c : Code) (o : Option Nat) (pre : List Int) (W : World), Ix c o pre W → W.heap[w.heap.size]? = some (.deferred (some [])) → c.wpIn F n P Q { a with defers := { target := .collected w.heap.size, args := #[] } :: a.defers } W) :
    (Code.rangeFunc g ps assign body).wpIn F n P Q a w := by
  refine wpIn_rangeFunc ?_
  intro fn hfn
  rw [hro]
  obtain ⟨L, hL⟩ : ∃ L : LoopState → Option Code → Obj, L = fun st pe => .loop { state := st, pending := pe, fn, tmps := a.tmps, params := ps, assign, body, defers := w.heap.size } := ⟨_, rfl⟩
  obtain ⟨W1, hW1⟩ : ∃ W1, W1 = (w.alloc (.deferred (some []))).alloc (L .ready none) := ⟨_, rfl⟩
  have z1 : W1.heap.size = w.heap.size + 2 := by rw [hW1]; simp
  have dW : ∀ (X : World) (l : Nat) (o : Obj), X.heap[l]? = some o → l < X.heap.size := fun X l o h => (Array.getElem?_eq_some_iff.1 h).1
  have hR1 : W1.heap[w.heap.size + 1]? = some (L .ready none) := by
    rw [hW1]; have := World.alloc_heap_new (w.alloc (.deferred (some []))) (L .ready none); rwa [World.size_alloc] at this
  have hD1 : W1.heap[w.heap.size]? = some (.deferred (some [])) := by
    rw [hW1]; exact (Below.heap_alloc _ _ _ (by simp)).trans (World.alloc_heap_new w _)
  refine ⟨w.heap.size + 1, [{ target := .collected w.heap.size, args := #[] }], W1, { target := .fn (.func gf) #[], args := #[.func (.yield (w.heap.size + 1)) #[] #[]] }, W1, gf,
    #[.func (.yield (w.heap.size + 1)) #[] #[]], W1, ?_, ?_, ?_, ?_, fun _ => h1, ?_⟩
  · rw [hW1, hL]; exact run_enterLoop_outer _ _ _ _ _
  · simp only [resolve, hg]
    simp [go_sem]
  · intro f' hf'; simp [Target.leads] at hf'; subst hf'; exact hFg
  · simp [invoke, go_sem, eg]
  · refine (hseq (w.heap.size + 1)
      (fun o pre W => (∀ g, o = some g → w.heap.size + 2 ≤ g) ∧ I o pre W ∧ W.heap[w.heap.size + 1]? = some (L .ready none) ∧ W.heap[w.heap.size]? = some (.deferred (some [])))
      (fun o pre W => ∃ c, Ix c o pre W ∧ W.heap[w.heap.size + 1]? = some (L .done (some c)) ∧ W.heap[w.heap.size]? = some (.deferred (some [])))
      W1 ?_ ?_ (fun o W h => hend o W h.2.1) ⟨(by intro g e; cases e), ?_, hR1, hD1⟩).mono ?_
    · rintro o s A B o' ⟨ho, hs, hl, hk⟩ hg' ho'
      have hA := dW _ _ _ hl
      refine ⟨?_, hI o s A B o' hs hg' ho', ?_, ?_⟩
      · rintro g' e
        rcases ho' with h | ⟨g2, h, h2⟩
        · exact ho g' (h ▸ e)
        · rw [h] at e; cases e; omega
      · exact (hg'.block _ hA (fun e => by have := ho _ e.symm; omega)).trans hl
      · exact (hg'.block _ (dW _ _ _ hk) (fun e => by have := ho _ e.symm; omega)).trans hk
    · rintro o pre x W ⟨ho, hi, hl, hk⟩ hol hsz hpre
      have hlt := dW _ _ _ hl
      have hl' := hl
      rw [hL] at hl'
      have hy := run_yield (P := P) (args := #[.int .i64 x]) hl' hps
      refine ⟨fn, _, assign, body, hy, roundIn_of_wpIn hfn (hassign _ x W _ ⟨_, run_beginRound hl' rfl, ?_⟩)⟩
      obtain ⟨Wb, hWb⟩ : ∃ Wb, Wb = W.putObj (w.heap.size + 1) (L .busy none) := ⟨_, rfl⟩
      have hl2 : Wb.heap[w.heap.size + 1]? = some (L .busy none) := by rw [hWb]; exact World.putObj_heap_same hlt
      have hk2 : Wb.heap[w.heap.size]? = some (.deferred (some [])) := by rw [hWb]; exact (World.putObj_heap_other (by omega)).trans hk
      have hi2 : I o pre Wb := by rw [hWb]; exact hIp _ _ _ _ hi
      have zb : Wb.heap.size = W.heap.size := by rw [hWb]; simp
      have kb : ∀ g, o = some g → Wb.heap[g]? = W.heap[g]? := fun g e => by rw [hWb]; exact World.putObj_heap_other (by have := ho g e; omega)
      have fin : ∀ (jump : Option Code) (W3 : World), KP (keptO w.heap.size o) Wb W3 →
          (Instr.endRound (w.heap.size + 1) jump).run P W3 = .ok (.bool jump.isNone) (W3.putObj (w.heap.size + 1) (L (if jump.isNone then .ready else .done) jump)) ∧
          (W3.putObj (w.heap.size + 1) (L (if jump.isNone then .ready else .done) jump)).heap[w.heap.size + 1]? = some (L (if jump.isNone then .ready else .done) jump) ∧
          (W3.putObj (w.heap.size + 1) (L (if jump.isNone then .ready else .done) jump)).heap[w.heap.size]? = some (.deferred (some [])) ∧
          W.heap.size ≤ (W3.putObj (w.heap.size + 1) (L (if jump.isNone then .ready else .done) jump)).heap.size ∧
          (∀ g, o = some g → (W3.putObj (w.heap.size + 1) (L (if jump.isNone then .ready else .done) jump)).heap[g]? = W.heap[g]?) := fun jump W3 h3 => by
        have hl3 : W3.heap[w.heap.size + 1]? = some (L .busy none) := (h3.block _ (.inr (.inl rfl)) (by omega)).trans hl2
        have hk3 : W3.heap[w.heap.size]? = some (.deferred (some [])) := (h3.block _ (.inl rfl) (by omega)).trans hk2
        have hl4 := hl3
        rw [hL] at hl4
        have he := run_endRound (P := P) jump hl4
        refine ⟨by rw [hL]; exact he, World.putObj_heap_same (dW _ _ _ hl3), (World.putObj_heap_other (by omega)).trans hk3, ?_, ?_⟩
        · have := h3.size; simp; omega
        · intro g e
          have h5 := ho g e
          have h6 := (hol g e).2
          exact (World.putObj_heap_other (by omega)).trans ((h3.block g (.inr (.inr e)) (by omega)).trans (kb g e))
      have hb := hbody (w.heap.size + 1) o pre x Wb hi2 (fun g e => ⟨ho g e, by rw [zb]; exact (hol g e).2⟩) hpre (by omega)
      have hb2 : body.wpIn (F.inRound (w.heap.size + 1)) (n - 1 - 1) P (bodyPostO w.heap.size I Ix o (pre ++ [x]) Wb) (a₁ x) (W.putObj (w.heap.size + 1) (L .busy none)) := by rw [← hWb]; exact hb
      rw [hL] at hb2
      refine wpIn_mono hb2 ?_
      rintro e a3 W3 hp
      cases e with
      | normal =>
        obtain ⟨h3, hi3⟩ := hp
        obtain ⟨hr, hl4, hk4, kk⟩ := fin none W3 h3
        exact ⟨_, _, hr, .inl ⟨rfl, ⟨ho, hIp _ _ _ _ hi3, hl4, hk4⟩, kk⟩⟩
      | ret =>
        obtain ⟨h3, hi3⟩ := hp
        obtain ⟨hr, hl4, hk4, kk⟩ := fin (some .ret) W3 h3
        exact ⟨_, _, hr, .inr ⟨rfl, .ret, hIxp _ _ _ _ _ hi3, hl4, hk4⟩⟩
      | exit id =>
        obtain ⟨h3, hi3⟩ := hp
        obtain ⟨hr, hl4, hk4, kk⟩ := fin (some (.exit id)) W3 h3
        exact ⟨_, _, hr, .inr ⟨rfl, .exit id, hIxp _ _ _ _ _ hi3, hl4, hk4⟩⟩
      | goto t =>
        obtain ⟨h3, hi3⟩ := hp
        obtain ⟨hr, hl4, hk4, kk⟩ := fin (some (.goto t)) W3 h3
        exact ⟨_, _, hr, .inr ⟨rfl, .goto t, hIxp _ _ _ _ _ hi3, hl4, hk4⟩⟩
      | panic ch => exact hp.elim
      | outgrown => exact hp.elim
    · rw [hW1]; exact hI.alloc _ (hI.alloc _ h0)
    · rintro e W2 ⟨⟨v, rfl⟩, o, pre, c, hi, hl, hk⟩
      have hl' := hl
      rw [hL] at hl'
      exact ⟨some c, _, run_endLoop (P := P) hl' (by simp), hstop c o pre _ (hIxp _ _ _ _ _ hi) ((World.putObj_heap_other (by omega)).trans hk)⟩

/-- A variable in a block of its own. -/
structure Vr (b : Nat) (v : Value) (W : World) : Prop where
  c : W.cell? ⟨b, 0, none⟩ = some v
  f : W.frozen? ⟨b, 0, none⟩ = false
theorem Vr.lt {b : Nat} {v : Value} {W : World} (h : Vr b v W) : b < W.heap.size := by
  rcases Nat.lt_or_ge b W.heap.size with k | k
  · exact k
  · have h1 := h.c
    simp only [World.cell?, Array.getElem?_eq_none k] at h1; cases h1
theorem Vr.grown {b : Nat} {v : Value} {W W' : World} {row : Option Nat} (h : Vr b v W) (hg : W.grownBy W' row) (hr : row ≠ some b) : Vr b v W' :=
  ⟨hg.cell h.c (fun e => hr e.symm), by rw [World.frozen?_of_block (w := W) (a := ⟨b, 0, none⟩) (hg.block b h.lt (fun e => hr e.symm))]; exact h.f⟩
theorem Vr.set {b : Nat} {v : Value} {W : World} (h : Vr b v W) (u : Value) : Vr b u (W.setCell ⟨b, 0, none⟩ u) :=
  ⟨World.cell?_setCell_same' _ _ _ (by rw [h.c]; rfl), by rw [World.frozen?_setCell]; exact h.f⟩
theorem Vr.other {b b' : Nat} {v : Value} {W : World} (h : Vr b v W) (u : Value) (hne : b ≠ b') : Vr b v (W.setCell ⟨b', 0, none⟩ u) :=
  ⟨by rw [World.cell?_of_block (w := W) (a := ⟨b, 0, none⟩) (Below.heap_setCell W _ u b hne)]; exact h.c, by rw [World.frozen?_of_block (w := W) (a := ⟨b, 0, none⟩) (Below.heap_setCell W _ u b hne)]; exact h.f⟩
theorem Vr.put {b l : Nat} {v : Value} {W : World} (h : Vr b v W) (ob : Obj) (hl : b ≠ l) : Vr b v (W.putObj l ob) :=
  h.grown (grownBy_putObj' W l ob) (fun e => hl (by cases e; rfl))
theorem Vr.below {b : Nat} {v : Value} {W W' : World} (h : Vr b v W) (k : Below W.heap.size W W') : Vr b v W' :=
  ⟨(k.cell (p := ⟨b, 0, none⟩) h.lt).trans h.c, by rw [World.frozen?_of_block (w := W) (a := ⟨b, 0, none⟩) (k.block b h.lt)]; exact h.f⟩

/-- The iterator's block is none of those below B. -/
def ow (B : Nat) (o : Option Nat) (W : World) : Prop := B ≤ W.heap.size ∧ ∀ g, o = some g → B ≤ g
theorem ow.step {B : Nat} {o o' : Option Nat} {W W' : World} (h : ow B o W) (hg : W.grownBy W' o) (ho : o' = o ∨ ∃ g, o' = some g ∧ W.heap.size ≤ g) : ow B o' W' := by
  refine ⟨Nat.le_trans h.1 hg.size, ?_⟩
  intro g e
  rcases ho with h1 | ⟨g2, h1, h2⟩
  · exact h.2 g (h1 ▸ e)
  · rw [h1] at e; cases e; exact Nat.le_trans h.1 h2
theorem ow.ne {B b : Nat} {o : Option Nat} {W : World} (h : ow B o W) (hb : b < B) : o ≠ some b := fun e => by have := h.2 b e; omega
theorem ow.put {B l : Nat} {o : Option Nat} {W : World} (h : ow B o W) (ob : Obj) : ow B o (W.putObj l ob) := ⟨by simpa using h.1, h.2⟩
theorem ow.size {B : Nat} {o : Option Nat} {W W' : World} (h : ow B o W) (hs : W.heap.size ≤ W'.heap.size) : ow B o W' := ⟨Nat.le_trans h.1 hs, h.2⟩

theorem YieldsO.sub {F : Fence} {n : Nat} {P : Program} {g : Nat} {xs ys : List Int} (h : YieldsO F n P g xs) (hy : ys <+: xs) : YieldsO F n P g ys := by
  intro l J Jx W hJ hY hend h0
  refine h l (fun o pre W => J o pre W ∧ pre <+: ys) Jx W ?_ ?_ ?_ ⟨h0, List.nil_prefix⟩
  · intro o s A B o' hs hg ho; exact ⟨hJ o s A B o' hs.1 hg ho, hs.2⟩
  · intro o pre x W1 hs h1 h2 hpre
    have hne : pre ≠ ys := by rintro rfl; exact hend o W1 hs.1
    have hlt : pre.length < ys.length := by
      rcases Nat.lt_or_ge pre.length ys.length with k | k
      · exact k
      · exact absurd (hs.2.eq_of_length (Nat.le_antisymm hs.2.length_le k)) hne
    have hp : pre ++ [x] <+: ys := List.prefix_of_prefix_length_le hpre hy (by simp; omega)
    obtain ⟨fn, tmps, assign, body, hyl, hR⟩ := hY o pre x W1 hs.1 h1 h2 hp
    refine ⟨fn, tmps, assign, body, hyl, hR.mono ?_⟩
    rintro e W' (⟨e1, e2, e3⟩ | e1)
    · exact .inl ⟨e1, ⟨e2, hp⟩, e3⟩
    · exact .inr e1
  · intro o W1 hs
    have : xs = ys := (hs.2.eq_of_length (Nat.le_antisymm hs.2.length_le hy.length_le))
    subst this
    exact hend o W1 hs.1

theorem ownsRow_lower {w : World} {B B' e n : Nat} {v : Value} {xs : List Value} (h : w.ownsRow B e 1 v n xs) (hB : B' ≤ B) : w.ownsRow B' e 1 v n xs := by
  obtain ⟨h1, h2⟩ := h
  refine ⟨h1, ?_⟩
  rcases h2 with h3 | ⟨g, cap, cur, h3, h4, h5⟩
  · exact .inl h3
  · exact .inr ⟨g, cap, cur, h3, Nat.le_trans hB h4, h5⟩
theorem ownsRow_put {w : World} {B e n g c l : Nat} {xs : List Value} {o : Obj} (h : w.ownsRow B e 1 (.slice (some ⟨g, 0, none⟩) n c) n xs) (hl : g ≠ l) : (w.putObj l o).ownsRow B e 1 (.slice (some ⟨g, 0, none⟩) n c) n xs :=
  h.kept (grownBy_putObj' w l o) (.inr (by intro e; simp only [Value.ownBlock, Option.some.injEq] at e; exact hl e))

end Go.Proofs.YtbeceimopamllaaDoor
end

section
/- A block of cells, known whole. -/
set_option linter.unusedSimpArgs false
set_option linter.unusedVariables false
set_option maxRecDepth 100000
namespace Go.Proofs.YtbeceimopamllaaDoor
open Go.RowKit

/-- The block b holds these cells, none of them frozen. -/
def Cl (b : Nat) (l : List Value) (t : TypeId) (w : World) : Prop := w.heap[b]? = some (.cells l.toArray t (0, 0))
theorem Cl.lt {b : Nat} {l : List Value} {t : TypeId} {w : World} (h : Cl b l t w) : b < w.heap.size := (Array.getElem?_eq_some_iff.1 h).1
theorem Cl.cell {b : Nat} {l : List Value} {t : TypeId} {w : World} (h : Cl b l t w) (i : Nat) : w.cell? ⟨b, i, none⟩ = l[i]? := by
  unfold Cl at h
  simp [World.cell?, h]
theorem Cl.frozen {b : Nat} {l : List Value} {t : TypeId} {w : World} (h : Cl b l t w) (i : Nat) : w.frozen? ⟨b, i, none⟩ = false := by
  unfold Cl at h
  simp [World.frozen?, h]
theorem Cl.below {b : Nat} {l : List Value} {t : TypeId} {w w' : World} (h : Cl b l t w) (k : Below w.heap.size w w') : Cl b l t w' := (k.block b h.lt).trans h
theorem Cl.new (l : List Value) (t : TypeId) (w : World) : Cl w.heap.size l t (w.alloc (.cells l.toArray t)) := World.alloc_heap_new w _
theorem Cl.alloc {b : Nat} {l : List Value} {t : TypeId} {w : World} (h : Cl b l t w) (o : Obj) : Cl b l t (w.alloc o) := h.below (Below.alloc (Below.refl _ _) (Nat.le_refl _) _)
theorem Cl.drewN {b n : Nat} {l : List Value} {t : TypeId} {w : World} (h : Cl b l t w) : Cl b l t (w.drewN n) := h.below (below_drewN' (Below.refl _ _))
theorem Cl.drew {b : Nat} {l : List Value} {t : TypeId} {w : World} (h : Cl b l t w) : Cl b l t w.drew := h
theorem Cl.set {b : Nat} {l : List Value} {t : TypeId} {w : World} (h : Cl b l t w) (i : Nat) (v : Value) : Cl b (l.set i v) t (w.setCell ⟨b, i, none⟩ v) := by
  have := heap_setCell_same w b i l.toArray t v h
  unfold Cl
  rw [this]
  simp
theorem Cl.other {b : Nat} {l : List Value} {t : TypeId} {w : World} (h : Cl b l t w) {p : Addr} (hp : b ≠ p.block) (v : Value) : Cl b l t (w.setCell p v) :=
  (Below.heap_setCell w p v b hp).trans h
theorem Cl.grown {b : Nat} {l : List Value} {t : TypeId} {w w' : World} {row : Option Nat} (h : Cl b l t w) (hg : w.grownBy w' row) (hr : row ≠ some b) : Cl b l t w' :=
  (hg.block b h.lt (fun e => hr e.symm)).trans h

end Go.Proofs.YtbeceimopamllaaDoor
end

section
/- A region that draws its order, holds loads beside calls, and ends in one call (number g) that may write the very cells that were loaded: what g waits for may be taken first. -/
set_option linter.unusedSimpArgs false
set_option linter.unusedVariables false
set_option maxRecDepth 100000
namespace Go.Proofs.YtbeceimopamllaaDoor
open Go.RowKit

section
variable {P : Program} {ops : Array Oper} {Q : Exit → Act → World → Prop} {md : Region.Mode} {S : World → Prop}

/-- Number g waits for number i, by a chain of edges. -/
def waitsB (md : Region.Mode) (ops : Array Oper) (i : Nat) : Nat → Nat → Bool
  | 0, _ => false
  | fuel + 1, g => match ops[g]? with
    | none => false
    | some o => o.after.any fun e => Region.binds md e && (e.on == i || waitsB md ops i fuel e.on)

/-- What has come up has come up behind all that it waits for. -/
def Closed (md : Region.Mode) (ops : Array Oper) (listed : Array Bool) : Prop :=
  ∀ j oj, ops[j]? = some oj → listed.getD j false = true → ∀ e ∈ oj.after, Region.binds md e = true → listed.getD e.on false = true

def closedB (md : Region.Mode) (ops : Array Oper) (listed : Array Bool) : Bool :=
  (List.range ops.size).all fun j => match ops[j]? with
    | none => true
    | some oj => !listed.getD j false || oj.after.all fun e => !Region.binds md e || listed.getD e.on false

theorem closed_of {listed : Array Bool} (h : closedB md ops listed = true) : Closed md ops listed := by
  intro j oj hj hl e he hb
  simp only [closedB, List.all_eq_true, List.mem_range] at h
  have h1 := h j (Array.getElem?_eq_some_iff.1 hj).1
  simp only [hj, hl, Bool.not_true, Bool.false_or, Array.all_eq_true] at h1
  obtain ⟨k, hk, rfl⟩ := Array.getElem_of_mem he
  have h2 := h1 k hk
  simp only [hb, Bool.not_true, Bool.false_or] at h2
  exact h2

theorem Closed.step {listed : Array Bool} {j : Nat} (h : Closed md ops listed) (hj : j ∈ Region.ready md ops listed) : Closed md ops (listed.setIfInBounds j true) := by
  obtain ⟨_, o, ho, hall⟩ := mem_ready.1 hj
  intro k ok hk hl e he hb
  by_cases hkj : j = k
  · subst hkj
    rw [ho] at hk; cases hk
    exact getD_set_true (hall e he hb)
  · rw [getD_set_ne false hkj] at hl
    exact getD_set_true (h k ok hk hl e he hb)

theorem waits_unlisted {i : Nat} {listed : Array Bool} (hc : Closed md ops listed) (hi : listed.getD i false = false) :
    ∀ (fuel g : Nat), waitsB md ops i fuel g = true → listed.getD g false = false ∧ g ∉ Region.ready md ops listed := by
  intro fuel
  induction fuel with
  | zero => intro g h; simp [waitsB] at h
  | succ n ih =>
    intro g h
    simp only [waitsB] at h
    cases ho : ops[g]? with
    | none => simp [ho] at h
    | some o =>
      simp only [ho, Array.any_eq_true, Bool.and_eq_true, Bool.or_eq_true, beq_iff_eq] at h
      obtain ⟨k, hk, hb, h2⟩ := h
      have hun : listed.getD o.after[k].on false = false := by
        rcases h2 with h2 | h2
        · rw [h2]; exact hi
        · exact (ih _ h2).1
      have hmem : o.after[k] ∈ o.after := Array.getElem_mem hk
      constructor
      · cases hg : listed.getD g false
        · rfl
        · have := hc g o ho hg _ hmem hb
          rw [hun] at this; cases this
      · intro hr
        obtain ⟨_, o', ho', hall⟩ := mem_ready.1 hr
        rw [ho] at ho'; cases ho'
        have := hall _ hmem hb
        rw [hun] at this; cases this

/-- Whatever order is picked from here on; till g comes up S holds behind every operation. -/
def wpAnyG (P : Program) (md : Region.Mode) (ops : Array Oper) (Q : Exit → Act → World → Prop) (S : World → Prop) (g : Nat) : Nat → Array Bool → Act → World → Prop
  | 0, listed, a, w => Region.ready md ops listed = [] ∧ Q .normal a w
  | fuel + 1, listed, a, w =>
    (Region.ready md ops listed = [] → Q .normal a w) ∧
    ∀ i ∈ Region.ready md ops listed, wpOp P ops Q i (fun a' w' => (listed.getD g false = false → i ≠ g → S w') ∧ wpAnyG P md ops Q S g fuel (listed.setIfInBounds i true) a' w') a w

theorem wpAny_of_G {g : Nat} : ∀ (fuel : Nat) (listed : Array Bool) (a : Act) (w : World), wpAnyG P md ops Q S g fuel listed a w → wpAny P md ops Q fuel listed a w
  | 0, _, _, _, h => h
  | fuel + 1, _, _, _, h => ⟨h.1, fun i hi => wpOp_mono (fun a' w' h' => wpAny_of_G fuel _ a' w' h'.2) (h.2 i hi)⟩

theorem unlisted_of_ready {i : Nat} {listed : Array Bool} (h : i ∈ Region.ready md ops listed) : listed.getD i false = false := by
  have h0 := (mem_ready.1 h).1
  rcases Nat.lt_or_ge i listed.size with h' | h'
  · simp [h'] at h0 ⊢; exact h0
  · simp [h']

/-- Whatever has not come up and waits not for number i is apart from it. -/
def Loose (md : Region.Mode) (ops : Array Oper) (i : Nat) (oi : Oper) (listed : Array Bool) : Prop :=
  ∀ j oj, ops[j]? = some oj → j ≠ i → listed.getD j true = false → (∀ e ∈ oj.after, Region.binds md e = true → e.on ≠ i) → oi.apart ops oj = true

theorem Loose.step {i j : Nat} {oi : Oper} {listed : Array Bool} (h : Loose md ops i oi listed) (hj : listed.getD j true = false) : Loose md ops i oi (listed.setIfInBounds j true) := by
  intro k ok hk hki hun hno
  by_cases e : j = k
  · exact h k ok hk hki (e ▸ hj) hno
  · exact h k ok hk hki (by rwa [getD_set_ne true e] at hun) hno

/-- Of two that may come up neither waits for the other. -/
theorem ready_apart {i : Nat} {listed : Array Bool} (hi : i ∈ Region.ready md ops listed) {oj : Oper} (hall : ∀ e ∈ oj.after, Region.binds md e = true → listed.getD e.on false = true) :
    ∀ e ∈ oj.after, Region.binds md e = true → e.on ≠ i := by
  intro e he hb hei
  have h1 := hall e he hb
  rw [hei, unlisted_of_ready hi] at h1
  cases h1

theorem not_none_ready {i : Nat} {listed : Array Bool} {p : Prop} (hi : i ∈ Region.ready md ops listed) : Region.ready md ops listed = [] → p := fun h0 => by
  rw [h0] at hi; exact absurd hi (List.not_mem_nil)

theorem wpAnyG_first {i g n : Nat} {oi : Oper} {v : Value} (hi : ops[i]? = some oi) (hwt : waitsB md ops i n g = true) (hsel : ∀ (j : Nat) (o : Oper) cs b, ops[j]? = some o → o.op ≠ .select cs b)
    (hQ : ∀ c a w, Q (.panic c) (a.put oi.dst v) w → Q (.panic c) a w) :
    ∀ (fuel : Nat) (listed : Array Bool) (a : Act) (w : World), Closed md ops listed → Loose md ops i oi listed → i ∈ Region.ready md ops listed → YieldsIf P ops S oi v a → S w →
      wpAnyG P md ops Q S g fuel (listed.setIfInBounds i true) (a.put oi.dst v) w → wpAnyG P md ops Q S g (fuel + 1) listed a w
  | 0, listed, a, w, _, _, hr, hy, hS, H => by
    refine ⟨not_none_ready hr, fun j hj => ?_⟩
    by_cases hji : j = i
    · rw [hji] at hj ⊢; exact hy.wpOp hi hS ⟨fun _ _ => hS, H⟩
    · exact absurd (ready_mono hj hji) (by rw [H.1]; exact List.not_mem_nil)
  | fuel + 1, listed, a, w, hcl, hlo, hr, hy, hS, H => by
    refine ⟨not_none_ready hr, fun j hj => ?_⟩
    by_cases hji : j = i
    · rw [hji] at hj ⊢; exact hy.wpOp hi hS ⟨fun _ _ => hS, H⟩
    obtain ⟨gun, gnr⟩ := waits_unlisted hcl (unlisted_of_ready hr) n g hwt
    have hjg : j ≠ g := fun e => gnr (e ▸ hj)
    have hig : i ≠ g := fun e => gnr (e ▸ hr)
    obtain ⟨jun, oj, hoj, hall⟩ := mem_ready.1 hj
    have step := wpOp_putIf hoj (hlo j oj hoj hji jun (ready_apart hr hall)) (fun cs b => hsel i oi cs b hi) (fun cs b => hsel j oj cs b hoj) hQ hy (H.2 j (ready_mono hj hji))
    refine wpOp_mono (fun a' w' h3 => ?_) step
    obtain ⟨y3, s3, r3⟩ := h3
    have sw : S w' := s3 (by rw [getD_set_ne false hig]; exact gun) hjg
    rw [Array.setIfInBounds_comm _ _ (Ne.symm hji)] at r3
    exact ⟨fun _ _ => sw, wpAnyG_first hi hwt hsel hQ fuel _ a' w' (hcl.step hj) (hlo.step jun) (ready_mono hr (Ne.symm hji)) y3 sw r3⟩

/-- Take number i first. -/
theorem wpAnyG_take {i g : Nat} {oi : Oper} {v : Value} {fuel : Nat} {listed : Array Bool} {a : Act} {w : World} (hi : ops[i]? = some oi)
    (hc : (Region.noSelect ops && Region.free md ops listed i && (Region.ready md ops listed).contains i && closedB md ops listed && waitsB md ops i 12 g) = true)
    (hQ : ∀ c a w, Q (.panic c) (a.put oi.dst v) w → Q (.panic c) a w) (hy : YieldsIf P ops S oi v a) (hS : S w)
    (h : wpAnyG P md ops Q S g fuel (listed.setIfInBounds i true) (a.put oi.dst v) w) : wpAnyG P md ops Q S g (fuel + 1) listed a w := by
  simp only [Bool.and_eq_true] at hc
  obtain ⟨⟨⟨⟨hs, hf⟩, hr⟩, hcl⟩, hw⟩ := hc
  exact wpAnyG_first hi hw (Region.noSelect_spec hs) hQ fuel listed a w (closed_of hcl) (Region.free_spec hi hf) (by simpa using hr) hy hS h

/-- One alone may come up, and it is not g: behind it S is to be shown anew. -/
theorem wpAnyG_one {i g : Nat} {o : Oper} {fuel : Nat} {listed : Array Bool} {a : Act} {w : World} (ho : ops[i]? = some o) (hr : Region.ready md ops listed = [i])
    (h : ∀ K' : Act → World → Prop, Hid (∀ a w, S w → wpAnyG P md ops Q S g fuel (listed.setIfInBounds i true) a w → K' a w) → if Region.wanted o (yielded ops a.tmps) = true then Oper.wp P o a w K' Q else K' (a.put o.dst undef) w) : wpAnyG P md ops Q S g (fuel + 1) listed a w := by
  refine ⟨fun h0 => (by rw [hr] at h0; cases h0), fun j hj => ?_⟩
  rw [hr] at hj
  simp at hj
  subst hj
  exact wpOp_step ho fun K' hK => h K' (fun a w h1 h2 => hK a w ⟨fun _ _ => h1, h2⟩)

/-- One alone may come up, and it is g, or comes behind g. -/
theorem wpAnyG_last {i g : Nat} {o : Oper} {fuel : Nat} {listed : Array Bool} {a : Act} {w : World} (ho : ops[i]? = some o) (hr : Region.ready md ops listed = [i]) (hg : (listed.getD g false || i == g) = true)
    (h : ∀ K' : Act → World → Prop, Hid (∀ a w, wpAnyG P md ops Q S g fuel (listed.setIfInBounds i true) a w → K' a w) → if Region.wanted o (yielded ops a.tmps) = true then Oper.wp P o a w K' Q else K' (a.put o.dst undef) w) : wpAnyG P md ops Q S g (fuel + 1) listed a w := by
  refine ⟨fun h0 => (by rw [hr] at h0; cases h0), fun j hj => ?_⟩
  rw [hr] at hj
  simp at hj
  subst hj
  refine wpOp_step ho fun K' hK => h K' (fun a w h1 => hK a w ⟨fun h2 h3 => ?_, h1⟩)
  simp [h3] at hg
  simp [hg] at h2

theorem wpAnyG_done {g : Nat} {listed : Array Bool} {a : Act} {w : World} (hr : Region.ready md ops listed = []) (h : Q .normal a w) :
    ∀ fuel, wpAnyG P md ops Q S g fuel listed a w
  | 0 => ⟨hr, h⟩
  | _ + 1 => ⟨fun _ => h, by rw [hr]; simp⟩

theorem wp_region_G {id : Nat} {a : Act} {w : World} (S : World → Prop) (g : Nat) (hm : P.follows .mixedOrders = true) (hS : S w.drew)
    (h : S w.drew → wpAnyG P .any ops Q S g ops.size (Array.replicate ops.size false) a w.drew) : (Code.region id ops true).wp P Q a w :=
  wp_region_any hm (wpAny_of_G _ _ _ _ (h hS))
end
end Go.Proofs.YtbeceimopamllaaDoor
end
